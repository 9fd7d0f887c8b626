/-
  Layer 11 (lines): either order: drawn regions.
-/
import Derived.Test.YtjcihaohpbmogaaQpBO
import Derived.Test.YtjcihaohpbmogaaQpBQ
/- Layer 11 (lines): either order: drawn regions. -/
namespace Go.Proofs.Ytjcihaohpbmogaa.Oct
open Go.RowKit
set_option maxRecDepth 100000
set_option linter.unusedSimpArgs false
set_option linter.unusedVariables false
set_option linter.unusedSectionVars false

set_option maxRecDepth 100000 in
set_option maxHeartbeats 4000000 in
theorem ei5 {Q : Exit → Act → World → Prop} {x0 x1 x2 x3 x6 x8 x9 x10 x11 x12 x13 x14 x15 x16 x17 x18 x19 x20 x21 x22 x23 x24 x25 x26 x27 x28 x29 x30 x31 x32 x33 x34 x35 x36 x37 x38 x39 x40 x41 x42 x43 x44 x45 x46 x47 x48 x49 x50 x51 x52 x53 x54 x55 x56 x57 x58 x59 x60 x61 x62 x63 x64 x65 x66 x67 x68 x69 x70 x71 x72 x73 x74 x75 x76 x77 x78 x79 x80 x81 x82 x83 x84 x85 x86 x87 x88 x89 x90 x91 x92 x93 x94 x95 x96 x97 : Value} {ds : List Deferred} {A : World} {p d f : Nat} {G : Gm} {XU XD YU YD : List Value} {a ta b tb : Option Addr} {n c tn tc m k tm tk : Nat} {E1 E2 : Int} {P1 P2 : List PL}
    (HLd : Hid (d < A.heap.size ∧ ¬ d ∈ G.bl p)) (HX1 : Hid (A.rangeAt d 1 XU ∧ (Try.prog.info? 34).map (·.size) = some XU.length)) (HX2 : Hid (A.rangeAt d 34 XD ∧ (Try.prog.info? 34).map (·.size) = some XD.length)) (cd67 : A.cell? ⟨d, 67, none⟩ = some (.slice a n c)) (cd68 : A.cell? ⟨d, 68, none⟩ = some (.slice ta tn tc)) (HLf : Hid (f < A.heap.size ∧ ¬ f ∈ G.bl p)) (HY1 : Hid (A.rangeAt f 1 YU ∧ (Try.prog.info? 34).map (·.size) = some YU.length)) (HY2 : Hid (A.rangeAt f 34 YD ∧ (Try.prog.info? 34).map (·.size) = some YD.length)) (cf67 : A.cell? ⟨f, 67, none⟩ = some (.slice b m k)) (cf68 : A.cell? ⟨f, 68, none⟩ = some (.slice tb tm tk)) (HADD1 : Hid (∀ V, Below A.heap.size A V → Calls Try.prog 22 #[.pointer (some ⟨p, 0, none⟩), .agg XU.toArray, .agg XD.toArray, .slice a n c, .slice ta tn tc] V fun e w' => e = .returned (iv E1) ∧ ∃ G', GAfter V p G G' w' ∧ G'.ps = P1)) (HADD2 : Hid (∀ V G1, Keep (fun k => k ∈ G.bl p) A V → (GAt V p G1 ∧ G1.ps = P1 ∧ ∀ k ∈ G1.bl p, k ∈ G.bl p ∨ A.heap.size ≤ k) → Calls Try.prog 22 #[.pointer (some ⟨p, 0, none⟩), .agg YU.toArray, .agg YD.toArray, .slice b m k, .slice tb tm tk] V fun e w' => e = .returned (iv E2) ∧ ∃ G', GAfter V p G1 G' w' ∧ G'.ps = P2))
    (hQ : ∀ V3 G2, Keep (fun k => k ∈ G.bl p) A V3 → (GAt V3 p G2 ∧ G2.ps = P2 ∧ ∀ k ∈ G2.bl p, k ∈ G.bl p ∨ A.heap.size ≤ k) → Q .normal { tmps := #[x0, x1, x2, x3, .pointer (some ⟨d, 0, none⟩), .pointer (some ⟨f, 0, none⟩), x6, .pointer (some ⟨p, 0, none⟩), x8, iv E1, iv E2, x11, x12, x13, x14, x15, x16, x17, x18, x19, x20, x21, x22, x23, x24, x25, x26, x27, .pointer (some ⟨p, 0, none⟩), .pointer (some ⟨d, 1, none⟩), .agg XU.toArray, .pointer (some ⟨d, 34, none⟩), .agg XD.toArray, .pointer (some ⟨d, 67, none⟩), .slice a n c, .pointer (some ⟨d, 68, none⟩), .slice ta tn tc, iv E1, .pointer (some ⟨p, 0, none⟩), .pointer (some ⟨f, 1, none⟩), .agg YU.toArray, .pointer (some ⟨f, 34, none⟩), .agg YD.toArray, .pointer (some ⟨f, 67, none⟩), .slice b m k, .pointer (some ⟨f, 68, none⟩), .slice tb tm tk, iv E2, x48, x49, x50, x51, x52, x53, x54, x55, x56, x57, x58, x59, x60, x61, x62, x63, x64, x65, x66, x67, x68, x69, x70, x71, x72, x73, x74, x75, x76, x77, x78, x79, x80, x81, x82, x83, x84, x85, x86, x87, x88, x89, x90, x91, x92, x93, x94, x95, x96, x97], defers := ds } V3) :
    (Code.region 5 #[{ dst := some 28, op := Op.move (Operand.tmp 7), type := 25, pos := "law.go:205", after := #[], guard := none }, { dst := some 29, op := Op.fieldAddr 38 (Operand.tmp 4) 1, type := 0, pos := "law.go:205", after := #[], guard := none }, { dst := some 30, op := Op.load 34 (Operand.tmp 29), type := 34, pos := "law.go:205", after := #[{ on := 1, ground := Ground.data }], guard := none }, { dst := some 31, op := Op.fieldAddr 38 (Operand.tmp 4) 2, type := 0, pos := "law.go:205", after := #[], guard := none }, { dst := some 32, op := Op.load 34 (Operand.tmp 31), type := 34, pos := "law.go:205", after := #[{ on := 3, ground := Ground.data }], guard := none }, { dst := some 33, op := Op.fieldAddr 38 (Operand.tmp 4) 3, type := 0, pos := "law.go:205", after := #[], guard := none }, { dst := some 34, op := Op.load 35 (Operand.tmp 33), type := 35, pos := "law.go:205", after := #[{ on := 5, ground := Ground.data }], guard := none }, { dst := some 35, op := Op.fieldAddr 38 (Operand.tmp 4) 4, type := 0, pos := "law.go:205", after := #[], guard := none }, { dst := some 36, op := Op.load 36 (Operand.tmp 35), type := 36, pos := "law.go:205", after := #[{ on := 7, ground := Ground.data }], guard := none }, { dst := some 37, op := Op.call { callee := Callee.value (Operand.func 22), args := #[Operand.tmp 28, Operand.tmp 30, Operand.tmp 32, Operand.tmp 34, Operand.tmp 36], argTypes := #[25, 34, 34, 35, 36] }, type := 40, pos := "law.go:205", after := #[{ on := 0, ground := Ground.data }, { on := 2, ground := Ground.data }, { on := 4, ground := Ground.data }, { on := 6, ground := Ground.data }, { on := 8, ground := Ground.data }], guard := none }, { dst := some 38, op := Op.move (Operand.tmp 7), type := 25, pos := "law.go:205", after := #[], guard := none }, { dst := some 39, op := Op.fieldAddr 38 (Operand.tmp 5) 1, type := 0, pos := "law.go:205", after := #[], guard := none }, { dst := some 40, op := Op.load 34 (Operand.tmp 39), type := 34, pos := "law.go:205", after := #[{ on := 11, ground := Ground.data }], guard := none }, { dst := some 41, op := Op.fieldAddr 38 (Operand.tmp 5) 2, type := 0, pos := "law.go:205", after := #[], guard := none }, { dst := some 42, op := Op.load 34 (Operand.tmp 41), type := 34, pos := "law.go:205", after := #[{ on := 13, ground := Ground.data }], guard := none }, { dst := some 43, op := Op.fieldAddr 38 (Operand.tmp 5) 3, type := 0, pos := "law.go:205", after := #[], guard := none }, { dst := some 44, op := Op.load 35 (Operand.tmp 43), type := 35, pos := "law.go:205", after := #[{ on := 15, ground := Ground.data }], guard := none }, { dst := some 45, op := Op.fieldAddr 38 (Operand.tmp 5) 4, type := 0, pos := "law.go:205", after := #[], guard := none }, { dst := some 46, op := Op.load 36 (Operand.tmp 45), type := 36, pos := "law.go:205", after := #[{ on := 17, ground := Ground.data }], guard := none }, { dst := some 47, op := Op.call { callee := Callee.value (Operand.func 22), args := #[Operand.tmp 38, Operand.tmp 40, Operand.tmp 42, Operand.tmp 44, Operand.tmp 46], argTypes := #[25, 34, 34, 35, 36] }, type := 40, pos := "law.go:205", after := #[{ on := 10, ground := Ground.data }, { on := 12, ground := Ground.data }, { on := 14, ground := Ground.data }, { on := 16, ground := Ground.data }, { on := 18, ground := Ground.data }, { on := 9, ground := Ground.chain }], guard := none }, { dst := some 9, op := Op.assign (Operand.tmp 37), type := 40, pos := "law.go:205", after := #[{ on := 9, ground := Ground.data }, { on := 19, ground := Ground.chain }, { on := 0, ground := Ground.phase }, { on := 1, ground := Ground.phase }, { on := 2, ground := Ground.phase }, { on := 3, ground := Ground.phase }, { on := 4, ground := Ground.phase }, { on := 5, ground := Ground.phase }, { on := 6, ground := Ground.phase }, { on := 7, ground := Ground.phase }, { on := 8, ground := Ground.phase }, { on := 9, ground := Ground.phase }, { on := 10, ground := Ground.textOnly Departure.lateStores }, { on := 11, ground := Ground.textOnly Departure.lateStores }, { on := 12, ground := Ground.textOnly Departure.lateStores }, { on := 13, ground := Ground.textOnly Departure.lateStores }, { on := 14, ground := Ground.textOnly Departure.lateStores }, { on := 15, ground := Ground.textOnly Departure.lateStores }, { on := 16, ground := Ground.textOnly Departure.lateStores }, { on := 17, ground := Ground.textOnly Departure.lateStores }, { on := 18, ground := Ground.textOnly Departure.lateStores }, { on := 19, ground := Ground.textOnly Departure.lateStoresUnsure }], guard := none }, { dst := some 10, op := Op.assign (Operand.tmp 47), type := 40, pos := "law.go:205", after := #[{ on := 19, ground := Ground.data }, { on := 20, ground := Ground.chain }, { on := 0, ground := Ground.phase }, { on := 1, ground := Ground.phase }, { on := 2, ground := Ground.phase }, { on := 3, ground := Ground.phase }, { on := 4, ground := Ground.phase }, { on := 5, ground := Ground.phase }, { on := 6, ground := Ground.phase }, { on := 7, ground := Ground.phase }, { on := 8, ground := Ground.phase }, { on := 9, ground := Ground.phase }, { on := 10, ground := Ground.phase }, { on := 11, ground := Ground.phase }, { on := 12, ground := Ground.phase }, { on := 13, ground := Ground.phase }, { on := 14, ground := Ground.phase }, { on := 15, ground := Ground.phase }, { on := 16, ground := Ground.phase }, { on := 17, ground := Ground.phase }, { on := 18, ground := Ground.phase }, { on := 19, ground := Ground.phase }, { on := 20, ground := Ground.phase }], guard := none }] true).wp Try.prog Q { tmps := #[x0, x1, x2, x3, .pointer (some ⟨d, 0, none⟩), .pointer (some ⟨f, 0, none⟩), x6, .pointer (some ⟨p, 0, none⟩), x8, x9, x10, x11, x12, x13, x14, x15, x16, x17, x18, x19, x20, x21, x22, x23, x24, x25, x26, x27, x28, x29, x30, x31, x32, x33, x34, x35, x36, x37, x38, x39, x40, x41, x42, x43, x44, x45, x46, x47, x48, x49, x50, x51, x52, x53, x54, x55, x56, x57, x58, x59, x60, x61, x62, x63, x64, x65, x66, x67, x68, x69, x70, x71, x72, x73, x74, x75, x76, x77, x78, x79, x80, x81, x82, x83, x84, x85, x86, x87, x88, x89, x90, x91, x92, x93, x94, x95, x96, x97], defers := ds } A := by
  refine Code.wp_mono (Q := fun x a' w' => match x with | .normal => Q .normal a' w' | _ => False) (by intro x a' w' h; cases x <;> first | exact h | exact h.elim) ?_
  refine wp_region_held (S := fun V => Keep (fun k => k ∈ G.bl p) A V) (by kernel_rfl) ?_
  have hS0 : Hid (Keep (fun k => k ∈ G.bl p) A A.drew) := (Keep.refl _ A).drew
  change wpAnyH Try.prog .any _ _ (fun V => Keep (fun k => k ∈ G.bl p) A V) 22 (Array.replicate 22 false) _ A.drew
  obtain ⟨V0, hV0⟩ : ∃ V0, A.drew = V0 := ⟨_, rfl⟩
  rw [hV0]
  rw [hV0] at hS0
  have hL0 : Hid (Below A.heap.size A V0) := by
    show Below _ _ _
    rw [← hV0]
    exact below_drew0 A
  clear hV0
  refine wpAnyH_take (i := 0) (oi := { dst := some 28, op := Op.move (Operand.tmp 7), type := 25, pos := "law.go:205", after := #[], guard := none }) (v := .pointer (some ⟨p, 0, none⟩)) rfl (by kernel_rfl) (by kernel_rfl) (by kernel_rfl) (fun _ _ _ h => h.elim) (Or.inl ⟨by rfl, ?y1⟩) hS0.out ?_
  case y1 =>
    intro V hV
    go_simp
  simp only [Act.put, List.setIfInBounds_toArray, List.set_cons_zero, List.set_cons_succ]
  refine wpAnyH_take (i := 1) (oi := { dst := some 29, op := Op.fieldAddr 38 (Operand.tmp 4) 1, type := 0, pos := "law.go:205", after := #[], guard := none }) (v := .pointer (some ⟨d, 1, none⟩)) rfl (by kernel_rfl) (by kernel_rfl) (by kernel_rfl) (fun _ _ _ h => h.elim) (Or.inl ⟨by rfl, ?y2⟩) hS0.out ?_
  case y2 =>
    intro V hV
    go_simp
  simp only [Act.put, List.setIfInBounds_toArray, List.set_cons_zero, List.set_cons_succ]
  refine wpAnyH_take (i := 2) (oi := { dst := some 30, op := Op.load 34 (Operand.tmp 29), type := 34, pos := "law.go:205", after := #[{ on := 1, ground := Ground.data }], guard := none }) (v := .agg XU.toArray) rfl (by kernel_rfl) (by kernel_rfl) (by kernel_rfl) (fun _ _ _ h => h.elim) (yieldsIf_load_mid (by rfl) _ _ rfl _ _ rfl (XU) _ (fun V hV => rangeAt_same (HX1.out.1) ((show Keep (fun k => k ∈ G.bl p) A V from hV).block _ (HLd.out.1) (HLd.out.2))) Try.underlying34 rfl (HX1.out.2)) hS0.out ?_
  simp only [Act.put, List.setIfInBounds_toArray, List.set_cons_zero, List.set_cons_succ]
  refine wpAnyH_take (i := 3) (oi := { dst := some 31, op := Op.fieldAddr 38 (Operand.tmp 4) 2, type := 0, pos := "law.go:205", after := #[], guard := none }) (v := .pointer (some ⟨d, 34, none⟩)) rfl (by kernel_rfl) (by kernel_rfl) (by kernel_rfl) (fun _ _ _ h => h.elim) (Or.inl ⟨by rfl, ?y3⟩) hS0.out ?_
  case y3 =>
    intro V hV
    go_simp
  simp only [Act.put, List.setIfInBounds_toArray, List.set_cons_zero, List.set_cons_succ]
  refine wpAnyH_take (i := 4) (oi := { dst := some 32, op := Op.load 34 (Operand.tmp 31), type := 34, pos := "law.go:205", after := #[{ on := 3, ground := Ground.data }], guard := none }) (v := .agg XD.toArray) rfl (by kernel_rfl) (by kernel_rfl) (by kernel_rfl) (fun _ _ _ h => h.elim) (yieldsIf_load_mid (by rfl) _ _ rfl _ _ rfl (XD) _ (fun V hV => rangeAt_same (HX2.out.1) ((show Keep (fun k => k ∈ G.bl p) A V from hV).block _ (HLd.out.1) (HLd.out.2))) Try.underlying34 rfl (HX2.out.2)) hS0.out ?_
  simp only [Act.put, List.setIfInBounds_toArray, List.set_cons_zero, List.set_cons_succ]
  refine wpAnyH_take (i := 5) (oi := { dst := some 33, op := Op.fieldAddr 38 (Operand.tmp 4) 3, type := 0, pos := "law.go:205", after := #[], guard := none }) (v := .pointer (some ⟨d, 67, none⟩)) rfl (by kernel_rfl) (by kernel_rfl) (by kernel_rfl) (fun _ _ _ h => h.elim) (Or.inl ⟨by rfl, ?y4⟩) hS0.out ?_
  case y4 =>
    intro V hV
    go_simp
  simp only [Act.put, List.setIfInBounds_toArray, List.set_cons_zero, List.set_cons_succ]
  refine wpAnyH_take (i := 6) (oi := { dst := some 34, op := Op.load 35 (Operand.tmp 33), type := 35, pos := "law.go:205", after := #[{ on := 5, ground := Ground.data }], guard := none }) (v := .slice a n c) rfl (by kernel_rfl) (by kernel_rfl) (by kernel_rfl) (fun _ _ _ h => h.elim) (Or.inl ⟨by rfl, ?y5⟩) hS0.out ?_
  case y5 =>
    intro V hV
    have hc : V.cell? ⟨d, 67, none⟩ = some (.slice a n c) := (cell_same ((show Keep (fun k => k ∈ G.bl p) A V from hV).block _ HLd.out.1 HLd.out.2)).trans cd67
    go_simp
  simp only [Act.put, List.setIfInBounds_toArray, List.set_cons_zero, List.set_cons_succ]
  refine wpAnyH_take (i := 7) (oi := { dst := some 35, op := Op.fieldAddr 38 (Operand.tmp 4) 4, type := 0, pos := "law.go:205", after := #[], guard := none }) (v := .pointer (some ⟨d, 68, none⟩)) rfl (by kernel_rfl) (by kernel_rfl) (by kernel_rfl) (fun _ _ _ h => h.elim) (Or.inl ⟨by rfl, ?y6⟩) hS0.out ?_
  case y6 =>
    intro V hV
    go_simp
  simp only [Act.put, List.setIfInBounds_toArray, List.set_cons_zero, List.set_cons_succ]
  refine wpAnyH_take (i := 8) (oi := { dst := some 36, op := Op.load 36 (Operand.tmp 35), type := 36, pos := "law.go:205", after := #[{ on := 7, ground := Ground.data }], guard := none }) (v := .slice ta tn tc) rfl (by kernel_rfl) (by kernel_rfl) (by kernel_rfl) (fun _ _ _ h => h.elim) (Or.inl ⟨by rfl, ?y7⟩) hS0.out ?_
  case y7 =>
    intro V hV
    have hc : V.cell? ⟨d, 68, none⟩ = some (.slice ta tn tc) := (cell_same ((show Keep (fun k => k ∈ G.bl p) A V from hV).block _ HLd.out.1 HLd.out.2)).trans cd68
    go_simp
  simp only [Act.put, List.setIfInBounds_toArray, List.set_cons_zero, List.set_cons_succ]
  refine wpAnyH_take (i := 10) (oi := { dst := some 38, op := Op.move (Operand.tmp 7), type := 25, pos := "law.go:205", after := #[], guard := none }) (v := .pointer (some ⟨p, 0, none⟩)) rfl (by kernel_rfl) (by kernel_rfl) (by kernel_rfl) (fun _ _ _ h => h.elim) (Or.inl ⟨by rfl, ?y8⟩) hS0.out ?_
  case y8 =>
    intro V hV
    go_simp
  simp only [Act.put, List.setIfInBounds_toArray, List.set_cons_zero, List.set_cons_succ]
  refine wpAnyH_take (i := 11) (oi := { dst := some 39, op := Op.fieldAddr 38 (Operand.tmp 5) 1, type := 0, pos := "law.go:205", after := #[], guard := none }) (v := .pointer (some ⟨f, 1, none⟩)) rfl (by kernel_rfl) (by kernel_rfl) (by kernel_rfl) (fun _ _ _ h => h.elim) (Or.inl ⟨by rfl, ?y9⟩) hS0.out ?_
  case y9 =>
    intro V hV
    go_simp
  simp only [Act.put, List.setIfInBounds_toArray, List.set_cons_zero, List.set_cons_succ]
  refine wpAnyH_take (i := 12) (oi := { dst := some 40, op := Op.load 34 (Operand.tmp 39), type := 34, pos := "law.go:205", after := #[{ on := 11, ground := Ground.data }], guard := none }) (v := .agg YU.toArray) rfl (by kernel_rfl) (by kernel_rfl) (by kernel_rfl) (fun _ _ _ h => h.elim) (yieldsIf_load_mid (by rfl) _ _ rfl _ _ rfl (YU) _ (fun V hV => rangeAt_same (HY1.out.1) ((show Keep (fun k => k ∈ G.bl p) A V from hV).block _ (HLf.out.1) (HLf.out.2))) Try.underlying34 rfl (HY1.out.2)) hS0.out ?_
  simp only [Act.put, List.setIfInBounds_toArray, List.set_cons_zero, List.set_cons_succ]
  refine wpAnyH_take (i := 13) (oi := { dst := some 41, op := Op.fieldAddr 38 (Operand.tmp 5) 2, type := 0, pos := "law.go:205", after := #[], guard := none }) (v := .pointer (some ⟨f, 34, none⟩)) rfl (by kernel_rfl) (by kernel_rfl) (by kernel_rfl) (fun _ _ _ h => h.elim) (Or.inl ⟨by rfl, ?y10⟩) hS0.out ?_
  case y10 =>
    intro V hV
    go_simp
  simp only [Act.put, List.setIfInBounds_toArray, List.set_cons_zero, List.set_cons_succ]
  refine wpAnyH_take (i := 14) (oi := { dst := some 42, op := Op.load 34 (Operand.tmp 41), type := 34, pos := "law.go:205", after := #[{ on := 13, ground := Ground.data }], guard := none }) (v := .agg YD.toArray) rfl (by kernel_rfl) (by kernel_rfl) (by kernel_rfl) (fun _ _ _ h => h.elim) (yieldsIf_load_mid (by rfl) _ _ rfl _ _ rfl (YD) _ (fun V hV => rangeAt_same (HY2.out.1) ((show Keep (fun k => k ∈ G.bl p) A V from hV).block _ (HLf.out.1) (HLf.out.2))) Try.underlying34 rfl (HY2.out.2)) hS0.out ?_
  simp only [Act.put, List.setIfInBounds_toArray, List.set_cons_zero, List.set_cons_succ]
  refine wpAnyH_take (i := 15) (oi := { dst := some 43, op := Op.fieldAddr 38 (Operand.tmp 5) 3, type := 0, pos := "law.go:205", after := #[], guard := none }) (v := .pointer (some ⟨f, 67, none⟩)) rfl (by kernel_rfl) (by kernel_rfl) (by kernel_rfl) (fun _ _ _ h => h.elim) (Or.inl ⟨by rfl, ?y11⟩) hS0.out ?_
  case y11 =>
    intro V hV
    go_simp
  simp only [Act.put, List.setIfInBounds_toArray, List.set_cons_zero, List.set_cons_succ]
  refine wpAnyH_take (i := 16) (oi := { dst := some 44, op := Op.load 35 (Operand.tmp 43), type := 35, pos := "law.go:205", after := #[{ on := 15, ground := Ground.data }], guard := none }) (v := .slice b m k) rfl (by kernel_rfl) (by kernel_rfl) (by kernel_rfl) (fun _ _ _ h => h.elim) (Or.inl ⟨by rfl, ?y12⟩) hS0.out ?_
  case y12 =>
    intro V hV
    have hc : V.cell? ⟨f, 67, none⟩ = some (.slice b m k) := (cell_same ((show Keep (fun k => k ∈ G.bl p) A V from hV).block _ HLf.out.1 HLf.out.2)).trans cf67
    go_simp
  simp only [Act.put, List.setIfInBounds_toArray, List.set_cons_zero, List.set_cons_succ]
  refine wpAnyH_take (i := 17) (oi := { dst := some 45, op := Op.fieldAddr 38 (Operand.tmp 5) 4, type := 0, pos := "law.go:205", after := #[], guard := none }) (v := .pointer (some ⟨f, 68, none⟩)) rfl (by kernel_rfl) (by kernel_rfl) (by kernel_rfl) (fun _ _ _ h => h.elim) (Or.inl ⟨by rfl, ?y13⟩) hS0.out ?_
  case y13 =>
    intro V hV
    go_simp
  simp only [Act.put, List.setIfInBounds_toArray, List.set_cons_zero, List.set_cons_succ]
  refine wpAnyH_take (i := 18) (oi := { dst := some 46, op := Op.load 36 (Operand.tmp 45), type := 36, pos := "law.go:205", after := #[{ on := 17, ground := Ground.data }], guard := none }) (v := .slice tb tm tk) rfl (by kernel_rfl) (by kernel_rfl) (by kernel_rfl) (fun _ _ _ h => h.elim) (Or.inl ⟨by rfl, ?y14⟩) hS0.out ?_
  case y14 =>
    intro V hV
    have hc : V.cell? ⟨f, 68, none⟩ = some (.slice tb tm tk) := (cell_same ((show Keep (fun k => k ∈ G.bl p) A V from hV).block _ HLf.out.1 HLf.out.2)).trans cf68
    go_simp
  simp only [Act.put, List.setIfInBounds_toArray, List.set_cons_zero, List.set_cons_succ]
  refine wpAnyH_ready (rs := [9]) (by kernel_rfl) (by simp) (AllReadyH.cons (i := 9) (o := { dst := some 37, op := Op.call { callee := Callee.value (Operand.func 22), args := #[Operand.tmp 28, Operand.tmp 30, Operand.tmp 32, Operand.tmp 34, Operand.tmp 36], argTypes := #[25, 34, 34, 35, 36] }, type := 40, pos := "law.go:205", after := #[{ on := 0, ground := Ground.data }, { on := 2, ground := Ground.data }, { on := 4, ground := Ground.data }, { on := 6, ground := Ground.data }, { on := 8, ground := Ground.data }], guard := none }) rfl ?_ AllReadyH.nil)
  · intro K1 hK1
    rw [if_pos (by rfl)]
    have HC1 := HADD1.out V0 hL0.out
    go_wp2_with fail
    refine HC1.mono ?_
    rintro e V1 ⟨rfl, G1, hga1, hps1⟩
    dsimp only
    clear HC1
    have hS1 : Hid (Keep (fun k => k ∈ G.bl p) A V1) := (hS0.out).trans hga1.2.2 (fun _ h _ => h)
    have hX1 : Hid (GAt V1 p G1 ∧ G1.ps = P1 ∧ ∀ k ∈ G1.bl p, k ∈ G.bl p ∨ A.heap.size ≤ k) := ⟨hga1.1, hps1, fun k hk => (hga1.2.1 k hk).imp id (fun h => Nat.le_trans (hL0.out).size h)⟩
    clear hga1 hps1
    refine hK1.out _ _ hS1.out ?_
    clear hK1
    intro _
    try simp only [Act.put, List.setIfInBounds_toArray, List.set_cons_zero, List.set_cons_succ]
    refine wpAnyH_ready (rs := [19]) (by kernel_rfl) (by simp) (AllReadyH.cons (i := 19) (o := { dst := some 47, op := Op.call { callee := Callee.value (Operand.func 22), args := #[Operand.tmp 38, Operand.tmp 40, Operand.tmp 42, Operand.tmp 44, Operand.tmp 46], argTypes := #[25, 34, 34, 35, 36] }, type := 40, pos := "law.go:205", after := #[{ on := 10, ground := Ground.data }, { on := 12, ground := Ground.data }, { on := 14, ground := Ground.data }, { on := 16, ground := Ground.data }, { on := 18, ground := Ground.data }, { on := 9, ground := Ground.chain }], guard := none }) rfl ?_ AllReadyH.nil)
    · intro K1 hK1
      rw [if_pos (by rfl)]
      have HC2 := HADD2.out V1 G1 (hS1.out) (hX1.out)
      go_wp2_with fail
      refine HC2.mono ?_
      rintro e V2 ⟨rfl, G2, hga2, hps2⟩
      dsimp only
      clear HC2
      have hS2 : Hid (Keep (fun k => k ∈ G.bl p) A V2) := (hS1.out).trans hga2.2.2 (fun j h hl => ((hX1.out).2.2 j h).resolve_right (by omega))
      have hX2 : Hid (GAt V2 p G2 ∧ G2.ps = P2 ∧ ∀ k ∈ G2.bl p, k ∈ G.bl p ∨ A.heap.size ≤ k) := ⟨hga2.1, hps2, fun k hk => (hga2.2.1 k hk).elim (fun h => (hX1.out).2.2 k h) (fun h => .inr (Nat.le_trans (hS1.out).size h))⟩
      clear hga2 hps2
      refine hK1.out _ _ hS2.out ?_
      clear hK1
      intro _
      try simp only [Act.put, List.setIfInBounds_toArray, List.set_cons_zero, List.set_cons_succ]
      refine wpAnyH_take (i := 20) (oi := { dst := some 9, op := Op.assign (Operand.tmp 37), type := 40, pos := "law.go:205", after := #[{ on := 9, ground := Ground.data }, { on := 19, ground := Ground.chain }, { on := 0, ground := Ground.phase }, { on := 1, ground := Ground.phase }, { on := 2, ground := Ground.phase }, { on := 3, ground := Ground.phase }, { on := 4, ground := Ground.phase }, { on := 5, ground := Ground.phase }, { on := 6, ground := Ground.phase }, { on := 7, ground := Ground.phase }, { on := 8, ground := Ground.phase }, { on := 9, ground := Ground.phase }, { on := 10, ground := Ground.textOnly Departure.lateStores }, { on := 11, ground := Ground.textOnly Departure.lateStores }, { on := 12, ground := Ground.textOnly Departure.lateStores }, { on := 13, ground := Ground.textOnly Departure.lateStores }, { on := 14, ground := Ground.textOnly Departure.lateStores }, { on := 15, ground := Ground.textOnly Departure.lateStores }, { on := 16, ground := Ground.textOnly Departure.lateStores }, { on := 17, ground := Ground.textOnly Departure.lateStores }, { on := 18, ground := Ground.textOnly Departure.lateStores }, { on := 19, ground := Ground.textOnly Departure.lateStoresUnsure }], guard := none }) (v := iv E1) rfl (by kernel_rfl) (by kernel_rfl) (by kernel_rfl) (fun _ _ _ h => h.elim) (Or.inl ⟨by rfl, ?y15⟩) hS2.out ?_
      case y15 =>
        intro V hV
        go_simp
      simp only [Act.put, List.setIfInBounds_toArray, List.set_cons_zero, List.set_cons_succ]
      refine wpAnyH_take (i := 21) (oi := { dst := some 10, op := Op.assign (Operand.tmp 47), type := 40, pos := "law.go:205", after := #[{ on := 19, ground := Ground.data }, { on := 20, ground := Ground.chain }, { on := 0, ground := Ground.phase }, { on := 1, ground := Ground.phase }, { on := 2, ground := Ground.phase }, { on := 3, ground := Ground.phase }, { on := 4, ground := Ground.phase }, { on := 5, ground := Ground.phase }, { on := 6, ground := Ground.phase }, { on := 7, ground := Ground.phase }, { on := 8, ground := Ground.phase }, { on := 9, ground := Ground.phase }, { on := 10, ground := Ground.phase }, { on := 11, ground := Ground.phase }, { on := 12, ground := Ground.phase }, { on := 13, ground := Ground.phase }, { on := 14, ground := Ground.phase }, { on := 15, ground := Ground.phase }, { on := 16, ground := Ground.phase }, { on := 17, ground := Ground.phase }, { on := 18, ground := Ground.phase }, { on := 19, ground := Ground.phase }, { on := 20, ground := Ground.phase }], guard := none }) (v := iv E2) rfl (by kernel_rfl) (by kernel_rfl) (by kernel_rfl) (fun _ _ _ h => h.elim) (Or.inl ⟨by rfl, ?y16⟩) hS2.out ?_
      case y16 =>
        intro V hV
        go_simp
      simp only [Act.put, List.setIfInBounds_toArray, List.set_cons_zero, List.set_cons_succ]
      refine wpAnyH_done (by kernel_rfl) ?_ _
      exact hQ V2 G2 hS2.out hX2.out
set_option maxRecDepth 100000 in
set_option maxHeartbeats 4000000 in
theorem ei6 {Q : Exit → Act → World → Prop} {x0 x1 x2 x3 x6 x7 x9 x10 x11 x12 x13 x14 x15 x16 x17 x18 x19 x20 x21 x22 x23 x24 x25 x26 x27 x28 x29 x30 x31 x32 x33 x34 x35 x36 x37 x38 x39 x40 x41 x42 x43 x44 x45 x46 x47 x48 x49 x50 x51 x52 x53 x54 x55 x56 x57 x58 x59 x60 x61 x62 x63 x64 x65 x66 x67 x68 x69 x70 x71 x72 x73 x74 x75 x76 x77 x78 x79 x80 x81 x82 x83 x84 x85 x86 x87 x88 x89 x90 x91 x92 x93 x94 x95 x96 x97 : Value} {ds : List Deferred} {A : World} {p d f : Nat} {G : Gm} {XU XD YU YD : List Value} {a ta b tb : Option Addr} {n c tn tc m k tm tk : Nat} {E1 E2 : Int} {P1 P2 : List PL}
    (HLd : Hid (d < A.heap.size ∧ ¬ d ∈ G.bl p)) (HX1 : Hid (A.rangeAt d 1 XU ∧ (Try.prog.info? 34).map (·.size) = some XU.length)) (HX2 : Hid (A.rangeAt d 34 XD ∧ (Try.prog.info? 34).map (·.size) = some XD.length)) (cd67 : A.cell? ⟨d, 67, none⟩ = some (.slice a n c)) (cd68 : A.cell? ⟨d, 68, none⟩ = some (.slice ta tn tc)) (HLf : Hid (f < A.heap.size ∧ ¬ f ∈ G.bl p)) (HY1 : Hid (A.rangeAt f 1 YU ∧ (Try.prog.info? 34).map (·.size) = some YU.length)) (HY2 : Hid (A.rangeAt f 34 YD ∧ (Try.prog.info? 34).map (·.size) = some YD.length)) (cf67 : A.cell? ⟨f, 67, none⟩ = some (.slice b m k)) (cf68 : A.cell? ⟨f, 68, none⟩ = some (.slice tb tm tk)) (HADD1 : Hid (∀ V, Below A.heap.size A V → Calls Try.prog 22 #[.pointer (some ⟨p, 0, none⟩), .agg XU.toArray, .agg XD.toArray, .slice a n c, .slice ta tn tc] V fun e w' => e = .returned (iv E1) ∧ ∃ G', GAfter V p G G' w' ∧ G'.ps = P1)) (HADD2 : Hid (∀ V G1, Keep (fun k => k ∈ G.bl p) A V → (GAt V p G1 ∧ G1.ps = P1 ∧ ∀ k ∈ G1.bl p, k ∈ G.bl p ∨ A.heap.size ≤ k) → Calls Try.prog 22 #[.pointer (some ⟨p, 0, none⟩), .agg YU.toArray, .agg YD.toArray, .slice b m k, .slice tb tm tk] V fun e w' => e = .returned (iv E2) ∧ ∃ G', GAfter V p G1 G' w' ∧ G'.ps = P2))
    (hQ : ∀ V3 G2, Keep (fun k => k ∈ G.bl p) A V3 → (GAt V3 p G2 ∧ G2.ps = P2 ∧ ∀ k ∈ G2.bl p, k ∈ G.bl p ∨ A.heap.size ≤ k) → Q .normal { tmps := #[x0, x1, x2, x3, .pointer (some ⟨f, 0, none⟩), .pointer (some ⟨d, 0, none⟩), x6, x7, .pointer (some ⟨p, 0, none⟩), x9, x10, iv E1, iv E2, x13, x14, x15, x16, x17, x18, x19, x20, x21, x22, x23, x24, x25, x26, x27, x28, x29, x30, x31, x32, x33, x34, x35, x36, x37, x38, x39, x40, x41, x42, x43, x44, x45, x46, x47, .pointer (some ⟨p, 0, none⟩), .pointer (some ⟨d, 1, none⟩), .agg XU.toArray, .pointer (some ⟨d, 34, none⟩), .agg XD.toArray, .pointer (some ⟨d, 67, none⟩), .slice a n c, .pointer (some ⟨d, 68, none⟩), .slice ta tn tc, iv E1, .pointer (some ⟨p, 0, none⟩), .pointer (some ⟨f, 1, none⟩), .agg YU.toArray, .pointer (some ⟨f, 34, none⟩), .agg YD.toArray, .pointer (some ⟨f, 67, none⟩), .slice b m k, .pointer (some ⟨f, 68, none⟩), .slice tb tm tk, iv E2, x68, x69, x70, x71, x72, x73, x74, x75, x76, x77, x78, x79, x80, x81, x82, x83, x84, x85, x86, x87, x88, x89, x90, x91, x92, x93, x94, x95, x96, x97], defers := ds } V3) :
    (Code.region 6 #[{ dst := some 48, op := Op.move (Operand.tmp 8), type := 25, pos := "law.go:206", after := #[], guard := none }, { dst := some 49, op := Op.fieldAddr 38 (Operand.tmp 5) 1, type := 0, pos := "law.go:206", after := #[], guard := none }, { dst := some 50, op := Op.load 34 (Operand.tmp 49), type := 34, pos := "law.go:206", after := #[{ on := 1, ground := Ground.data }], guard := none }, { dst := some 51, op := Op.fieldAddr 38 (Operand.tmp 5) 2, type := 0, pos := "law.go:206", after := #[], guard := none }, { dst := some 52, op := Op.load 34 (Operand.tmp 51), type := 34, pos := "law.go:206", after := #[{ on := 3, ground := Ground.data }], guard := none }, { dst := some 53, op := Op.fieldAddr 38 (Operand.tmp 5) 3, type := 0, pos := "law.go:206", after := #[], guard := none }, { dst := some 54, op := Op.load 35 (Operand.tmp 53), type := 35, pos := "law.go:206", after := #[{ on := 5, ground := Ground.data }], guard := none }, { dst := some 55, op := Op.fieldAddr 38 (Operand.tmp 5) 4, type := 0, pos := "law.go:206", after := #[], guard := none }, { dst := some 56, op := Op.load 36 (Operand.tmp 55), type := 36, pos := "law.go:206", after := #[{ on := 7, ground := Ground.data }], guard := none }, { dst := some 57, op := Op.call { callee := Callee.value (Operand.func 22), args := #[Operand.tmp 48, Operand.tmp 50, Operand.tmp 52, Operand.tmp 54, Operand.tmp 56], argTypes := #[25, 34, 34, 35, 36] }, type := 40, pos := "law.go:206", after := #[{ on := 0, ground := Ground.data }, { on := 2, ground := Ground.data }, { on := 4, ground := Ground.data }, { on := 6, ground := Ground.data }, { on := 8, ground := Ground.data }], guard := none }, { dst := some 58, op := Op.move (Operand.tmp 8), type := 25, pos := "law.go:206", after := #[], guard := none }, { dst := some 59, op := Op.fieldAddr 38 (Operand.tmp 4) 1, type := 0, pos := "law.go:206", after := #[], guard := none }, { dst := some 60, op := Op.load 34 (Operand.tmp 59), type := 34, pos := "law.go:206", after := #[{ on := 11, ground := Ground.data }], guard := none }, { dst := some 61, op := Op.fieldAddr 38 (Operand.tmp 4) 2, type := 0, pos := "law.go:206", after := #[], guard := none }, { dst := some 62, op := Op.load 34 (Operand.tmp 61), type := 34, pos := "law.go:206", after := #[{ on := 13, ground := Ground.data }], guard := none }, { dst := some 63, op := Op.fieldAddr 38 (Operand.tmp 4) 3, type := 0, pos := "law.go:206", after := #[], guard := none }, { dst := some 64, op := Op.load 35 (Operand.tmp 63), type := 35, pos := "law.go:206", after := #[{ on := 15, ground := Ground.data }], guard := none }, { dst := some 65, op := Op.fieldAddr 38 (Operand.tmp 4) 4, type := 0, pos := "law.go:206", after := #[], guard := none }, { dst := some 66, op := Op.load 36 (Operand.tmp 65), type := 36, pos := "law.go:206", after := #[{ on := 17, ground := Ground.data }], guard := none }, { dst := some 67, op := Op.call { callee := Callee.value (Operand.func 22), args := #[Operand.tmp 58, Operand.tmp 60, Operand.tmp 62, Operand.tmp 64, Operand.tmp 66], argTypes := #[25, 34, 34, 35, 36] }, type := 40, pos := "law.go:206", after := #[{ on := 10, ground := Ground.data }, { on := 12, ground := Ground.data }, { on := 14, ground := Ground.data }, { on := 16, ground := Ground.data }, { on := 18, ground := Ground.data }, { on := 9, ground := Ground.chain }], guard := none }, { dst := some 11, op := Op.assign (Operand.tmp 57), type := 40, pos := "law.go:206", after := #[{ on := 9, ground := Ground.data }, { on := 19, ground := Ground.chain }, { on := 0, ground := Ground.phase }, { on := 1, ground := Ground.phase }, { on := 2, ground := Ground.phase }, { on := 3, ground := Ground.phase }, { on := 4, ground := Ground.phase }, { on := 5, ground := Ground.phase }, { on := 6, ground := Ground.phase }, { on := 7, ground := Ground.phase }, { on := 8, ground := Ground.phase }, { on := 9, ground := Ground.phase }, { on := 10, ground := Ground.textOnly Departure.lateStores }, { on := 11, ground := Ground.textOnly Departure.lateStores }, { on := 12, ground := Ground.textOnly Departure.lateStores }, { on := 13, ground := Ground.textOnly Departure.lateStores }, { on := 14, ground := Ground.textOnly Departure.lateStores }, { on := 15, ground := Ground.textOnly Departure.lateStores }, { on := 16, ground := Ground.textOnly Departure.lateStores }, { on := 17, ground := Ground.textOnly Departure.lateStores }, { on := 18, ground := Ground.textOnly Departure.lateStores }, { on := 19, ground := Ground.textOnly Departure.lateStoresUnsure }], guard := none }, { dst := some 12, op := Op.assign (Operand.tmp 67), type := 40, pos := "law.go:206", after := #[{ on := 19, ground := Ground.data }, { on := 20, ground := Ground.chain }, { on := 0, ground := Ground.phase }, { on := 1, ground := Ground.phase }, { on := 2, ground := Ground.phase }, { on := 3, ground := Ground.phase }, { on := 4, ground := Ground.phase }, { on := 5, ground := Ground.phase }, { on := 6, ground := Ground.phase }, { on := 7, ground := Ground.phase }, { on := 8, ground := Ground.phase }, { on := 9, ground := Ground.phase }, { on := 10, ground := Ground.phase }, { on := 11, ground := Ground.phase }, { on := 12, ground := Ground.phase }, { on := 13, ground := Ground.phase }, { on := 14, ground := Ground.phase }, { on := 15, ground := Ground.phase }, { on := 16, ground := Ground.phase }, { on := 17, ground := Ground.phase }, { on := 18, ground := Ground.phase }, { on := 19, ground := Ground.phase }, { on := 20, ground := Ground.phase }], guard := none }] true).wp Try.prog Q { tmps := #[x0, x1, x2, x3, .pointer (some ⟨f, 0, none⟩), .pointer (some ⟨d, 0, none⟩), x6, x7, .pointer (some ⟨p, 0, none⟩), x9, x10, x11, x12, x13, x14, x15, x16, x17, x18, x19, x20, x21, x22, x23, x24, x25, x26, x27, x28, x29, x30, x31, x32, x33, x34, x35, x36, x37, x38, x39, x40, x41, x42, x43, x44, x45, x46, x47, x48, x49, x50, x51, x52, x53, x54, x55, x56, x57, x58, x59, x60, x61, x62, x63, x64, x65, x66, x67, x68, x69, x70, x71, x72, x73, x74, x75, x76, x77, x78, x79, x80, x81, x82, x83, x84, x85, x86, x87, x88, x89, x90, x91, x92, x93, x94, x95, x96, x97], defers := ds } A := by
  refine Code.wp_mono (Q := fun x a' w' => match x with | .normal => Q .normal a' w' | _ => False) (by intro x a' w' h; cases x <;> first | exact h | exact h.elim) ?_
  refine wp_region_held (S := fun V => Keep (fun k => k ∈ G.bl p) A V) (by kernel_rfl) ?_
  have hS0 : Hid (Keep (fun k => k ∈ G.bl p) A A.drew) := (Keep.refl _ A).drew
  change wpAnyH Try.prog .any _ _ (fun V => Keep (fun k => k ∈ G.bl p) A V) 22 (Array.replicate 22 false) _ A.drew
  obtain ⟨V0, hV0⟩ : ∃ V0, A.drew = V0 := ⟨_, rfl⟩
  rw [hV0]
  rw [hV0] at hS0
  have hL0 : Hid (Below A.heap.size A V0) := by
    show Below _ _ _
    rw [← hV0]
    exact below_drew0 A
  clear hV0
  refine wpAnyH_take (i := 0) (oi := { dst := some 48, op := Op.move (Operand.tmp 8), type := 25, pos := "law.go:206", after := #[], guard := none }) (v := .pointer (some ⟨p, 0, none⟩)) rfl (by kernel_rfl) (by kernel_rfl) (by kernel_rfl) (fun _ _ _ h => h.elim) (Or.inl ⟨by rfl, ?y1⟩) hS0.out ?_
  case y1 =>
    intro V hV
    go_simp
  simp only [Act.put, List.setIfInBounds_toArray, List.set_cons_zero, List.set_cons_succ]
  refine wpAnyH_take (i := 1) (oi := { dst := some 49, op := Op.fieldAddr 38 (Operand.tmp 5) 1, type := 0, pos := "law.go:206", after := #[], guard := none }) (v := .pointer (some ⟨d, 1, none⟩)) rfl (by kernel_rfl) (by kernel_rfl) (by kernel_rfl) (fun _ _ _ h => h.elim) (Or.inl ⟨by rfl, ?y2⟩) hS0.out ?_
  case y2 =>
    intro V hV
    go_simp
  simp only [Act.put, List.setIfInBounds_toArray, List.set_cons_zero, List.set_cons_succ]
  refine wpAnyH_take (i := 2) (oi := { dst := some 50, op := Op.load 34 (Operand.tmp 49), type := 34, pos := "law.go:206", after := #[{ on := 1, ground := Ground.data }], guard := none }) (v := .agg XU.toArray) rfl (by kernel_rfl) (by kernel_rfl) (by kernel_rfl) (fun _ _ _ h => h.elim) (yieldsIf_load_mid (by rfl) _ _ rfl _ _ rfl (XU) _ (fun V hV => rangeAt_same (HX1.out.1) ((show Keep (fun k => k ∈ G.bl p) A V from hV).block _ (HLd.out.1) (HLd.out.2))) Try.underlying34 rfl (HX1.out.2)) hS0.out ?_
  simp only [Act.put, List.setIfInBounds_toArray, List.set_cons_zero, List.set_cons_succ]
  refine wpAnyH_take (i := 3) (oi := { dst := some 51, op := Op.fieldAddr 38 (Operand.tmp 5) 2, type := 0, pos := "law.go:206", after := #[], guard := none }) (v := .pointer (some ⟨d, 34, none⟩)) rfl (by kernel_rfl) (by kernel_rfl) (by kernel_rfl) (fun _ _ _ h => h.elim) (Or.inl ⟨by rfl, ?y3⟩) hS0.out ?_
  case y3 =>
    intro V hV
    go_simp
  simp only [Act.put, List.setIfInBounds_toArray, List.set_cons_zero, List.set_cons_succ]
  refine wpAnyH_take (i := 4) (oi := { dst := some 52, op := Op.load 34 (Operand.tmp 51), type := 34, pos := "law.go:206", after := #[{ on := 3, ground := Ground.data }], guard := none }) (v := .agg XD.toArray) rfl (by kernel_rfl) (by kernel_rfl) (by kernel_rfl) (fun _ _ _ h => h.elim) (yieldsIf_load_mid (by rfl) _ _ rfl _ _ rfl (XD) _ (fun V hV => rangeAt_same (HX2.out.1) ((show Keep (fun k => k ∈ G.bl p) A V from hV).block _ (HLd.out.1) (HLd.out.2))) Try.underlying34 rfl (HX2.out.2)) hS0.out ?_
  simp only [Act.put, List.setIfInBounds_toArray, List.set_cons_zero, List.set_cons_succ]
  refine wpAnyH_take (i := 5) (oi := { dst := some 53, op := Op.fieldAddr 38 (Operand.tmp 5) 3, type := 0, pos := "law.go:206", after := #[], guard := none }) (v := .pointer (some ⟨d, 67, none⟩)) rfl (by kernel_rfl) (by kernel_rfl) (by kernel_rfl) (fun _ _ _ h => h.elim) (Or.inl ⟨by rfl, ?y4⟩) hS0.out ?_
  case y4 =>
    intro V hV
    go_simp
  simp only [Act.put, List.setIfInBounds_toArray, List.set_cons_zero, List.set_cons_succ]
  refine wpAnyH_take (i := 6) (oi := { dst := some 54, op := Op.load 35 (Operand.tmp 53), type := 35, pos := "law.go:206", after := #[{ on := 5, ground := Ground.data }], guard := none }) (v := .slice a n c) rfl (by kernel_rfl) (by kernel_rfl) (by kernel_rfl) (fun _ _ _ h => h.elim) (Or.inl ⟨by rfl, ?y5⟩) hS0.out ?_
  case y5 =>
    intro V hV
    have hc : V.cell? ⟨d, 67, none⟩ = some (.slice a n c) := (cell_same ((show Keep (fun k => k ∈ G.bl p) A V from hV).block _ HLd.out.1 HLd.out.2)).trans cd67
    go_simp
  simp only [Act.put, List.setIfInBounds_toArray, List.set_cons_zero, List.set_cons_succ]
  refine wpAnyH_take (i := 7) (oi := { dst := some 55, op := Op.fieldAddr 38 (Operand.tmp 5) 4, type := 0, pos := "law.go:206", after := #[], guard := none }) (v := .pointer (some ⟨d, 68, none⟩)) rfl (by kernel_rfl) (by kernel_rfl) (by kernel_rfl) (fun _ _ _ h => h.elim) (Or.inl ⟨by rfl, ?y6⟩) hS0.out ?_
  case y6 =>
    intro V hV
    go_simp
  simp only [Act.put, List.setIfInBounds_toArray, List.set_cons_zero, List.set_cons_succ]
  refine wpAnyH_take (i := 8) (oi := { dst := some 56, op := Op.load 36 (Operand.tmp 55), type := 36, pos := "law.go:206", after := #[{ on := 7, ground := Ground.data }], guard := none }) (v := .slice ta tn tc) rfl (by kernel_rfl) (by kernel_rfl) (by kernel_rfl) (fun _ _ _ h => h.elim) (Or.inl ⟨by rfl, ?y7⟩) hS0.out ?_
  case y7 =>
    intro V hV
    have hc : V.cell? ⟨d, 68, none⟩ = some (.slice ta tn tc) := (cell_same ((show Keep (fun k => k ∈ G.bl p) A V from hV).block _ HLd.out.1 HLd.out.2)).trans cd68
    go_simp
  simp only [Act.put, List.setIfInBounds_toArray, List.set_cons_zero, List.set_cons_succ]
  refine wpAnyH_take (i := 10) (oi := { dst := some 58, op := Op.move (Operand.tmp 8), type := 25, pos := "law.go:206", after := #[], guard := none }) (v := .pointer (some ⟨p, 0, none⟩)) rfl (by kernel_rfl) (by kernel_rfl) (by kernel_rfl) (fun _ _ _ h => h.elim) (Or.inl ⟨by rfl, ?y8⟩) hS0.out ?_
  case y8 =>
    intro V hV
    go_simp
  simp only [Act.put, List.setIfInBounds_toArray, List.set_cons_zero, List.set_cons_succ]
  refine wpAnyH_take (i := 11) (oi := { dst := some 59, op := Op.fieldAddr 38 (Operand.tmp 4) 1, type := 0, pos := "law.go:206", after := #[], guard := none }) (v := .pointer (some ⟨f, 1, none⟩)) rfl (by kernel_rfl) (by kernel_rfl) (by kernel_rfl) (fun _ _ _ h => h.elim) (Or.inl ⟨by rfl, ?y9⟩) hS0.out ?_
  case y9 =>
    intro V hV
    go_simp
  simp only [Act.put, List.setIfInBounds_toArray, List.set_cons_zero, List.set_cons_succ]
  refine wpAnyH_take (i := 12) (oi := { dst := some 60, op := Op.load 34 (Operand.tmp 59), type := 34, pos := "law.go:206", after := #[{ on := 11, ground := Ground.data }], guard := none }) (v := .agg YU.toArray) rfl (by kernel_rfl) (by kernel_rfl) (by kernel_rfl) (fun _ _ _ h => h.elim) (yieldsIf_load_mid (by rfl) _ _ rfl _ _ rfl (YU) _ (fun V hV => rangeAt_same (HY1.out.1) ((show Keep (fun k => k ∈ G.bl p) A V from hV).block _ (HLf.out.1) (HLf.out.2))) Try.underlying34 rfl (HY1.out.2)) hS0.out ?_
  simp only [Act.put, List.setIfInBounds_toArray, List.set_cons_zero, List.set_cons_succ]
  refine wpAnyH_take (i := 13) (oi := { dst := some 61, op := Op.fieldAddr 38 (Operand.tmp 4) 2, type := 0, pos := "law.go:206", after := #[], guard := none }) (v := .pointer (some ⟨f, 34, none⟩)) rfl (by kernel_rfl) (by kernel_rfl) (by kernel_rfl) (fun _ _ _ h => h.elim) (Or.inl ⟨by rfl, ?y10⟩) hS0.out ?_
  case y10 =>
    intro V hV
    go_simp
  simp only [Act.put, List.setIfInBounds_toArray, List.set_cons_zero, List.set_cons_succ]
  refine wpAnyH_take (i := 14) (oi := { dst := some 62, op := Op.load 34 (Operand.tmp 61), type := 34, pos := "law.go:206", after := #[{ on := 13, ground := Ground.data }], guard := none }) (v := .agg YD.toArray) rfl (by kernel_rfl) (by kernel_rfl) (by kernel_rfl) (fun _ _ _ h => h.elim) (yieldsIf_load_mid (by rfl) _ _ rfl _ _ rfl (YD) _ (fun V hV => rangeAt_same (HY2.out.1) ((show Keep (fun k => k ∈ G.bl p) A V from hV).block _ (HLf.out.1) (HLf.out.2))) Try.underlying34 rfl (HY2.out.2)) hS0.out ?_
  simp only [Act.put, List.setIfInBounds_toArray, List.set_cons_zero, List.set_cons_succ]
  refine wpAnyH_take (i := 15) (oi := { dst := some 63, op := Op.fieldAddr 38 (Operand.tmp 4) 3, type := 0, pos := "law.go:206", after := #[], guard := none }) (v := .pointer (some ⟨f, 67, none⟩)) rfl (by kernel_rfl) (by kernel_rfl) (by kernel_rfl) (fun _ _ _ h => h.elim) (Or.inl ⟨by rfl, ?y11⟩) hS0.out ?_
  case y11 =>
    intro V hV
    go_simp
  simp only [Act.put, List.setIfInBounds_toArray, List.set_cons_zero, List.set_cons_succ]
  refine wpAnyH_take (i := 16) (oi := { dst := some 64, op := Op.load 35 (Operand.tmp 63), type := 35, pos := "law.go:206", after := #[{ on := 15, ground := Ground.data }], guard := none }) (v := .slice b m k) rfl (by kernel_rfl) (by kernel_rfl) (by kernel_rfl) (fun _ _ _ h => h.elim) (Or.inl ⟨by rfl, ?y12⟩) hS0.out ?_
  case y12 =>
    intro V hV
    have hc : V.cell? ⟨f, 67, none⟩ = some (.slice b m k) := (cell_same ((show Keep (fun k => k ∈ G.bl p) A V from hV).block _ HLf.out.1 HLf.out.2)).trans cf67
    go_simp
  simp only [Act.put, List.setIfInBounds_toArray, List.set_cons_zero, List.set_cons_succ]
  refine wpAnyH_take (i := 17) (oi := { dst := some 65, op := Op.fieldAddr 38 (Operand.tmp 4) 4, type := 0, pos := "law.go:206", after := #[], guard := none }) (v := .pointer (some ⟨f, 68, none⟩)) rfl (by kernel_rfl) (by kernel_rfl) (by kernel_rfl) (fun _ _ _ h => h.elim) (Or.inl ⟨by rfl, ?y13⟩) hS0.out ?_
  case y13 =>
    intro V hV
    go_simp
  simp only [Act.put, List.setIfInBounds_toArray, List.set_cons_zero, List.set_cons_succ]
  refine wpAnyH_take (i := 18) (oi := { dst := some 66, op := Op.load 36 (Operand.tmp 65), type := 36, pos := "law.go:206", after := #[{ on := 17, ground := Ground.data }], guard := none }) (v := .slice tb tm tk) rfl (by kernel_rfl) (by kernel_rfl) (by kernel_rfl) (fun _ _ _ h => h.elim) (Or.inl ⟨by rfl, ?y14⟩) hS0.out ?_
  case y14 =>
    intro V hV
    have hc : V.cell? ⟨f, 68, none⟩ = some (.slice tb tm tk) := (cell_same ((show Keep (fun k => k ∈ G.bl p) A V from hV).block _ HLf.out.1 HLf.out.2)).trans cf68
    go_simp
  simp only [Act.put, List.setIfInBounds_toArray, List.set_cons_zero, List.set_cons_succ]
  refine wpAnyH_ready (rs := [9]) (by kernel_rfl) (by simp) (AllReadyH.cons (i := 9) (o := { dst := some 57, op := Op.call { callee := Callee.value (Operand.func 22), args := #[Operand.tmp 48, Operand.tmp 50, Operand.tmp 52, Operand.tmp 54, Operand.tmp 56], argTypes := #[25, 34, 34, 35, 36] }, type := 40, pos := "law.go:206", after := #[{ on := 0, ground := Ground.data }, { on := 2, ground := Ground.data }, { on := 4, ground := Ground.data }, { on := 6, ground := Ground.data }, { on := 8, ground := Ground.data }], guard := none }) rfl ?_ AllReadyH.nil)
  · intro K1 hK1
    rw [if_pos (by rfl)]
    have HC1 := HADD1.out V0 hL0.out
    go_wp2_with fail
    refine HC1.mono ?_
    rintro e V1 ⟨rfl, G1, hga1, hps1⟩
    dsimp only
    clear HC1
    have hS1 : Hid (Keep (fun k => k ∈ G.bl p) A V1) := (hS0.out).trans hga1.2.2 (fun _ h _ => h)
    have hX1 : Hid (GAt V1 p G1 ∧ G1.ps = P1 ∧ ∀ k ∈ G1.bl p, k ∈ G.bl p ∨ A.heap.size ≤ k) := ⟨hga1.1, hps1, fun k hk => (hga1.2.1 k hk).imp id (fun h => Nat.le_trans (hL0.out).size h)⟩
    clear hga1 hps1
    refine hK1.out _ _ hS1.out ?_
    clear hK1
    intro _
    try simp only [Act.put, List.setIfInBounds_toArray, List.set_cons_zero, List.set_cons_succ]
    refine wpAnyH_ready (rs := [19]) (by kernel_rfl) (by simp) (AllReadyH.cons (i := 19) (o := { dst := some 67, op := Op.call { callee := Callee.value (Operand.func 22), args := #[Operand.tmp 58, Operand.tmp 60, Operand.tmp 62, Operand.tmp 64, Operand.tmp 66], argTypes := #[25, 34, 34, 35, 36] }, type := 40, pos := "law.go:206", after := #[{ on := 10, ground := Ground.data }, { on := 12, ground := Ground.data }, { on := 14, ground := Ground.data }, { on := 16, ground := Ground.data }, { on := 18, ground := Ground.data }, { on := 9, ground := Ground.chain }], guard := none }) rfl ?_ AllReadyH.nil)
    · intro K1 hK1
      rw [if_pos (by rfl)]
      have HC2 := HADD2.out V1 G1 (hS1.out) (hX1.out)
      go_wp2_with fail
      refine HC2.mono ?_
      rintro e V2 ⟨rfl, G2, hga2, hps2⟩
      dsimp only
      clear HC2
      have hS2 : Hid (Keep (fun k => k ∈ G.bl p) A V2) := (hS1.out).trans hga2.2.2 (fun j h hl => ((hX1.out).2.2 j h).resolve_right (by omega))
      have hX2 : Hid (GAt V2 p G2 ∧ G2.ps = P2 ∧ ∀ k ∈ G2.bl p, k ∈ G.bl p ∨ A.heap.size ≤ k) := ⟨hga2.1, hps2, fun k hk => (hga2.2.1 k hk).elim (fun h => (hX1.out).2.2 k h) (fun h => .inr (Nat.le_trans (hS1.out).size h))⟩
      clear hga2 hps2
      refine hK1.out _ _ hS2.out ?_
      clear hK1
      intro _
      try simp only [Act.put, List.setIfInBounds_toArray, List.set_cons_zero, List.set_cons_succ]
      refine wpAnyH_take (i := 20) (oi := { dst := some 11, op := Op.assign (Operand.tmp 57), type := 40, pos := "law.go:206", after := #[{ on := 9, ground := Ground.data }, { on := 19, ground := Ground.chain }, { on := 0, ground := Ground.phase }, { on := 1, ground := Ground.phase }, { on := 2, ground := Ground.phase }, { on := 3, ground := Ground.phase }, { on := 4, ground := Ground.phase }, { on := 5, ground := Ground.phase }, { on := 6, ground := Ground.phase }, { on := 7, ground := Ground.phase }, { on := 8, ground := Ground.phase }, { on := 9, ground := Ground.phase }, { on := 10, ground := Ground.textOnly Departure.lateStores }, { on := 11, ground := Ground.textOnly Departure.lateStores }, { on := 12, ground := Ground.textOnly Departure.lateStores }, { on := 13, ground := Ground.textOnly Departure.lateStores }, { on := 14, ground := Ground.textOnly Departure.lateStores }, { on := 15, ground := Ground.textOnly Departure.lateStores }, { on := 16, ground := Ground.textOnly Departure.lateStores }, { on := 17, ground := Ground.textOnly Departure.lateStores }, { on := 18, ground := Ground.textOnly Departure.lateStores }, { on := 19, ground := Ground.textOnly Departure.lateStoresUnsure }], guard := none }) (v := iv E1) rfl (by kernel_rfl) (by kernel_rfl) (by kernel_rfl) (fun _ _ _ h => h.elim) (Or.inl ⟨by rfl, ?y15⟩) hS2.out ?_
      case y15 =>
        intro V hV
        go_simp
      simp only [Act.put, List.setIfInBounds_toArray, List.set_cons_zero, List.set_cons_succ]
      refine wpAnyH_take (i := 21) (oi := { dst := some 12, op := Op.assign (Operand.tmp 67), type := 40, pos := "law.go:206", after := #[{ on := 19, ground := Ground.data }, { on := 20, ground := Ground.chain }, { on := 0, ground := Ground.phase }, { on := 1, ground := Ground.phase }, { on := 2, ground := Ground.phase }, { on := 3, ground := Ground.phase }, { on := 4, ground := Ground.phase }, { on := 5, ground := Ground.phase }, { on := 6, ground := Ground.phase }, { on := 7, ground := Ground.phase }, { on := 8, ground := Ground.phase }, { on := 9, ground := Ground.phase }, { on := 10, ground := Ground.phase }, { on := 11, ground := Ground.phase }, { on := 12, ground := Ground.phase }, { on := 13, ground := Ground.phase }, { on := 14, ground := Ground.phase }, { on := 15, ground := Ground.phase }, { on := 16, ground := Ground.phase }, { on := 17, ground := Ground.phase }, { on := 18, ground := Ground.phase }, { on := 19, ground := Ground.phase }, { on := 20, ground := Ground.phase }], guard := none }) (v := iv E2) rfl (by kernel_rfl) (by kernel_rfl) (by kernel_rfl) (fun _ _ _ h => h.elim) (Or.inl ⟨by rfl, ?y16⟩) hS2.out ?_
      case y16 =>
        intro V hV
        go_simp
      simp only [Act.put, List.setIfInBounds_toArray, List.set_cons_zero, List.set_cons_succ]
      refine wpAnyH_done (by kernel_rfl) ?_ _
      exact hQ V2 G2 hS2.out hX2.out
end Go.Proofs.Ytjcihaohpbmogaa.Oct
