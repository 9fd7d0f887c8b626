/-
  Layer 11 (lines): undone: the drawn region.
-/
import Derived.Test.YtjcihaohpbmogaaQpAX
import Derived.Test.YtjcihaohpbmogaaQpAW
/- Layer 11 (lines): undone: the drawn region. -/
namespace Go.Proofs.Ytjcihaohpbmogaa.Oct
open Go.RowKit
set_option maxRecDepth 100000
set_option linter.unusedSimpArgs false
set_option linter.unusedVariables false
set_option linter.unusedSectionVars false

set_option maxRecDepth 100000 in
set_option maxHeartbeats 4000000 in
theorem un5y {Q : Exit → Act → World → Prop} {x0 x1 x2 x4 x7 x8 x9 x10 x11 x12 x13 x14 x15 x16 x17 x18 x19 x20 x21 x22 x23 x24 x25 x26 x27 x28 x29 x30 x31 x32 x33 x34 x35 x36 x37 x38 x39 x40 x41 x42 x43 x44 x45 x46 x47 x48 x49 x50 x51 x52 x53 x54 x55 x56 x57 x58 x59 x60 x61 x62 x63 x64 x65 x66 x67 x68 x69 x70 x71 x72 x73 x74 x75 x76 x77 x78 x79 x80 x81 x82 x83 x84 x85 x86 x87 x88 x89 x90 x91 x92 : Value} {ds : List Deferred} {A : World} {p d : Nat} {G : Gm} {XU XD : List Value} {a ta sa : Option Addr} {n c tn tc sn sc : Nat} {PS : List PL} {L : Int}
    (HL : Hid (d < A.heap.size ∧ ¬ d ∈ G.bl p)) (HR1 : Hid (A.rangeAt d 1 XU ∧ (Try.prog.info? 34).map (·.size) = some XU.length)) (HR2 : Hid (A.rangeAt d 34 XD ∧ (Try.prog.info? 34).map (·.size) = some XD.length)) (c67 : A.cell? ⟨d, 67, none⟩ = some (.slice a n c)) (c68 : A.cell? ⟨d, 68, none⟩ = some (.slice ta tn tc)) (HADD : Hid (∀ V, Below A.heap.size A V → Calls Try.prog 22 #[.pointer (some ⟨p, 0, none⟩), .agg XU.toArray, .agg XD.toArray, .slice a n c, .slice ta tn tc] V fun e w' => e = .returned (iv 0) ∧ ∃ G', GAfter V p G G' w' ∧ G'.ps = PS)) (qw : IntKind.i64.wrap ((sn : Int) + (n : Int)) = L) (HLEN : Hid (∀ V G1, GAt V p G1 → G1.ps = PS → Calls Try.prog 18 #[.pointer (some ⟨p, 0, none⟩)] V fun e w' => e = .returned (iv L) ∧ V = w')) (HDROP : Hid (∀ V G1, Keep (fun k => k ∈ G.bl p) A V → (GAt V p G1 ∧ G1.ps = PS ∧ ∀ k ∈ G1.bl p, k ∈ G.bl p ∨ A.heap.size ≤ k) → Calls Try.prog 27 #[.pointer (some ⟨p, 0, none⟩), .slice a n c] V fun e w' => e = .returned (iv 0) ∧ ∃ G', GAfter V p G1 G' w' ∧ G'.ps = G.ps))
    (hQ : ∀ V3 G2, Keep (fun k => k ∈ G.bl p) A V3 → (GAt V3 p G2 ∧ G2.ps = G.ps ∧ ∀ k ∈ G2.bl p, k ∈ G.bl p ∨ A.heap.size ≤ k) → Q .normal { tmps := #[x0, x1, x2, .pointer (some ⟨d, 0, none⟩), x4, .pointer (some ⟨p, 0, none⟩), .slice sa sn sc, x7, x8, x9, x10, x11, x12, x13, x14, x15, x16, x17, x18, x19, x20, x21, x22, x23, .pointer (some ⟨p, 0, none⟩), .pointer (some ⟨d, 1, none⟩), .agg XU.toArray, .pointer (some ⟨d, 34, none⟩), .agg XD.toArray, .pointer (some ⟨d, 67, none⟩), .slice a n c, .pointer (some ⟨d, 68, none⟩), .slice ta tn tc, iv 0, .bool true, .bool true, .pointer (some ⟨p, 0, none⟩), iv L, .slice sa sn sc, iv (sn : Int), .pointer (some ⟨d, 67, none⟩), .slice a n c, iv (n : Int), iv L, .bool false, .bool false, .pointer (some ⟨p, 0, none⟩), .pointer (some ⟨d, 67, none⟩), .slice a n c, iv 0, .bool false, .bool false, .bool false, x53, x54, x55, x56, x57, x58, x59, x60, x61, x62, x63, x64, x65, x66, x67, x68, x69, x70, x71, x72, x73, x74, x75, x76, x77, x78, x79, x80, x81, x82, x83, x84, x85, x86, x87, x88, x89, x90, x91, x92], defers := ds } V3) :
    (Code.region 5 #[{ dst := some 24, op := Op.move (Operand.tmp 5), type := 25, pos := "law.go:220", after := #[], guard := none }, { dst := some 25, op := Op.fieldAddr 38 (Operand.tmp 3) 1, type := 0, pos := "law.go:220", after := #[], guard := none }, { dst := some 26, op := Op.load 34 (Operand.tmp 25), type := 34, pos := "law.go:220", after := #[{ on := 1, ground := Ground.data }], guard := none }, { dst := some 27, op := Op.fieldAddr 38 (Operand.tmp 3) 2, type := 0, pos := "law.go:220", after := #[], guard := none }, { dst := some 28, op := Op.load 34 (Operand.tmp 27), type := 34, pos := "law.go:220", after := #[{ on := 3, ground := Ground.data }], guard := none }, { dst := some 29, op := Op.fieldAddr 38 (Operand.tmp 3) 3, type := 0, pos := "law.go:220", after := #[], guard := none }, { dst := some 30, op := Op.load 35 (Operand.tmp 29), type := 35, pos := "law.go:220", after := #[{ on := 5, ground := Ground.data }], guard := none }, { dst := some 31, op := Op.fieldAddr 38 (Operand.tmp 3) 4, type := 0, pos := "law.go:220", after := #[], guard := none }, { dst := some 32, op := Op.load 36 (Operand.tmp 31), type := 36, pos := "law.go:220", after := #[{ on := 7, ground := Ground.data }], guard := none }, { dst := some 33, op := Op.call { callee := Callee.value (Operand.func 22), args := #[Operand.tmp 24, Operand.tmp 26, Operand.tmp 28, Operand.tmp 30, Operand.tmp 32], argTypes := #[25, 34, 34, 35, 36] }, type := 40, pos := "law.go:220", after := #[{ on := 0, ground := Ground.data }, { on := 2, ground := Ground.data }, { on := 4, ground := Ground.data }, { on := 6, ground := Ground.data }, { on := 8, ground := Ground.data }], guard := none }, { dst := some 34, op := Op.binOp BinOp.eql 40 (Operand.tmp 33) (Operand.const (Value.int IntKind.i64 0)) 40, type := 4, pos := "law.go:220", after := #[{ on := 9, ground := Ground.data }], guard := none }, { dst := some 35, op := Op.move (Operand.tmp 34), type := 4, pos := "law.go:220", after := #[{ on := 10, ground := Ground.data }, { on := 9, ground := Ground.chain }], guard := none }, { dst := some 36, op := Op.move (Operand.tmp 5), type := 25, pos := "law.go:220", after := #[{ on := 11, ground := Ground.guard }], guard := some (11, true) }, { dst := some 37, op := Op.call { callee := Callee.value (Operand.func 18), args := #[Operand.tmp 36], argTypes := #[25] }, type := 3, pos := "law.go:220", after := #[{ on := 12, ground := Ground.data }, { on := 11, ground := Ground.chain }, { on := 11, ground := Ground.guard }], guard := some (11, true) }, { dst := some 38, op := Op.move (Operand.tmp 6), type := 45, pos := "law.go:220", after := #[{ on := 11, ground := Ground.guard }], guard := some (11, true) }, { dst := some 39, op := Op.call { callee := Callee.builtin Builtin.len, args := #[Operand.tmp 38], argTypes := #[45] }, type := 3, pos := "law.go:220", after := #[{ on := 14, ground := Ground.data }, { on := 11, ground := Ground.guard }], guard := some (11, true) }, { dst := some 40, op := Op.fieldAddr 38 (Operand.tmp 3) 3, type := 0, pos := "law.go:220", after := #[{ on := 11, ground := Ground.guard }], guard := some (11, true) }, { dst := some 41, op := Op.load 35 (Operand.tmp 40), type := 35, pos := "law.go:220", after := #[{ on := 16, ground := Ground.data }, { on := 11, ground := Ground.guard }], guard := some (11, true) }, { dst := some 42, op := Op.call { callee := Callee.builtin Builtin.len, args := #[Operand.tmp 41], argTypes := #[35] }, type := 3, pos := "law.go:220", after := #[{ on := 17, ground := Ground.data }, { on := 11, ground := Ground.guard }], guard := some (11, true) }, { dst := some 43, op := Op.binOp BinOp.add 3 (Operand.tmp 39) (Operand.tmp 42) 3, type := 3, pos := "law.go:220", after := #[{ on := 15, ground := Ground.data }, { on := 18, ground := Ground.data }, { on := 11, ground := Ground.guard }], guard := some (11, true) }, { dst := some 44, op := Op.binOp BinOp.neq 3 (Operand.tmp 37) (Operand.tmp 43) 3, type := 4, pos := "law.go:220", after := #[{ on := 13, ground := Ground.data }, { on := 19, ground := Ground.data }, { on := 11, ground := Ground.guard }], guard := some (11, true) }, { dst := some 45, op := Op.move (Operand.tmp 44), type := 4, pos := "law.go:220", after := #[{ on := 20, ground := Ground.data }, { on := 13, ground := Ground.chain }, { on := 11, ground := Ground.guard }], guard := some (11, true) }, { dst := some 46, op := Op.move (Operand.tmp 5), type := 25, pos := "law.go:220", after := #[{ on := 21, ground := Ground.guard }], guard := some (21, false) }, { dst := some 47, op := Op.fieldAddr 38 (Operand.tmp 3) 3, type := 0, pos := "law.go:220", after := #[{ on := 21, ground := Ground.guard }], guard := some (21, false) }, { dst := some 48, op := Op.load 35 (Operand.tmp 47), type := 35, pos := "law.go:220", after := #[{ on := 23, ground := Ground.data }, { on := 21, ground := Ground.guard }], guard := some (21, false) }, { dst := some 49, op := Op.call { callee := Callee.value (Operand.func 27), args := #[Operand.tmp 46, Operand.tmp 48], argTypes := #[25, 35] }, type := 40, pos := "law.go:220", after := #[{ on := 22, ground := Ground.data }, { on := 24, ground := Ground.data }, { on := 21, ground := Ground.chain }, { on := 21, ground := Ground.guard }], guard := some (21, false) }, { dst := some 50, op := Op.binOp BinOp.neq 40 (Operand.tmp 49) (Operand.const (Value.int IntKind.i64 0)) 40, type := 4, pos := "law.go:220", after := #[{ on := 25, ground := Ground.data }, { on := 21, ground := Ground.guard }], guard := some (21, false) }, { dst := some 51, op := Op.pick (Operand.tmp 45) (Operand.const (Value.bool true)) (Operand.tmp 50), type := 4, pos := "law.go:220", after := #[{ on := 21, ground := Ground.data }, { on := 26, ground := Ground.data }, { on := 11, ground := Ground.guard }], guard := some (11, true) }, { dst := some 52, op := Op.pick (Operand.tmp 35) (Operand.tmp 51) (Operand.const (Value.bool false)), type := 4, pos := "law.go:220", after := #[{ on := 11, ground := Ground.data }, { on := 27, ground := Ground.data }], guard := none }] true).wp Try.prog Q { tmps := #[x0, x1, x2, .pointer (some ⟨d, 0, none⟩), x4, .pointer (some ⟨p, 0, none⟩), .slice sa sn sc, x7, x8, x9, x10, x11, x12, x13, x14, x15, x16, x17, x18, x19, x20, x21, x22, x23, x24, x25, x26, x27, x28, x29, x30, x31, x32, x33, x34, x35, x36, x37, x38, x39, x40, x41, x42, x43, x44, x45, x46, x47, x48, x49, x50, x51, x52, x53, x54, x55, x56, x57, x58, x59, x60, x61, x62, x63, x64, x65, x66, x67, x68, x69, x70, x71, x72, x73, x74, x75, x76, x77, x78, x79, x80, x81, x82, x83, x84, x85, x86, x87, x88, x89, x90, x91, x92], defers := ds } A := by
  refine Code.wp_mono (Q := fun x a' w' => match x with | .normal => Q .normal a' w' | _ => False) (by intro x a' w' h; cases x <;> first | exact h | exact h.elim) ?_
  refine wp_region_held (S := fun V => Keep (fun k => k ∈ G.bl p) A V) (by kernel_rfl) ?_
  have hS0 : Hid (Keep (fun k => k ∈ G.bl p) A A.drew) := (Keep.refl _ A).drew
  change wpAnyH Try.prog .any _ _ (fun V => Keep (fun k => k ∈ G.bl p) A V) 29 (Array.replicate 29 false) _ A.drew
  obtain ⟨V0, hV0⟩ : ∃ V0, A.drew = V0 := ⟨_, rfl⟩
  rw [hV0]
  rw [hV0] at hS0
  have hL0 : Hid (Below A.heap.size A V0) := by
    show Below _ _ _
    rw [← hV0]
    exact below_drew0 A
  clear hV0
  refine wpAnyH_take (i := 0) (oi := { dst := some 24, op := Op.move (Operand.tmp 5), type := 25, pos := "law.go:220", after := #[], guard := none }) (v := .pointer (some ⟨p, 0, none⟩)) rfl (by kernel_rfl) (by kernel_rfl) (by kernel_rfl) (fun _ _ _ h => h.elim) (Or.inl ⟨by rfl, ?y1⟩) hS0.out ?_
  case y1 =>
    intro V hV
    go_simp
  simp only [Act.put, List.setIfInBounds_toArray, List.set_cons_zero, List.set_cons_succ]
  refine wpAnyH_take (i := 1) (oi := { dst := some 25, op := Op.fieldAddr 38 (Operand.tmp 3) 1, type := 0, pos := "law.go:220", after := #[], guard := none }) (v := .pointer (some ⟨d, 1, none⟩)) rfl (by kernel_rfl) (by kernel_rfl) (by kernel_rfl) (fun _ _ _ h => h.elim) (Or.inl ⟨by rfl, ?y2⟩) hS0.out ?_
  case y2 =>
    intro V hV
    go_simp
  simp only [Act.put, List.setIfInBounds_toArray, List.set_cons_zero, List.set_cons_succ]
  refine wpAnyH_take (i := 2) (oi := { dst := some 26, op := Op.load 34 (Operand.tmp 25), type := 34, pos := "law.go:220", after := #[{ on := 1, ground := Ground.data }], guard := none }) (v := .agg XU.toArray) rfl (by kernel_rfl) (by kernel_rfl) (by kernel_rfl) (fun _ _ _ h => h.elim) (yieldsIf_load_mid (by rfl) _ _ rfl _ _ rfl (XU) _ (fun V hV => rangeAt_same (HR1.out.1) ((show Keep (fun k => k ∈ G.bl p) A V from hV).block _ (HL.out.1) (HL.out.2))) Try.underlying34 rfl (HR1.out.2)) hS0.out ?_
  simp only [Act.put, List.setIfInBounds_toArray, List.set_cons_zero, List.set_cons_succ]
  refine wpAnyH_take (i := 3) (oi := { dst := some 27, op := Op.fieldAddr 38 (Operand.tmp 3) 2, type := 0, pos := "law.go:220", after := #[], guard := none }) (v := .pointer (some ⟨d, 34, none⟩)) rfl (by kernel_rfl) (by kernel_rfl) (by kernel_rfl) (fun _ _ _ h => h.elim) (Or.inl ⟨by rfl, ?y3⟩) hS0.out ?_
  case y3 =>
    intro V hV
    go_simp
  simp only [Act.put, List.setIfInBounds_toArray, List.set_cons_zero, List.set_cons_succ]
  refine wpAnyH_take (i := 4) (oi := { dst := some 28, op := Op.load 34 (Operand.tmp 27), type := 34, pos := "law.go:220", after := #[{ on := 3, ground := Ground.data }], guard := none }) (v := .agg XD.toArray) rfl (by kernel_rfl) (by kernel_rfl) (by kernel_rfl) (fun _ _ _ h => h.elim) (yieldsIf_load_mid (by rfl) _ _ rfl _ _ rfl (XD) _ (fun V hV => rangeAt_same (HR2.out.1) ((show Keep (fun k => k ∈ G.bl p) A V from hV).block _ (HL.out.1) (HL.out.2))) Try.underlying34 rfl (HR2.out.2)) hS0.out ?_
  simp only [Act.put, List.setIfInBounds_toArray, List.set_cons_zero, List.set_cons_succ]
  refine wpAnyH_take (i := 5) (oi := { dst := some 29, op := Op.fieldAddr 38 (Operand.tmp 3) 3, type := 0, pos := "law.go:220", after := #[], guard := none }) (v := .pointer (some ⟨d, 67, none⟩)) rfl (by kernel_rfl) (by kernel_rfl) (by kernel_rfl) (fun _ _ _ h => h.elim) (Or.inl ⟨by rfl, ?y4⟩) hS0.out ?_
  case y4 =>
    intro V hV
    go_simp
  simp only [Act.put, List.setIfInBounds_toArray, List.set_cons_zero, List.set_cons_succ]
  refine wpAnyH_take (i := 6) (oi := { dst := some 30, op := Op.load 35 (Operand.tmp 29), type := 35, pos := "law.go:220", after := #[{ on := 5, ground := Ground.data }], guard := none }) (v := .slice a n c) rfl (by kernel_rfl) (by kernel_rfl) (by kernel_rfl) (fun _ _ _ h => h.elim) (Or.inl ⟨by rfl, ?y5⟩) hS0.out ?_
  case y5 =>
    intro V hV
    have hc : V.cell? ⟨d, 67, none⟩ = some (.slice a n c) := (cell_same ((show Keep (fun k => k ∈ G.bl p) A V from hV).block _ HL.out.1 HL.out.2)).trans c67
    go_simp
  simp only [Act.put, List.setIfInBounds_toArray, List.set_cons_zero, List.set_cons_succ]
  refine wpAnyH_take (i := 7) (oi := { dst := some 31, op := Op.fieldAddr 38 (Operand.tmp 3) 4, type := 0, pos := "law.go:220", after := #[], guard := none }) (v := .pointer (some ⟨d, 68, none⟩)) rfl (by kernel_rfl) (by kernel_rfl) (by kernel_rfl) (fun _ _ _ h => h.elim) (Or.inl ⟨by rfl, ?y6⟩) hS0.out ?_
  case y6 =>
    intro V hV
    go_simp
  simp only [Act.put, List.setIfInBounds_toArray, List.set_cons_zero, List.set_cons_succ]
  refine wpAnyH_take (i := 8) (oi := { dst := some 32, op := Op.load 36 (Operand.tmp 31), type := 36, pos := "law.go:220", after := #[{ on := 7, ground := Ground.data }], guard := none }) (v := .slice ta tn tc) rfl (by kernel_rfl) (by kernel_rfl) (by kernel_rfl) (fun _ _ _ h => h.elim) (Or.inl ⟨by rfl, ?y7⟩) hS0.out ?_
  case y7 =>
    intro V hV
    have hc : V.cell? ⟨d, 68, none⟩ = some (.slice ta tn tc) := (cell_same ((show Keep (fun k => k ∈ G.bl p) A V from hV).block _ HL.out.1 HL.out.2)).trans c68
    go_simp
  simp only [Act.put, List.setIfInBounds_toArray, List.set_cons_zero, List.set_cons_succ]
  refine wpAnyH_ready (rs := [9]) (by kernel_rfl) (by simp) (AllReadyH.cons (i := 9) (o := { dst := some 33, op := Op.call { callee := Callee.value (Operand.func 22), args := #[Operand.tmp 24, Operand.tmp 26, Operand.tmp 28, Operand.tmp 30, Operand.tmp 32], argTypes := #[25, 34, 34, 35, 36] }, type := 40, pos := "law.go:220", after := #[{ on := 0, ground := Ground.data }, { on := 2, ground := Ground.data }, { on := 4, ground := Ground.data }, { on := 6, ground := Ground.data }, { on := 8, ground := Ground.data }], guard := none }) rfl ?_ AllReadyH.nil)
  · intro K1 hK1
    rw [if_pos (by rfl)]
    have HC1 := HADD.out V0 hL0.out
    go_wp2_with fail
    refine HC1.mono ?_
    rintro e V1 ⟨rfl, G1, hga1, hps1⟩
    dsimp only
    clear HC1
    have hS1 : Hid (Keep (fun k => k ∈ G.bl p) A V1) := (hS0.out).trans hga1.2.2 (fun _ h _ => h)
    have hX1 : Hid (GAt V1 p G1 ∧ G1.ps = PS ∧ ∀ k ∈ G1.bl p, k ∈ G.bl p ∨ A.heap.size ≤ k) := ⟨hga1.1, hps1, fun k hk => (hga1.2.1 k hk).imp id (fun h => Nat.le_trans (hL0.out).size h)⟩
    clear hga1 hps1
    refine hK1.out _ _ hS1.out ?_
    clear hK1
    intro _
    try simp only [Act.put, List.setIfInBounds_toArray, List.set_cons_zero, List.set_cons_succ]
    refine wpAnyH_take (i := 10) (oi := { dst := some 34, op := Op.binOp BinOp.eql 40 (Operand.tmp 33) (Operand.const (Value.int IntKind.i64 0)) 40, type := 4, pos := "law.go:220", after := #[{ on := 9, ground := Ground.data }], guard := none }) (v := .bool true) rfl (by kernel_rfl) (by kernel_rfl) (by kernel_rfl) (fun _ _ _ h => h.elim) (Or.inl ⟨by rfl, ?y8⟩) hS1.out ?_
    case y8 =>
      intro V hV
      go_simp
    simp only [Act.put, List.setIfInBounds_toArray, List.set_cons_zero, List.set_cons_succ]
    refine wpAnyH_take (i := 11) (oi := { dst := some 35, op := Op.move (Operand.tmp 34), type := 4, pos := "law.go:220", after := #[{ on := 10, ground := Ground.data }, { on := 9, ground := Ground.chain }], guard := none }) (v := .bool true) rfl (by kernel_rfl) (by kernel_rfl) (by kernel_rfl) (fun _ _ _ h => h.elim) (Or.inl ⟨by rfl, ?y9⟩) hS1.out ?_
    case y9 =>
      intro V hV
      go_simp
    simp only [Act.put, List.setIfInBounds_toArray, List.set_cons_zero, List.set_cons_succ]
    refine wpAnyH_take (i := 12) (oi := { dst := some 36, op := Op.move (Operand.tmp 5), type := 25, pos := "law.go:220", after := #[{ on := 11, ground := Ground.guard }], guard := some (11, true) }) (v := .pointer (some ⟨p, 0, none⟩)) rfl (by kernel_rfl) (by kernel_rfl) (by kernel_rfl) (fun _ _ _ h => h.elim) (Or.inl ⟨by rfl, ?y10⟩) hS1.out ?_
    case y10 =>
      intro V hV
      go_simp
    simp only [Act.put, List.setIfInBounds_toArray, List.set_cons_zero, List.set_cons_succ]
    refine wpAnyH_take (i := 14) (oi := { dst := some 38, op := Op.move (Operand.tmp 6), type := 45, pos := "law.go:220", after := #[{ on := 11, ground := Ground.guard }], guard := some (11, true) }) (v := .slice sa sn sc) rfl (by kernel_rfl) (by kernel_rfl) (by kernel_rfl) (fun _ _ _ h => h.elim) (Or.inl ⟨by rfl, ?y11⟩) hS1.out ?_
    case y11 =>
      intro V hV
      go_simp
    simp only [Act.put, List.setIfInBounds_toArray, List.set_cons_zero, List.set_cons_succ]
    refine wpAnyH_take (i := 15) (oi := { dst := some 39, op := Op.call { callee := Callee.builtin Builtin.len, args := #[Operand.tmp 38], argTypes := #[45] }, type := 3, pos := "law.go:220", after := #[{ on := 14, ground := Ground.data }, { on := 11, ground := Ground.guard }], guard := some (11, true) }) (v := iv (sn : Int)) rfl (by kernel_rfl) (by kernel_rfl) (by kernel_rfl) (fun _ _ _ h => h.elim) (Or.inl ⟨by rfl, ?y12⟩) hS1.out ?_
    case y12 =>
      intro V hV
      go_simp
    simp only [Act.put, List.setIfInBounds_toArray, List.set_cons_zero, List.set_cons_succ]
    refine wpAnyH_take (i := 16) (oi := { dst := some 40, op := Op.fieldAddr 38 (Operand.tmp 3) 3, type := 0, pos := "law.go:220", after := #[{ on := 11, ground := Ground.guard }], guard := some (11, true) }) (v := .pointer (some ⟨d, 67, none⟩)) rfl (by kernel_rfl) (by kernel_rfl) (by kernel_rfl) (fun _ _ _ h => h.elim) (Or.inl ⟨by rfl, ?y13⟩) hS1.out ?_
    case y13 =>
      intro V hV
      go_simp
    simp only [Act.put, List.setIfInBounds_toArray, List.set_cons_zero, List.set_cons_succ]
    refine wpAnyH_take (i := 17) (oi := { dst := some 41, op := Op.load 35 (Operand.tmp 40), type := 35, pos := "law.go:220", after := #[{ on := 16, ground := Ground.data }, { on := 11, ground := Ground.guard }], guard := some (11, true) }) (v := .slice a n c) rfl (by kernel_rfl) (by kernel_rfl) (by kernel_rfl) (fun _ _ _ h => h.elim) (Or.inl ⟨by rfl, ?y14⟩) hS1.out ?_
    case y14 =>
      intro V hV
      have hc : V.cell? ⟨d, 67, none⟩ = some (.slice a n c) := (cell_same ((show Keep (fun k => k ∈ G.bl p) A V from hV).block _ HL.out.1 HL.out.2)).trans c67
      go_simp
    simp only [Act.put, List.setIfInBounds_toArray, List.set_cons_zero, List.set_cons_succ]
    refine wpAnyH_take (i := 18) (oi := { dst := some 42, op := Op.call { callee := Callee.builtin Builtin.len, args := #[Operand.tmp 41], argTypes := #[35] }, type := 3, pos := "law.go:220", after := #[{ on := 17, ground := Ground.data }, { on := 11, ground := Ground.guard }], guard := some (11, true) }) (v := iv (n : Int)) rfl (by kernel_rfl) (by kernel_rfl) (by kernel_rfl) (fun _ _ _ h => h.elim) (Or.inl ⟨by rfl, ?y15⟩) hS1.out ?_
    case y15 =>
      intro V hV
      go_simp
    simp only [Act.put, List.setIfInBounds_toArray, List.set_cons_zero, List.set_cons_succ]
    refine wpAnyH_take (i := 19) (oi := { dst := some 43, op := Op.binOp BinOp.add 3 (Operand.tmp 39) (Operand.tmp 42) 3, type := 3, pos := "law.go:220", after := #[{ on := 15, ground := Ground.data }, { on := 18, ground := Ground.data }, { on := 11, ground := Ground.guard }], guard := some (11, true) }) (v := iv L) rfl (by kernel_rfl) (by kernel_rfl) (by kernel_rfl) (fun _ _ _ h => h.elim) (Or.inl ⟨by rfl, ?y16⟩) hS1.out ?_
    case y16 =>
      intro V hV
      (rw [← qw]; go_simp)
    simp only [Act.put, List.setIfInBounds_toArray, List.set_cons_zero, List.set_cons_succ]
    refine wpAnyH_ready (rs := [13]) (by kernel_rfl) (by simp) (AllReadyH.cons (i := 13) (o := { dst := some 37, op := Op.call { callee := Callee.value (Operand.func 18), args := #[Operand.tmp 36], argTypes := #[25] }, type := 3, pos := "law.go:220", after := #[{ on := 12, ground := Ground.data }, { on := 11, ground := Ground.chain }, { on := 11, ground := Ground.guard }], guard := some (11, true) }) rfl ?_ AllReadyH.nil)
    · intro K1 hK1
      rw [if_pos (by rfl)]
      have HC2 := HLEN.out V1 G1 (hX1.out).1 (hX1.out).2.1
      go_wp2_with fail
      refine HC2.mono ?_
      rintro e V2 ⟨rfl, rfl⟩
      dsimp only
      clear HC2
      refine hK1.out _ _ hS1.out ?_
      clear hK1
      intro _
      try simp only [Act.put, List.setIfInBounds_toArray, List.set_cons_zero, List.set_cons_succ]
      refine wpAnyH_take (i := 20) (oi := { dst := some 44, op := Op.binOp BinOp.neq 3 (Operand.tmp 37) (Operand.tmp 43) 3, type := 4, pos := "law.go:220", after := #[{ on := 13, ground := Ground.data }, { on := 19, ground := Ground.data }, { on := 11, ground := Ground.guard }], guard := some (11, true) }) (v := .bool false) rfl (by kernel_rfl) (by kernel_rfl) (by kernel_rfl) (fun _ _ _ h => h.elim) (Or.inl ⟨by rfl, ?y17⟩) hS1.out ?_
      case y17 =>
        intro V hV
        go_simp
      simp only [Act.put, List.setIfInBounds_toArray, List.set_cons_zero, List.set_cons_succ]
      refine wpAnyH_take (i := 21) (oi := { dst := some 45, op := Op.move (Operand.tmp 44), type := 4, pos := "law.go:220", after := #[{ on := 20, ground := Ground.data }, { on := 13, ground := Ground.chain }, { on := 11, ground := Ground.guard }], guard := some (11, true) }) (v := .bool false) rfl (by kernel_rfl) (by kernel_rfl) (by kernel_rfl) (fun _ _ _ h => h.elim) (Or.inl ⟨by rfl, ?y18⟩) hS1.out ?_
      case y18 =>
        intro V hV
        go_simp
      simp only [Act.put, List.setIfInBounds_toArray, List.set_cons_zero, List.set_cons_succ]
      refine wpAnyH_take (i := 22) (oi := { dst := some 46, op := Op.move (Operand.tmp 5), type := 25, pos := "law.go:220", after := #[{ on := 21, ground := Ground.guard }], guard := some (21, false) }) (v := .pointer (some ⟨p, 0, none⟩)) rfl (by kernel_rfl) (by kernel_rfl) (by kernel_rfl) (fun _ _ _ h => h.elim) (Or.inl ⟨by rfl, ?y19⟩) hS1.out ?_
      case y19 =>
        intro V hV
        go_simp
      simp only [Act.put, List.setIfInBounds_toArray, List.set_cons_zero, List.set_cons_succ]
      refine wpAnyH_take (i := 23) (oi := { dst := some 47, op := Op.fieldAddr 38 (Operand.tmp 3) 3, type := 0, pos := "law.go:220", after := #[{ on := 21, ground := Ground.guard }], guard := some (21, false) }) (v := .pointer (some ⟨d, 67, none⟩)) rfl (by kernel_rfl) (by kernel_rfl) (by kernel_rfl) (fun _ _ _ h => h.elim) (Or.inl ⟨by rfl, ?y20⟩) hS1.out ?_
      case y20 =>
        intro V hV
        go_simp
      simp only [Act.put, List.setIfInBounds_toArray, List.set_cons_zero, List.set_cons_succ]
      refine wpAnyH_take (i := 24) (oi := { dst := some 48, op := Op.load 35 (Operand.tmp 47), type := 35, pos := "law.go:220", after := #[{ on := 23, ground := Ground.data }, { on := 21, ground := Ground.guard }], guard := some (21, false) }) (v := .slice a n c) rfl (by kernel_rfl) (by kernel_rfl) (by kernel_rfl) (fun _ _ _ h => h.elim) (Or.inl ⟨by rfl, ?y21⟩) hS1.out ?_
      case y21 =>
        intro V hV
        have hc : V.cell? ⟨d, 67, none⟩ = some (.slice a n c) := (cell_same ((show Keep (fun k => k ∈ G.bl p) A V from hV).block _ HL.out.1 HL.out.2)).trans c67
        go_simp
      simp only [Act.put, List.setIfInBounds_toArray, List.set_cons_zero, List.set_cons_succ]
      refine wpAnyH_ready (rs := [25]) (by kernel_rfl) (by simp) (AllReadyH.cons (i := 25) (o := { dst := some 49, op := Op.call { callee := Callee.value (Operand.func 27), args := #[Operand.tmp 46, Operand.tmp 48], argTypes := #[25, 35] }, type := 40, pos := "law.go:220", after := #[{ on := 22, ground := Ground.data }, { on := 24, ground := Ground.data }, { on := 21, ground := Ground.chain }, { on := 21, ground := Ground.guard }], guard := some (21, false) }) rfl ?_ AllReadyH.nil)
      · intro K1 hK1
        rw [if_pos (by rfl)]
        have HC3 := HDROP.out V1 G1 (hS1.out) (hX1.out)
        go_wp2_with fail
        refine HC3.mono ?_
        rintro e V3 ⟨rfl, G2, hga3, hps3⟩
        dsimp only
        clear HC3
        have hS3 : Hid (Keep (fun k => k ∈ G.bl p) A V3) := (hS1.out).trans hga3.2.2 (fun j h hl => ((hX1.out).2.2 j h).resolve_right (by omega))
        have hX3 : Hid (GAt V3 p G2 ∧ G2.ps = G.ps ∧ ∀ k ∈ G2.bl p, k ∈ G.bl p ∨ A.heap.size ≤ k) := ⟨hga3.1, hps3, fun k hk => (hga3.2.1 k hk).elim (fun h => (hX1.out).2.2 k h) (fun h => .inr (Nat.le_trans (hS1.out).size h))⟩
        clear hga3 hps3
        refine hK1.out _ _ hS3.out ?_
        clear hK1
        intro _
        try simp only [Act.put, List.setIfInBounds_toArray, List.set_cons_zero, List.set_cons_succ]
        refine wpAnyH_take (i := 26) (oi := { dst := some 50, op := Op.binOp BinOp.neq 40 (Operand.tmp 49) (Operand.const (Value.int IntKind.i64 0)) 40, type := 4, pos := "law.go:220", after := #[{ on := 25, ground := Ground.data }, { on := 21, ground := Ground.guard }], guard := some (21, false) }) (v := .bool false) rfl (by kernel_rfl) (by kernel_rfl) (by kernel_rfl) (fun _ _ _ h => h.elim) (Or.inl ⟨by rfl, ?y22⟩) hS3.out ?_
        case y22 =>
          intro V hV
          go_simp
        simp only [Act.put, List.setIfInBounds_toArray, List.set_cons_zero, List.set_cons_succ]
        refine wpAnyH_take (i := 27) (oi := { dst := some 51, op := Op.pick (Operand.tmp 45) (Operand.const (Value.bool true)) (Operand.tmp 50), type := 4, pos := "law.go:220", after := #[{ on := 21, ground := Ground.data }, { on := 26, ground := Ground.data }, { on := 11, ground := Ground.guard }], guard := some (11, true) }) (v := .bool false) rfl (by kernel_rfl) (by kernel_rfl) (by kernel_rfl) (fun _ _ _ h => h.elim) (Or.inl ⟨by rfl, ?y23⟩) hS3.out ?_
        case y23 =>
          intro V hV
          go_simp
        simp only [Act.put, List.setIfInBounds_toArray, List.set_cons_zero, List.set_cons_succ]
        refine wpAnyH_take (i := 28) (oi := { dst := some 52, op := Op.pick (Operand.tmp 35) (Operand.tmp 51) (Operand.const (Value.bool false)), type := 4, pos := "law.go:220", after := #[{ on := 11, ground := Ground.data }, { on := 27, ground := Ground.data }], guard := none }) (v := .bool false) rfl (by kernel_rfl) (by kernel_rfl) (by kernel_rfl) (fun _ _ _ h => h.elim) (Or.inl ⟨by rfl, ?y24⟩) hS3.out ?_
        case y24 =>
          intro V hV
          go_simp
        simp only [Act.put, List.setIfInBounds_toArray, List.set_cons_zero, List.set_cons_succ]
        refine wpAnyH_done (by kernel_rfl) ?_ _
        exact hQ V3 G2 hS3.out hX3.out
set_option maxRecDepth 100000 in
set_option maxHeartbeats 4000000 in
theorem un5n {Q : Exit → Act → World → Prop} {x0 x1 x2 x4 x7 x8 x9 x10 x11 x12 x13 x14 x15 x16 x17 x18 x19 x20 x21 x22 x23 x24 x25 x26 x27 x28 x29 x30 x31 x32 x33 x34 x35 x36 x37 x38 x39 x40 x41 x42 x43 x44 x45 x46 x47 x48 x49 x50 x51 x52 x53 x54 x55 x56 x57 x58 x59 x60 x61 x62 x63 x64 x65 x66 x67 x68 x69 x70 x71 x72 x73 x74 x75 x76 x77 x78 x79 x80 x81 x82 x83 x84 x85 x86 x87 x88 x89 x90 x91 x92 : Value} {ds : List Deferred} {A : World} {p d : Nat} {G : Gm} {XU XD : List Value} {a ta sa : Option Addr} {n c tn tc sn sc : Nat} {PS : List PL} {E : Int}
    (HL : Hid (d < A.heap.size ∧ ¬ d ∈ G.bl p)) (HR1 : Hid (A.rangeAt d 1 XU ∧ (Try.prog.info? 34).map (·.size) = some XU.length)) (HR2 : Hid (A.rangeAt d 34 XD ∧ (Try.prog.info? 34).map (·.size) = some XD.length)) (c67 : A.cell? ⟨d, 67, none⟩ = some (.slice a n c)) (c68 : A.cell? ⟨d, 68, none⟩ = some (.slice ta tn tc)) (HADD : Hid (∀ V, Below A.heap.size A V → Calls Try.prog 22 #[.pointer (some ⟨p, 0, none⟩), .agg XU.toArray, .agg XD.toArray, .slice a n c, .slice ta tn tc] V fun e w' => e = .returned (iv E) ∧ ∃ G', GAfter V p G G' w' ∧ G'.ps = PS)) (qE : (E == 0) = false) (HPS : Hid (PS = G.ps))
    (hQ : ∀ V3 G2, Keep (fun k => k ∈ G.bl p) A V3 → (GAt V3 p G2 ∧ G2.ps = G.ps ∧ ∀ k ∈ G2.bl p, k ∈ G.bl p ∨ A.heap.size ≤ k) → Q .normal { tmps := #[x0, x1, x2, .pointer (some ⟨d, 0, none⟩), x4, .pointer (some ⟨p, 0, none⟩), .slice sa sn sc, x7, x8, x9, x10, x11, x12, x13, x14, x15, x16, x17, x18, x19, x20, x21, x22, x23, .pointer (some ⟨p, 0, none⟩), .pointer (some ⟨d, 1, none⟩), .agg XU.toArray, .pointer (some ⟨d, 34, none⟩), .agg XD.toArray, .pointer (some ⟨d, 67, none⟩), .slice a n c, .pointer (some ⟨d, 68, none⟩), .slice ta tn tc, iv E, .bool false, .bool false, undef, undef, undef, undef, undef, undef, undef, undef, undef, undef, undef, undef, undef, undef, undef, undef, .bool false, x53, x54, x55, x56, x57, x58, x59, x60, x61, x62, x63, x64, x65, x66, x67, x68, x69, x70, x71, x72, x73, x74, x75, x76, x77, x78, x79, x80, x81, x82, x83, x84, x85, x86, x87, x88, x89, x90, x91, x92], defers := ds } V3) :
    (Code.region 5 #[{ dst := some 24, op := Op.move (Operand.tmp 5), type := 25, pos := "law.go:220", after := #[], guard := none }, { dst := some 25, op := Op.fieldAddr 38 (Operand.tmp 3) 1, type := 0, pos := "law.go:220", after := #[], guard := none }, { dst := some 26, op := Op.load 34 (Operand.tmp 25), type := 34, pos := "law.go:220", after := #[{ on := 1, ground := Ground.data }], guard := none }, { dst := some 27, op := Op.fieldAddr 38 (Operand.tmp 3) 2, type := 0, pos := "law.go:220", after := #[], guard := none }, { dst := some 28, op := Op.load 34 (Operand.tmp 27), type := 34, pos := "law.go:220", after := #[{ on := 3, ground := Ground.data }], guard := none }, { dst := some 29, op := Op.fieldAddr 38 (Operand.tmp 3) 3, type := 0, pos := "law.go:220", after := #[], guard := none }, { dst := some 30, op := Op.load 35 (Operand.tmp 29), type := 35, pos := "law.go:220", after := #[{ on := 5, ground := Ground.data }], guard := none }, { dst := some 31, op := Op.fieldAddr 38 (Operand.tmp 3) 4, type := 0, pos := "law.go:220", after := #[], guard := none }, { dst := some 32, op := Op.load 36 (Operand.tmp 31), type := 36, pos := "law.go:220", after := #[{ on := 7, ground := Ground.data }], guard := none }, { dst := some 33, op := Op.call { callee := Callee.value (Operand.func 22), args := #[Operand.tmp 24, Operand.tmp 26, Operand.tmp 28, Operand.tmp 30, Operand.tmp 32], argTypes := #[25, 34, 34, 35, 36] }, type := 40, pos := "law.go:220", after := #[{ on := 0, ground := Ground.data }, { on := 2, ground := Ground.data }, { on := 4, ground := Ground.data }, { on := 6, ground := Ground.data }, { on := 8, ground := Ground.data }], guard := none }, { dst := some 34, op := Op.binOp BinOp.eql 40 (Operand.tmp 33) (Operand.const (Value.int IntKind.i64 0)) 40, type := 4, pos := "law.go:220", after := #[{ on := 9, ground := Ground.data }], guard := none }, { dst := some 35, op := Op.move (Operand.tmp 34), type := 4, pos := "law.go:220", after := #[{ on := 10, ground := Ground.data }, { on := 9, ground := Ground.chain }], guard := none }, { dst := some 36, op := Op.move (Operand.tmp 5), type := 25, pos := "law.go:220", after := #[{ on := 11, ground := Ground.guard }], guard := some (11, true) }, { dst := some 37, op := Op.call { callee := Callee.value (Operand.func 18), args := #[Operand.tmp 36], argTypes := #[25] }, type := 3, pos := "law.go:220", after := #[{ on := 12, ground := Ground.data }, { on := 11, ground := Ground.chain }, { on := 11, ground := Ground.guard }], guard := some (11, true) }, { dst := some 38, op := Op.move (Operand.tmp 6), type := 45, pos := "law.go:220", after := #[{ on := 11, ground := Ground.guard }], guard := some (11, true) }, { dst := some 39, op := Op.call { callee := Callee.builtin Builtin.len, args := #[Operand.tmp 38], argTypes := #[45] }, type := 3, pos := "law.go:220", after := #[{ on := 14, ground := Ground.data }, { on := 11, ground := Ground.guard }], guard := some (11, true) }, { dst := some 40, op := Op.fieldAddr 38 (Operand.tmp 3) 3, type := 0, pos := "law.go:220", after := #[{ on := 11, ground := Ground.guard }], guard := some (11, true) }, { dst := some 41, op := Op.load 35 (Operand.tmp 40), type := 35, pos := "law.go:220", after := #[{ on := 16, ground := Ground.data }, { on := 11, ground := Ground.guard }], guard := some (11, true) }, { dst := some 42, op := Op.call { callee := Callee.builtin Builtin.len, args := #[Operand.tmp 41], argTypes := #[35] }, type := 3, pos := "law.go:220", after := #[{ on := 17, ground := Ground.data }, { on := 11, ground := Ground.guard }], guard := some (11, true) }, { dst := some 43, op := Op.binOp BinOp.add 3 (Operand.tmp 39) (Operand.tmp 42) 3, type := 3, pos := "law.go:220", after := #[{ on := 15, ground := Ground.data }, { on := 18, ground := Ground.data }, { on := 11, ground := Ground.guard }], guard := some (11, true) }, { dst := some 44, op := Op.binOp BinOp.neq 3 (Operand.tmp 37) (Operand.tmp 43) 3, type := 4, pos := "law.go:220", after := #[{ on := 13, ground := Ground.data }, { on := 19, ground := Ground.data }, { on := 11, ground := Ground.guard }], guard := some (11, true) }, { dst := some 45, op := Op.move (Operand.tmp 44), type := 4, pos := "law.go:220", after := #[{ on := 20, ground := Ground.data }, { on := 13, ground := Ground.chain }, { on := 11, ground := Ground.guard }], guard := some (11, true) }, { dst := some 46, op := Op.move (Operand.tmp 5), type := 25, pos := "law.go:220", after := #[{ on := 21, ground := Ground.guard }], guard := some (21, false) }, { dst := some 47, op := Op.fieldAddr 38 (Operand.tmp 3) 3, type := 0, pos := "law.go:220", after := #[{ on := 21, ground := Ground.guard }], guard := some (21, false) }, { dst := some 48, op := Op.load 35 (Operand.tmp 47), type := 35, pos := "law.go:220", after := #[{ on := 23, ground := Ground.data }, { on := 21, ground := Ground.guard }], guard := some (21, false) }, { dst := some 49, op := Op.call { callee := Callee.value (Operand.func 27), args := #[Operand.tmp 46, Operand.tmp 48], argTypes := #[25, 35] }, type := 40, pos := "law.go:220", after := #[{ on := 22, ground := Ground.data }, { on := 24, ground := Ground.data }, { on := 21, ground := Ground.chain }, { on := 21, ground := Ground.guard }], guard := some (21, false) }, { dst := some 50, op := Op.binOp BinOp.neq 40 (Operand.tmp 49) (Operand.const (Value.int IntKind.i64 0)) 40, type := 4, pos := "law.go:220", after := #[{ on := 25, ground := Ground.data }, { on := 21, ground := Ground.guard }], guard := some (21, false) }, { dst := some 51, op := Op.pick (Operand.tmp 45) (Operand.const (Value.bool true)) (Operand.tmp 50), type := 4, pos := "law.go:220", after := #[{ on := 21, ground := Ground.data }, { on := 26, ground := Ground.data }, { on := 11, ground := Ground.guard }], guard := some (11, true) }, { dst := some 52, op := Op.pick (Operand.tmp 35) (Operand.tmp 51) (Operand.const (Value.bool false)), type := 4, pos := "law.go:220", after := #[{ on := 11, ground := Ground.data }, { on := 27, ground := Ground.data }], guard := none }] true).wp Try.prog Q { tmps := #[x0, x1, x2, .pointer (some ⟨d, 0, none⟩), x4, .pointer (some ⟨p, 0, none⟩), .slice sa sn sc, x7, x8, x9, x10, x11, x12, x13, x14, x15, x16, x17, x18, x19, x20, x21, x22, x23, x24, x25, x26, x27, x28, x29, x30, x31, x32, x33, x34, x35, x36, x37, x38, x39, x40, x41, x42, x43, x44, x45, x46, x47, x48, x49, x50, x51, x52, x53, x54, x55, x56, x57, x58, x59, x60, x61, x62, x63, x64, x65, x66, x67, x68, x69, x70, x71, x72, x73, x74, x75, x76, x77, x78, x79, x80, x81, x82, x83, x84, x85, x86, x87, x88, x89, x90, x91, x92], defers := ds } A := by
  refine Code.wp_mono (Q := fun x a' w' => match x with | .normal => Q .normal a' w' | _ => False) (by intro x a' w' h; cases x <;> first | exact h | exact h.elim) ?_
  refine wp_region_held (S := fun V => Keep (fun k => k ∈ G.bl p) A V) (by kernel_rfl) ?_
  have hS0 : Hid (Keep (fun k => k ∈ G.bl p) A A.drew) := (Keep.refl _ A).drew
  change wpAnyH Try.prog .any _ _ (fun V => Keep (fun k => k ∈ G.bl p) A V) 29 (Array.replicate 29 false) _ A.drew
  obtain ⟨V0, hV0⟩ : ∃ V0, A.drew = V0 := ⟨_, rfl⟩
  rw [hV0]
  rw [hV0] at hS0
  have hL0 : Hid (Below A.heap.size A V0) := by
    show Below _ _ _
    rw [← hV0]
    exact below_drew0 A
  clear hV0
  refine wpAnyH_take (i := 0) (oi := { dst := some 24, op := Op.move (Operand.tmp 5), type := 25, pos := "law.go:220", after := #[], guard := none }) (v := .pointer (some ⟨p, 0, none⟩)) rfl (by kernel_rfl) (by kernel_rfl) (by kernel_rfl) (fun _ _ _ h => h.elim) (Or.inl ⟨by rfl, ?y1⟩) hS0.out ?_
  case y1 =>
    intro V hV
    go_simp
  simp only [Act.put, List.setIfInBounds_toArray, List.set_cons_zero, List.set_cons_succ]
  refine wpAnyH_take (i := 1) (oi := { dst := some 25, op := Op.fieldAddr 38 (Operand.tmp 3) 1, type := 0, pos := "law.go:220", after := #[], guard := none }) (v := .pointer (some ⟨d, 1, none⟩)) rfl (by kernel_rfl) (by kernel_rfl) (by kernel_rfl) (fun _ _ _ h => h.elim) (Or.inl ⟨by rfl, ?y2⟩) hS0.out ?_
  case y2 =>
    intro V hV
    go_simp
  simp only [Act.put, List.setIfInBounds_toArray, List.set_cons_zero, List.set_cons_succ]
  refine wpAnyH_take (i := 2) (oi := { dst := some 26, op := Op.load 34 (Operand.tmp 25), type := 34, pos := "law.go:220", after := #[{ on := 1, ground := Ground.data }], guard := none }) (v := .agg XU.toArray) rfl (by kernel_rfl) (by kernel_rfl) (by kernel_rfl) (fun _ _ _ h => h.elim) (yieldsIf_load_mid (by rfl) _ _ rfl _ _ rfl (XU) _ (fun V hV => rangeAt_same (HR1.out.1) ((show Keep (fun k => k ∈ G.bl p) A V from hV).block _ (HL.out.1) (HL.out.2))) Try.underlying34 rfl (HR1.out.2)) hS0.out ?_
  simp only [Act.put, List.setIfInBounds_toArray, List.set_cons_zero, List.set_cons_succ]
  refine wpAnyH_take (i := 3) (oi := { dst := some 27, op := Op.fieldAddr 38 (Operand.tmp 3) 2, type := 0, pos := "law.go:220", after := #[], guard := none }) (v := .pointer (some ⟨d, 34, none⟩)) rfl (by kernel_rfl) (by kernel_rfl) (by kernel_rfl) (fun _ _ _ h => h.elim) (Or.inl ⟨by rfl, ?y3⟩) hS0.out ?_
  case y3 =>
    intro V hV
    go_simp
  simp only [Act.put, List.setIfInBounds_toArray, List.set_cons_zero, List.set_cons_succ]
  refine wpAnyH_take (i := 4) (oi := { dst := some 28, op := Op.load 34 (Operand.tmp 27), type := 34, pos := "law.go:220", after := #[{ on := 3, ground := Ground.data }], guard := none }) (v := .agg XD.toArray) rfl (by kernel_rfl) (by kernel_rfl) (by kernel_rfl) (fun _ _ _ h => h.elim) (yieldsIf_load_mid (by rfl) _ _ rfl _ _ rfl (XD) _ (fun V hV => rangeAt_same (HR2.out.1) ((show Keep (fun k => k ∈ G.bl p) A V from hV).block _ (HL.out.1) (HL.out.2))) Try.underlying34 rfl (HR2.out.2)) hS0.out ?_
  simp only [Act.put, List.setIfInBounds_toArray, List.set_cons_zero, List.set_cons_succ]
  refine wpAnyH_take (i := 5) (oi := { dst := some 29, op := Op.fieldAddr 38 (Operand.tmp 3) 3, type := 0, pos := "law.go:220", after := #[], guard := none }) (v := .pointer (some ⟨d, 67, none⟩)) rfl (by kernel_rfl) (by kernel_rfl) (by kernel_rfl) (fun _ _ _ h => h.elim) (Or.inl ⟨by rfl, ?y4⟩) hS0.out ?_
  case y4 =>
    intro V hV
    go_simp
  simp only [Act.put, List.setIfInBounds_toArray, List.set_cons_zero, List.set_cons_succ]
  refine wpAnyH_take (i := 6) (oi := { dst := some 30, op := Op.load 35 (Operand.tmp 29), type := 35, pos := "law.go:220", after := #[{ on := 5, ground := Ground.data }], guard := none }) (v := .slice a n c) rfl (by kernel_rfl) (by kernel_rfl) (by kernel_rfl) (fun _ _ _ h => h.elim) (Or.inl ⟨by rfl, ?y5⟩) hS0.out ?_
  case y5 =>
    intro V hV
    have hc : V.cell? ⟨d, 67, none⟩ = some (.slice a n c) := (cell_same ((show Keep (fun k => k ∈ G.bl p) A V from hV).block _ HL.out.1 HL.out.2)).trans c67
    go_simp
  simp only [Act.put, List.setIfInBounds_toArray, List.set_cons_zero, List.set_cons_succ]
  refine wpAnyH_take (i := 7) (oi := { dst := some 31, op := Op.fieldAddr 38 (Operand.tmp 3) 4, type := 0, pos := "law.go:220", after := #[], guard := none }) (v := .pointer (some ⟨d, 68, none⟩)) rfl (by kernel_rfl) (by kernel_rfl) (by kernel_rfl) (fun _ _ _ h => h.elim) (Or.inl ⟨by rfl, ?y6⟩) hS0.out ?_
  case y6 =>
    intro V hV
    go_simp
  simp only [Act.put, List.setIfInBounds_toArray, List.set_cons_zero, List.set_cons_succ]
  refine wpAnyH_take (i := 8) (oi := { dst := some 32, op := Op.load 36 (Operand.tmp 31), type := 36, pos := "law.go:220", after := #[{ on := 7, ground := Ground.data }], guard := none }) (v := .slice ta tn tc) rfl (by kernel_rfl) (by kernel_rfl) (by kernel_rfl) (fun _ _ _ h => h.elim) (Or.inl ⟨by rfl, ?y7⟩) hS0.out ?_
  case y7 =>
    intro V hV
    have hc : V.cell? ⟨d, 68, none⟩ = some (.slice ta tn tc) := (cell_same ((show Keep (fun k => k ∈ G.bl p) A V from hV).block _ HL.out.1 HL.out.2)).trans c68
    go_simp
  simp only [Act.put, List.setIfInBounds_toArray, List.set_cons_zero, List.set_cons_succ]
  refine wpAnyH_ready (rs := [9]) (by kernel_rfl) (by simp) (AllReadyH.cons (i := 9) (o := { dst := some 33, op := Op.call { callee := Callee.value (Operand.func 22), args := #[Operand.tmp 24, Operand.tmp 26, Operand.tmp 28, Operand.tmp 30, Operand.tmp 32], argTypes := #[25, 34, 34, 35, 36] }, type := 40, pos := "law.go:220", after := #[{ on := 0, ground := Ground.data }, { on := 2, ground := Ground.data }, { on := 4, ground := Ground.data }, { on := 6, ground := Ground.data }, { on := 8, ground := Ground.data }], guard := none }) rfl ?_ AllReadyH.nil)
  · intro K1 hK1
    rw [if_pos (by rfl)]
    have HC1 := HADD.out V0 hL0.out
    go_wp2_with fail
    refine HC1.mono ?_
    rintro e V1 ⟨rfl, G1, hga1, hps1⟩
    dsimp only
    clear HC1
    have hS1 : Hid (Keep (fun k => k ∈ G.bl p) A V1) := (hS0.out).trans hga1.2.2 (fun _ h _ => h)
    have hX1 : Hid (GAt V1 p G1 ∧ G1.ps = PS ∧ ∀ k ∈ G1.bl p, k ∈ G.bl p ∨ A.heap.size ≤ k) := ⟨hga1.1, hps1, fun k hk => (hga1.2.1 k hk).imp id (fun h => Nat.le_trans (hL0.out).size h)⟩
    clear hga1 hps1
    refine hK1.out _ _ hS1.out ?_
    clear hK1
    intro _
    try simp only [Act.put, List.setIfInBounds_toArray, List.set_cons_zero, List.set_cons_succ]
    refine wpAnyH_take (i := 10) (oi := { dst := some 34, op := Op.binOp BinOp.eql 40 (Operand.tmp 33) (Operand.const (Value.int IntKind.i64 0)) 40, type := 4, pos := "law.go:220", after := #[{ on := 9, ground := Ground.data }], guard := none }) (v := .bool false) rfl (by kernel_rfl) (by kernel_rfl) (by kernel_rfl) (fun _ _ _ h => h.elim) (Or.inl ⟨by rfl, ?y8⟩) hS1.out ?_
    case y8 =>
      intro V hV
      go_simp
    simp only [Act.put, List.setIfInBounds_toArray, List.set_cons_zero, List.set_cons_succ]
    refine wpAnyH_take (i := 11) (oi := { dst := some 35, op := Op.move (Operand.tmp 34), type := 4, pos := "law.go:220", after := #[{ on := 10, ground := Ground.data }, { on := 9, ground := Ground.chain }], guard := none }) (v := .bool false) rfl (by kernel_rfl) (by kernel_rfl) (by kernel_rfl) (fun _ _ _ h => h.elim) (Or.inl ⟨by rfl, ?y9⟩) hS1.out ?_
    case y9 =>
      intro V hV
      go_simp
    simp only [Act.put, List.setIfInBounds_toArray, List.set_cons_zero, List.set_cons_succ]
    refine wpAnyH_take (i := 12) (oi := { dst := some 36, op := Op.move (Operand.tmp 5), type := 25, pos := "law.go:220", after := #[{ on := 11, ground := Ground.guard }], guard := some (11, true) }) (v := undef) rfl (by kernel_rfl) (by kernel_rfl) (by kernel_rfl) (fun _ _ _ h => h.elim) (Or.inr ⟨by rfl, rfl⟩) hS1.out ?_
    simp only [Act.put, List.setIfInBounds_toArray, List.set_cons_zero, List.set_cons_succ]
    refine wpAnyH_take (i := 13) (oi := { dst := some 37, op := Op.call { callee := Callee.value (Operand.func 18), args := #[Operand.tmp 36], argTypes := #[25] }, type := 3, pos := "law.go:220", after := #[{ on := 12, ground := Ground.data }, { on := 11, ground := Ground.chain }, { on := 11, ground := Ground.guard }], guard := some (11, true) }) (v := undef) rfl (by kernel_rfl) (by kernel_rfl) (by kernel_rfl) (fun _ _ _ h => h.elim) (Or.inr ⟨by rfl, rfl⟩) hS1.out ?_
    simp only [Act.put, List.setIfInBounds_toArray, List.set_cons_zero, List.set_cons_succ]
    refine wpAnyH_take (i := 14) (oi := { dst := some 38, op := Op.move (Operand.tmp 6), type := 45, pos := "law.go:220", after := #[{ on := 11, ground := Ground.guard }], guard := some (11, true) }) (v := undef) rfl (by kernel_rfl) (by kernel_rfl) (by kernel_rfl) (fun _ _ _ h => h.elim) (Or.inr ⟨by rfl, rfl⟩) hS1.out ?_
    simp only [Act.put, List.setIfInBounds_toArray, List.set_cons_zero, List.set_cons_succ]
    refine wpAnyH_take (i := 15) (oi := { dst := some 39, op := Op.call { callee := Callee.builtin Builtin.len, args := #[Operand.tmp 38], argTypes := #[45] }, type := 3, pos := "law.go:220", after := #[{ on := 14, ground := Ground.data }, { on := 11, ground := Ground.guard }], guard := some (11, true) }) (v := undef) rfl (by kernel_rfl) (by kernel_rfl) (by kernel_rfl) (fun _ _ _ h => h.elim) (Or.inr ⟨by rfl, rfl⟩) hS1.out ?_
    simp only [Act.put, List.setIfInBounds_toArray, List.set_cons_zero, List.set_cons_succ]
    refine wpAnyH_take (i := 16) (oi := { dst := some 40, op := Op.fieldAddr 38 (Operand.tmp 3) 3, type := 0, pos := "law.go:220", after := #[{ on := 11, ground := Ground.guard }], guard := some (11, true) }) (v := undef) rfl (by kernel_rfl) (by kernel_rfl) (by kernel_rfl) (fun _ _ _ h => h.elim) (Or.inr ⟨by rfl, rfl⟩) hS1.out ?_
    simp only [Act.put, List.setIfInBounds_toArray, List.set_cons_zero, List.set_cons_succ]
    refine wpAnyH_take (i := 17) (oi := { dst := some 41, op := Op.load 35 (Operand.tmp 40), type := 35, pos := "law.go:220", after := #[{ on := 16, ground := Ground.data }, { on := 11, ground := Ground.guard }], guard := some (11, true) }) (v := undef) rfl (by kernel_rfl) (by kernel_rfl) (by kernel_rfl) (fun _ _ _ h => h.elim) (Or.inr ⟨by rfl, rfl⟩) hS1.out ?_
    simp only [Act.put, List.setIfInBounds_toArray, List.set_cons_zero, List.set_cons_succ]
    refine wpAnyH_take (i := 18) (oi := { dst := some 42, op := Op.call { callee := Callee.builtin Builtin.len, args := #[Operand.tmp 41], argTypes := #[35] }, type := 3, pos := "law.go:220", after := #[{ on := 17, ground := Ground.data }, { on := 11, ground := Ground.guard }], guard := some (11, true) }) (v := undef) rfl (by kernel_rfl) (by kernel_rfl) (by kernel_rfl) (fun _ _ _ h => h.elim) (Or.inr ⟨by rfl, rfl⟩) hS1.out ?_
    simp only [Act.put, List.setIfInBounds_toArray, List.set_cons_zero, List.set_cons_succ]
    refine wpAnyH_take (i := 19) (oi := { dst := some 43, op := Op.binOp BinOp.add 3 (Operand.tmp 39) (Operand.tmp 42) 3, type := 3, pos := "law.go:220", after := #[{ on := 15, ground := Ground.data }, { on := 18, ground := Ground.data }, { on := 11, ground := Ground.guard }], guard := some (11, true) }) (v := undef) rfl (by kernel_rfl) (by kernel_rfl) (by kernel_rfl) (fun _ _ _ h => h.elim) (Or.inr ⟨by rfl, rfl⟩) hS1.out ?_
    simp only [Act.put, List.setIfInBounds_toArray, List.set_cons_zero, List.set_cons_succ]
    refine wpAnyH_take (i := 20) (oi := { dst := some 44, op := Op.binOp BinOp.neq 3 (Operand.tmp 37) (Operand.tmp 43) 3, type := 4, pos := "law.go:220", after := #[{ on := 13, ground := Ground.data }, { on := 19, ground := Ground.data }, { on := 11, ground := Ground.guard }], guard := some (11, true) }) (v := undef) rfl (by kernel_rfl) (by kernel_rfl) (by kernel_rfl) (fun _ _ _ h => h.elim) (Or.inr ⟨by rfl, rfl⟩) hS1.out ?_
    simp only [Act.put, List.setIfInBounds_toArray, List.set_cons_zero, List.set_cons_succ]
    refine wpAnyH_take (i := 21) (oi := { dst := some 45, op := Op.move (Operand.tmp 44), type := 4, pos := "law.go:220", after := #[{ on := 20, ground := Ground.data }, { on := 13, ground := Ground.chain }, { on := 11, ground := Ground.guard }], guard := some (11, true) }) (v := undef) rfl (by kernel_rfl) (by kernel_rfl) (by kernel_rfl) (fun _ _ _ h => h.elim) (Or.inr ⟨by rfl, rfl⟩) hS1.out ?_
    simp only [Act.put, List.setIfInBounds_toArray, List.set_cons_zero, List.set_cons_succ]
    refine wpAnyH_take (i := 22) (oi := { dst := some 46, op := Op.move (Operand.tmp 5), type := 25, pos := "law.go:220", after := #[{ on := 21, ground := Ground.guard }], guard := some (21, false) }) (v := undef) rfl (by kernel_rfl) (by kernel_rfl) (by kernel_rfl) (fun _ _ _ h => h.elim) (Or.inr ⟨by rfl, rfl⟩) hS1.out ?_
    simp only [Act.put, List.setIfInBounds_toArray, List.set_cons_zero, List.set_cons_succ]
    refine wpAnyH_take (i := 23) (oi := { dst := some 47, op := Op.fieldAddr 38 (Operand.tmp 3) 3, type := 0, pos := "law.go:220", after := #[{ on := 21, ground := Ground.guard }], guard := some (21, false) }) (v := undef) rfl (by kernel_rfl) (by kernel_rfl) (by kernel_rfl) (fun _ _ _ h => h.elim) (Or.inr ⟨by rfl, rfl⟩) hS1.out ?_
    simp only [Act.put, List.setIfInBounds_toArray, List.set_cons_zero, List.set_cons_succ]
    refine wpAnyH_take (i := 24) (oi := { dst := some 48, op := Op.load 35 (Operand.tmp 47), type := 35, pos := "law.go:220", after := #[{ on := 23, ground := Ground.data }, { on := 21, ground := Ground.guard }], guard := some (21, false) }) (v := undef) rfl (by kernel_rfl) (by kernel_rfl) (by kernel_rfl) (fun _ _ _ h => h.elim) (Or.inr ⟨by rfl, rfl⟩) hS1.out ?_
    simp only [Act.put, List.setIfInBounds_toArray, List.set_cons_zero, List.set_cons_succ]
    refine wpAnyH_take (i := 25) (oi := { dst := some 49, op := Op.call { callee := Callee.value (Operand.func 27), args := #[Operand.tmp 46, Operand.tmp 48], argTypes := #[25, 35] }, type := 40, pos := "law.go:220", after := #[{ on := 22, ground := Ground.data }, { on := 24, ground := Ground.data }, { on := 21, ground := Ground.chain }, { on := 21, ground := Ground.guard }], guard := some (21, false) }) (v := undef) rfl (by kernel_rfl) (by kernel_rfl) (by kernel_rfl) (fun _ _ _ h => h.elim) (Or.inr ⟨by rfl, rfl⟩) hS1.out ?_
    simp only [Act.put, List.setIfInBounds_toArray, List.set_cons_zero, List.set_cons_succ]
    refine wpAnyH_take (i := 26) (oi := { dst := some 50, op := Op.binOp BinOp.neq 40 (Operand.tmp 49) (Operand.const (Value.int IntKind.i64 0)) 40, type := 4, pos := "law.go:220", after := #[{ on := 25, ground := Ground.data }, { on := 21, ground := Ground.guard }], guard := some (21, false) }) (v := undef) rfl (by kernel_rfl) (by kernel_rfl) (by kernel_rfl) (fun _ _ _ h => h.elim) (Or.inr ⟨by rfl, rfl⟩) hS1.out ?_
    simp only [Act.put, List.setIfInBounds_toArray, List.set_cons_zero, List.set_cons_succ]
    refine wpAnyH_take (i := 27) (oi := { dst := some 51, op := Op.pick (Operand.tmp 45) (Operand.const (Value.bool true)) (Operand.tmp 50), type := 4, pos := "law.go:220", after := #[{ on := 21, ground := Ground.data }, { on := 26, ground := Ground.data }, { on := 11, ground := Ground.guard }], guard := some (11, true) }) (v := undef) rfl (by kernel_rfl) (by kernel_rfl) (by kernel_rfl) (fun _ _ _ h => h.elim) (Or.inr ⟨by rfl, rfl⟩) hS1.out ?_
    simp only [Act.put, List.setIfInBounds_toArray, List.set_cons_zero, List.set_cons_succ]
    refine wpAnyH_take (i := 28) (oi := { dst := some 52, op := Op.pick (Operand.tmp 35) (Operand.tmp 51) (Operand.const (Value.bool false)), type := 4, pos := "law.go:220", after := #[{ on := 11, ground := Ground.data }, { on := 27, ground := Ground.data }], guard := none }) (v := .bool false) rfl (by kernel_rfl) (by kernel_rfl) (by kernel_rfl) (fun _ _ _ h => h.elim) (Or.inl ⟨by rfl, ?y10⟩) hS1.out ?_
    case y10 =>
      intro V hV
      go_simp
    simp only [Act.put, List.setIfInBounds_toArray, List.set_cons_zero, List.set_cons_succ]
    refine wpAnyH_done (by kernel_rfl) ?_ _
    exact hQ V1 G1 hS1.out ⟨(hX1.out).1, (hX1.out).2.1.trans HPS.out, (hX1.out).2.2⟩
end Go.Proofs.Ytjcihaohpbmogaa.Oct
