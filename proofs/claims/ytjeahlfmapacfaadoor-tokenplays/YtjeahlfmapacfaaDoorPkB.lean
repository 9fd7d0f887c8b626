/-
  Layer 16 (token): did a book write a text?
  Layer 16 (token): strings.Contains, laid.
  Layer 16 (token): a book in memory; what a text stands for.
  Layer 16 (token): isMade, Len, state and find.
-/
import Derived.Test.YtjeahlfmapacfaaDoorPkA
import Derived.Deep.RegionHeld
import Derived.Deep.MidRow
import Derived.Test.YtjeahlfmapacfaaDoorRows
import Derived.Shelf.Strings.Search3
import Derived.WalkKit
import Derived.Below
import Derived.Lib.IndexLaws
/- Layer 16 (token): did a book write a text? -/
namespace Go.Proofs.YtjeahlfmapacfaaDoor.Oct
open Go.RowKit Sha
set_option linter.unusedSimpArgs false
set_option linter.unusedVariables false

theorem hex_dig : ∀ x : Fin 16, digits.getD x.val 0 ≠ 46 := by decide +kernel
theorem hex_no : ∀ l : List UInt8, ∀ c ∈ hexOf l, c ≠ 46
  | [], c, h => by simp [hexOf] at h
  | x :: l, c, h => by
    have hx := x.toNat_lt
    simp only [hexOf, List.mem_cons] at h
    rcases h with rfl | rfl | h
    · exact hex_dig ⟨x.toNat / 16, by omega⟩
    · exact hex_dig ⟨x.toNat % 16, by omega⟩
    · exact hex_no l c h
theorem at_bang (X : BA) (j : Nat) (h : j < X.size) : X.data.toList[j]? = some (X.data[j]!) := by
  have h' : j < X.data.size := h
  rw [Array.getElem?_toList, Array.getElem?_eq_getElem h', getElem!_pos X.data j h']
/-- where the tag of a sealed text begins -/
theorem seal_at {X : BA} {S bd : List UInt8} (hX : X.data.toList = sealT S bd) : Lib.lastIndexByte X 46 = (bd.length : Int) := by
  have hl : X.size = bd.length + 1 + (hexOf (tagOf S bd)).length := by
    have : X.data.toList.length = X.size := rfl
    rw [← this, hX]
    unfold sealT
    simp
    omega
  have hm : X.data.toList[bd.length]? = some 46 := by rw [hX]; unfold sealT; rw [List.getElem?_append_right (Nat.le_refl _), Nat.sub_self]; rfl
  have hb : ((X.data[bd.length]!).toNat : Int) = 46 := by
    have h1 := at_bang X bd.length (by omega)
    rw [hm] at h1
    rw [← Option.some.inj h1]
    rfl
  have hn : ∀ j, bd.length < j → j < X.size → ((X.data[j]!).toNat : Int) ≠ 46 := by
    intro j h1 h2 h3
    have h4 := at_bang X j h2
    rw [hX] at h4
    unfold sealT at h4
    rw [List.getElem?_append_right (by omega)] at h4
    obtain ⟨k, rfl⟩ : ∃ k, j = bd.length + (k + 1) := ⟨j - bd.length - 1, by omega⟩
    rw [show bd.length + (k + 1) - bd.length = k + 1 by omega, List.getElem?_cons_succ] at h4
    have h5 := hex_no _ _ (List.mem_of_getElem? h4)
    exact h5 (UInt8.toNat_inj.1 (by show _ = 46; omega))
  rcases Lib.lastIndexByte_spec X 46 with ⟨_, h⟩ | ⟨i, hi, he, h1, h2⟩
  · exact absurd hb (h bd.length (by omega))
  · rw [he]
    rcases Nat.lt_trichotomy i bd.length with h | h | h
    · exact absurd hb (h2 bd.length h (by omega))
    · rw [h]
    · exact absurd h1 (hn i h hi)
theorem step_conv {P : Program} {w w' : World} {ops : Array Oper} {o : Oper} {a : Act} {K : Act → World → Prop} {Q : Exit → Act → World → Prop} {E : Prop} (hw : Region.wanted o (yielded ops a.tmps) = true) (x : Operand) (src dst : TypeId) (ho : o.op = .convert src dst x) (v v' : Value) (hx : a.eval x = v)
    (hr : (convert src dst v).run P w = .ok v' w') (h : K (a.put o.dst v') w') : if Region.wanted o (yielded ops a.tmps) = true then Oper.wp P o a w K Q else E := by
  rw [if_pos hw]
  unfold Oper.wp execOp
  simp only [ho, Sem.run_bind, Sem.run_pure, Result.andThen_ok, hx, hr]
  exact h
theorem yl_sl {o : Oper} {a : Act} (V : World) (x y : Operand) (X Y : BA) (i : Nat) (hop : o.op = .slice 9 x none (some y) none) (hx : a.eval x = .string X) (hy : a.eval y = iv (i : Int)) (hr : X.extract 0 i = Y ∧ i ≤ X.size) : (execOp a.eval o).run Tryd.prog V = .ok (.value (.string Y)) V := by
  obtain ⟨rfl, hi⟩ := hr
  have q1 : (i : Int) ≤ (X.size : Int) := by omega
  unfold execOp
  simp only [hop, Sem.run_bind, Sem.run_pure, Result.andThen_ok, hx, hy, Option.map_some, Option.map_none]
  go_simp
set_option maxRecDepth 100000 in
set_option maxHeartbeats 4000000 in
theorem wr5 {Q : Exit → Act → World → Prop} {x2 x3 x4 x8 x9 x10 x11 x12 x13 x14 x15 x16 x17 x18 x19 x20 x21 x22 x23 x24 x25 x26 x27 x28 x29 x30 x31 x32 x33 : Value} {ds : List Deferred} {A : World} {b i n cp : Nat} {a : Option Addr} {X Y : BA} {tv : Value} {R : Bool}
    (HL : Hid (b < A.heap.size)) (c0 : A.cell? ⟨b, 0, none⟩ = some (.slice a n cp)) (HZ : Hid (Y.size ≤ 20000)) (HSL : Hid (X.extract 0 i = Y ∧ i ≤ X.size)) (H41 : Hid (∀ V q cq, Below A.heap.size A V → In V (some ⟨q, 0, none⟩) Y.size cq Y.data.toList → Calls Tryd.prog 41 #[.slice a n cp, .slice (some ⟨q, 0, none⟩) Y.size cq, tv] V fun e V2 => e = .returned (.bool R) ∧ Below V.heap.size V V2))
    (hQ : ∀ V1 q1 cq, Below A.heap.size A V1 → Q .normal { tmps := #[.pointer (some ⟨b, 0, none⟩), .string X, x2, x3, .bool R, iv (i : Int), tv, iv 0, x8, x9, x10, x11, x12, x13, x14, x15, x16, x17, x18, x19, iv 0, .bool true, .bool true, .pointer (some ⟨b, 0, none⟩), .pointer (some ⟨b, 0, none⟩), .pointer (some ⟨b, 0, none⟩), .slice a n cp, .string X, iv (i : Int), .string Y, .slice (some ⟨q1, 0, none⟩) Y.size cq, tv, .bool R, .bool R], defers := ds } V1) :
    (Code.region 5 #[{ dst := some 20, op := Op.move (Operand.tmp 7), type := 33, pos := "text.go:28", after := #[], guard := none }, { dst := some 21, op := Op.binOp BinOp.eql 33 (Operand.tmp 20) (Operand.const (Value.int IntKind.i64 0)) 33, type := 4, pos := "text.go:28", after := #[{ on := 0, ground := Ground.data }], guard := none }, { dst := some 22, op := Op.move (Operand.tmp 21), type := 4, pos := "text.go:28", after := #[{ on := 1, ground := Ground.data }], guard := none }, { dst := some 23, op := Op.move (Operand.tmp 0), type := 26, pos := "text.go:28", after := #[{ on := 2, ground := Ground.guard }], guard := some (2, true) }, { dst := some 24, op := Op.nilCheck (Operand.tmp 23), type := 0, pos := "text.go:28", after := #[{ on := 3, ground := Ground.data }, { on := 2, ground := Ground.guard }], guard := some (2, true) }, { dst := some 25, op := Op.fieldAddr 57 (Operand.tmp 24) 0, type := 0, pos := "text.go:28", after := #[{ on := 4, ground := Ground.data }, { on := 2, ground := Ground.guard }], guard := some (2, true) }, { dst := some 26, op := Op.load 22 (Operand.tmp 25), type := 22, pos := "text.go:28", after := #[{ on := 5, ground := Ground.data }, { on := 2, ground := Ground.guard }], guard := some (2, true) }, { dst := some 27, op := Op.move (Operand.tmp 1), type := 9, pos := "text.go:28", after := #[{ on := 2, ground := Ground.guard }], guard := some (2, true) }, { dst := some 28, op := Op.move (Operand.tmp 5), type := 3, pos := "text.go:28", after := #[{ on := 2, ground := Ground.guard }], guard := some (2, true) }, { dst := some 29, op := Op.slice 9 (Operand.tmp 27) none (some (Operand.tmp 28)) none, type := 9, pos := "text.go:28", after := #[{ on := 7, ground := Ground.data }, { on := 8, ground := Ground.data }, { on := 2, ground := Ground.guard }], guard := some (2, true) }, { dst := some 30, op := Op.convert 9 22 (Operand.tmp 29), type := 22, pos := "text.go:28", after := #[{ on := 9, ground := Ground.data }, { on := 2, ground := Ground.guard }], guard := some (2, true) }, { dst := some 31, op := Op.move (Operand.tmp 6), type := 22, pos := "text.go:28", after := #[{ on := 2, ground := Ground.guard }], guard := some (2, true) }, { dst := some 32, op := Op.call { callee := Callee.value (Operand.func 41), args := #[Operand.tmp 26, Operand.tmp 30, Operand.tmp 31], argTypes := #[22, 22, 22] }, type := 4, pos := "text.go:28", after := #[{ on := 6, ground := Ground.data }, { on := 10, ground := Ground.data }, { on := 11, ground := Ground.data }, { on := 2, ground := Ground.chain }, { on := 2, ground := Ground.guard }], guard := some (2, true) }, { dst := some 33, op := Op.pick (Operand.tmp 22) (Operand.tmp 32) (Operand.const (Value.bool false)), type := 4, pos := "text.go:28", after := #[{ on := 2, ground := Ground.data }, { on := 12, ground := Ground.data }], guard := none }, { dst := some 4, op := Op.assign (Operand.tmp 33), type := 4, pos := "text.go:28", after := #[{ on := 13, ground := Ground.data }, { on := 12, ground := Ground.chain }, { on := 0, ground := Ground.phase }, { on := 1, ground := Ground.phase }, { on := 2, ground := Ground.phase }, { on := 3, ground := Ground.phase }, { on := 4, ground := Ground.phase }, { on := 5, ground := Ground.phase }, { on := 6, ground := Ground.phase }, { on := 7, ground := Ground.phase }, { on := 8, ground := Ground.phase }, { on := 9, ground := Ground.phase }, { on := 10, ground := Ground.phase }, { on := 11, ground := Ground.phase }, { on := 12, ground := Ground.phase }, { on := 13, ground := Ground.phase }], guard := none }] true).wp Tryd.prog Q { tmps := #[.pointer (some ⟨b, 0, none⟩), .string X, x2, x3, x4, iv (i : Int), tv, iv 0, x8, x9, x10, x11, x12, x13, x14, x15, x16, x17, x18, x19, x20, x21, x22, x23, x24, x25, x26, x27, x28, x29, x30, x31, x32, x33], defers := ds } A := by
  refine Code.wp_mono (Q := fun x a' w' => match x with | .normal => Q .normal a' w' | _ => False) (by intro x a' w' h; cases x <;> first | exact h | exact h.elim) ?_
  refine wp_region_held (S := fun V => Below A.heap.size A V) (by kernel_rfl) ?_
  have hS0 : Hid (Below A.heap.size A A.drew) := below_drew0 A
  change wpAnyH Tryd.prog .any _ _ (fun V => Below A.heap.size A V) 15 (Array.replicate 15 false) _ A.drew
  obtain ⟨V0, hV0⟩ : ∃ V0, A.drew = V0 := ⟨_, rfl⟩
  rw [hV0]
  rw [hV0] at hS0
  clear hV0
  refine wpAnyH_take (i := 0) (oi := { dst := some 20, op := Op.move (Operand.tmp 7), type := 33, pos := "text.go:28", after := #[], guard := none }) (v := iv 0) rfl (by kernel_rfl) (by kernel_rfl) (by kernel_rfl) (fun _ _ _ h => h.elim) (Or.inl ⟨by rfl, ?y1⟩) hS0.out ?_
  case y1 =>
    intro V hV
    go_simp
  simp only [Act.put, List.setIfInBounds_toArray, List.set_cons_zero, List.set_cons_succ]
  refine wpAnyH_take (i := 1) (oi := { dst := some 21, op := Op.binOp BinOp.eql 33 (Operand.tmp 20) (Operand.const (Value.int IntKind.i64 0)) 33, type := 4, pos := "text.go:28", after := #[{ on := 0, ground := Ground.data }], guard := none }) (v := .bool true) rfl (by kernel_rfl) (by kernel_rfl) (by kernel_rfl) (fun _ _ _ h => h.elim) (Or.inl ⟨by rfl, ?y2⟩) hS0.out ?_
  case y2 =>
    intro V hV
    go_simp
  simp only [Act.put, List.setIfInBounds_toArray, List.set_cons_zero, List.set_cons_succ]
  refine wpAnyH_take (i := 2) (oi := { dst := some 22, op := Op.move (Operand.tmp 21), type := 4, pos := "text.go:28", after := #[{ on := 1, ground := Ground.data }], guard := none }) (v := .bool true) rfl (by kernel_rfl) (by kernel_rfl) (by kernel_rfl) (fun _ _ _ h => h.elim) (Or.inl ⟨by rfl, ?y3⟩) hS0.out ?_
  case y3 =>
    intro V hV
    go_simp
  simp only [Act.put, List.setIfInBounds_toArray, List.set_cons_zero, List.set_cons_succ]
  refine wpAnyH_take (i := 3) (oi := { dst := some 23, op := Op.move (Operand.tmp 0), type := 26, pos := "text.go:28", after := #[{ on := 2, ground := Ground.guard }], guard := some (2, true) }) (v := .pointer (some ⟨b, 0, none⟩)) rfl (by kernel_rfl) (by kernel_rfl) (by kernel_rfl) (fun _ _ _ h => h.elim) (Or.inl ⟨by rfl, ?y4⟩) hS0.out ?_
  case y4 =>
    intro V hV
    go_simp
  simp only [Act.put, List.setIfInBounds_toArray, List.set_cons_zero, List.set_cons_succ]
  refine wpAnyH_take (i := 4) (oi := { dst := some 24, op := Op.nilCheck (Operand.tmp 23), type := 0, pos := "text.go:28", after := #[{ on := 3, ground := Ground.data }, { on := 2, ground := Ground.guard }], guard := some (2, true) }) (v := .pointer (some ⟨b, 0, none⟩)) rfl (by kernel_rfl) (by kernel_rfl) (by kernel_rfl) (fun _ _ _ h => h.elim) (Or.inl ⟨by rfl, ?y5⟩) hS0.out ?_
  case y5 =>
    intro V hV
    go_simp
  simp only [Act.put, List.setIfInBounds_toArray, List.set_cons_zero, List.set_cons_succ]
  refine wpAnyH_take (i := 5) (oi := { dst := some 25, op := Op.fieldAddr 57 (Operand.tmp 24) 0, type := 0, pos := "text.go:28", after := #[{ on := 4, ground := Ground.data }, { on := 2, ground := Ground.guard }], guard := some (2, true) }) (v := .pointer (some ⟨b, 0, none⟩)) rfl (by kernel_rfl) (by kernel_rfl) (by kernel_rfl) (fun _ _ _ h => h.elim) (Or.inl ⟨by rfl, ?y6⟩) hS0.out ?_
  case y6 =>
    intro V hV
    go_simp
  simp only [Act.put, List.setIfInBounds_toArray, List.set_cons_zero, List.set_cons_succ]
  refine wpAnyH_take (i := 6) (oi := { dst := some 26, op := Op.load 22 (Operand.tmp 25), type := 22, pos := "text.go:28", after := #[{ on := 5, ground := Ground.data }, { on := 2, ground := Ground.guard }], guard := some (2, true) }) (v := .slice a n cp) rfl (by kernel_rfl) (by kernel_rfl) (by kernel_rfl) (fun _ _ _ h => h.elim) (Or.inl ⟨by rfl, ?y7⟩) hS0.out ?_
  case y7 =>
    intro V hV
    have hc : V.cell? ⟨b, 0, none⟩ = some (.slice a n cp) := ((show Below A.heap.size A V from hV).cell (p := ⟨b, 0, none⟩) HL.out).trans c0
    go_simp
  simp only [Act.put, List.setIfInBounds_toArray, List.set_cons_zero, List.set_cons_succ]
  refine wpAnyH_take (i := 7) (oi := { dst := some 27, op := Op.move (Operand.tmp 1), type := 9, pos := "text.go:28", after := #[{ on := 2, ground := Ground.guard }], guard := some (2, true) }) (v := .string X) rfl (by kernel_rfl) (by kernel_rfl) (by kernel_rfl) (fun _ _ _ h => h.elim) (Or.inl ⟨by rfl, ?y8⟩) hS0.out ?_
  case y8 =>
    intro V hV
    go_simp
  simp only [Act.put, List.setIfInBounds_toArray, List.set_cons_zero, List.set_cons_succ]
  refine wpAnyH_take (i := 8) (oi := { dst := some 28, op := Op.move (Operand.tmp 5), type := 3, pos := "text.go:28", after := #[{ on := 2, ground := Ground.guard }], guard := some (2, true) }) (v := iv (i : Int)) rfl (by kernel_rfl) (by kernel_rfl) (by kernel_rfl) (fun _ _ _ h => h.elim) (Or.inl ⟨by rfl, ?y9⟩) hS0.out ?_
  case y9 =>
    intro V hV
    go_simp
  simp only [Act.put, List.setIfInBounds_toArray, List.set_cons_zero, List.set_cons_succ]
  refine wpAnyH_take (i := 9) (oi := { dst := some 29, op := Op.slice 9 (Operand.tmp 27) none (some (Operand.tmp 28)) none, type := 9, pos := "text.go:28", after := #[{ on := 7, ground := Ground.data }, { on := 8, ground := Ground.data }, { on := 2, ground := Ground.guard }], guard := some (2, true) }) (v := .string Y) rfl (by kernel_rfl) (by kernel_rfl) (by kernel_rfl) (fun _ _ _ h => h.elim) (Or.inl ⟨by rfl, ?y10⟩) hS0.out ?_
  case y10 =>
    intro V hV
    exact yl_sl V _ _ X Y i rfl rfl rfl HSL.out
  simp only [Act.put, List.setIfInBounds_toArray, List.set_cons_zero, List.set_cons_succ]
  refine wpAnyH_take (i := 11) (oi := { dst := some 31, op := Op.move (Operand.tmp 6), type := 22, pos := "text.go:28", after := #[{ on := 2, ground := Ground.guard }], guard := some (2, true) }) (v := tv) rfl (by kernel_rfl) (by kernel_rfl) (by kernel_rfl) (fun _ _ _ h => h.elim) (Or.inl ⟨by rfl, ?y11⟩) hS0.out ?_
  case y11 =>
    intro V hV
    go_simp
  simp only [Act.put, List.setIfInBounds_toArray, List.set_cons_zero, List.set_cons_succ]
  refine wpAnyH_ready (rs := [10]) (by kernel_rfl) (by simp) (AllReadyH.cons (i := 10) (o := { dst := some 30, op := Op.convert 9 22 (Operand.tmp 29), type := 22, pos := "text.go:28", after := #[{ on := 9, ground := Ground.data }, { on := 2, ground := Ground.guard }], guard := some (2, true) }) rfl ?_ AllReadyH.nil)
  · intro K1 hK1
    obtain ⟨cq, V1, hcv1, HIN1, -, HBW1, -⟩ := label_made (P := Tryd.prog) V0 9 22 5 Y Tryd.underlying9 Tryd.underlying22 Tryd.underlying5 (by have := HZ.out; omega)
    refine step_conv (by rfl) (.tmp 29) 9 22 rfl (.string Y) _ rfl hcv1 ?_
    obtain ⟨q1, hq1⟩ : ∃ m, V0.heap.size = m := ⟨_, rfl⟩
    rw [hq1] at HIN1
    rw [hq1]
    clear hcv1 hq1
    have hS1 : Hid (Below A.heap.size A V1) := hS0.out.trans (HBW1.out.mono hS0.out.size)
    clear HBW1
    refine hK1.out _ _ hS1.out ?_
    clear hK1
    intro _
    try simp only [Act.put, List.setIfInBounds_toArray, List.set_cons_zero, List.set_cons_succ]
    refine wpAnyH_ready (rs := [12]) (by kernel_rfl) (by simp) (AllReadyH.cons (i := 12) (o := { dst := some 32, op := Op.call { callee := Callee.value (Operand.func 41), args := #[Operand.tmp 26, Operand.tmp 30, Operand.tmp 31], argTypes := #[22, 22, 22] }, type := 4, pos := "text.go:28", after := #[{ on := 6, ground := Ground.data }, { on := 10, ground := Ground.data }, { on := 11, ground := Ground.data }, { on := 2, ground := Ground.chain }, { on := 2, ground := Ground.guard }], guard := some (2, true) }) rfl ?_ AllReadyH.nil)
    · intro K1 hK1
      rw [if_pos (by rfl)]
      have HC2 := H41.out V1 q1 cq hS1.out HIN1.out
      go_wp2_with fail
      refine HC2.mono ?_
      rintro e V2 ⟨rfl, hb2⟩
      dsimp only
      clear HC2
      have hS2 : Hid (Below A.heap.size A V2) := hS1.out.trans (hb2.mono hS1.out.size)
      clear hb2
      refine hK1.out _ _ hS2.out ?_
      clear hK1
      intro _
      try simp only [Act.put, List.setIfInBounds_toArray, List.set_cons_zero, List.set_cons_succ]
      refine wpAnyH_take (i := 13) (oi := { dst := some 33, op := Op.pick (Operand.tmp 22) (Operand.tmp 32) (Operand.const (Value.bool false)), type := 4, pos := "text.go:28", after := #[{ on := 2, ground := Ground.data }, { on := 12, ground := Ground.data }], guard := none }) (v := .bool R) rfl (by kernel_rfl) (by kernel_rfl) (by kernel_rfl) (fun _ _ _ h => h.elim) (Or.inl ⟨by rfl, ?y12⟩) hS2.out ?_
      case y12 =>
        intro V hV
        go_simp
      simp only [Act.put, List.setIfInBounds_toArray, List.set_cons_zero, List.set_cons_succ]
      refine wpAnyH_take (i := 14) (oi := { dst := some 4, op := Op.assign (Operand.tmp 33), type := 4, pos := "text.go:28", after := #[{ on := 13, ground := Ground.data }, { on := 12, ground := Ground.chain }, { on := 0, ground := Ground.phase }, { on := 1, ground := Ground.phase }, { on := 2, ground := Ground.phase }, { on := 3, ground := Ground.phase }, { on := 4, ground := Ground.phase }, { on := 5, ground := Ground.phase }, { on := 6, ground := Ground.phase }, { on := 7, ground := Ground.phase }, { on := 8, ground := Ground.phase }, { on := 9, ground := Ground.phase }, { on := 10, ground := Ground.phase }, { on := 11, ground := Ground.phase }, { on := 12, ground := Ground.phase }, { on := 13, ground := Ground.phase }], guard := none }) (v := .bool R) rfl (by kernel_rfl) (by kernel_rfl) (by kernel_rfl) (fun _ _ _ h => h.elim) (Or.inl ⟨by rfl, ?y13⟩) hS2.out ?_
      case y13 =>
        intro V hV
        go_simp
      simp only [Act.put, List.setIfInBounds_toArray, List.set_cons_zero, List.set_cons_succ]
      refine wpAnyH_done (by kernel_rfl) ?_ _
      exact hQ V2 q1 cq hS2.out
set_option maxRecDepth 100000 in
set_option maxHeartbeats 4000000 in
theorem wr5n {Q : Exit → Act → World → Prop} {x2 x3 x4 x8 x9 x10 x11 x12 x13 x14 x15 x16 x17 x18 x19 x20 x21 x22 x23 x24 x25 x26 x27 x28 x29 x30 x31 x32 x33 : Value} {ds : List Deferred} {A : World} {b i : Nat} {X : BA} {tv : Value}
    
    (hQ : ∀ V1, Below A.heap.size A V1 → Q .normal { tmps := #[.pointer (some ⟨b, 0, none⟩), .string X, x2, x3, .bool false, iv (i : Int), tv, iv 20, x8, x9, x10, x11, x12, x13, x14, x15, x16, x17, x18, x19, iv 20, .bool false, .bool false, undef, undef, undef, undef, undef, undef, undef, undef, undef, undef, .bool false], defers := ds } V1) :
    (Code.region 5 #[{ dst := some 20, op := Op.move (Operand.tmp 7), type := 33, pos := "text.go:28", after := #[], guard := none }, { dst := some 21, op := Op.binOp BinOp.eql 33 (Operand.tmp 20) (Operand.const (Value.int IntKind.i64 0)) 33, type := 4, pos := "text.go:28", after := #[{ on := 0, ground := Ground.data }], guard := none }, { dst := some 22, op := Op.move (Operand.tmp 21), type := 4, pos := "text.go:28", after := #[{ on := 1, ground := Ground.data }], guard := none }, { dst := some 23, op := Op.move (Operand.tmp 0), type := 26, pos := "text.go:28", after := #[{ on := 2, ground := Ground.guard }], guard := some (2, true) }, { dst := some 24, op := Op.nilCheck (Operand.tmp 23), type := 0, pos := "text.go:28", after := #[{ on := 3, ground := Ground.data }, { on := 2, ground := Ground.guard }], guard := some (2, true) }, { dst := some 25, op := Op.fieldAddr 57 (Operand.tmp 24) 0, type := 0, pos := "text.go:28", after := #[{ on := 4, ground := Ground.data }, { on := 2, ground := Ground.guard }], guard := some (2, true) }, { dst := some 26, op := Op.load 22 (Operand.tmp 25), type := 22, pos := "text.go:28", after := #[{ on := 5, ground := Ground.data }, { on := 2, ground := Ground.guard }], guard := some (2, true) }, { dst := some 27, op := Op.move (Operand.tmp 1), type := 9, pos := "text.go:28", after := #[{ on := 2, ground := Ground.guard }], guard := some (2, true) }, { dst := some 28, op := Op.move (Operand.tmp 5), type := 3, pos := "text.go:28", after := #[{ on := 2, ground := Ground.guard }], guard := some (2, true) }, { dst := some 29, op := Op.slice 9 (Operand.tmp 27) none (some (Operand.tmp 28)) none, type := 9, pos := "text.go:28", after := #[{ on := 7, ground := Ground.data }, { on := 8, ground := Ground.data }, { on := 2, ground := Ground.guard }], guard := some (2, true) }, { dst := some 30, op := Op.convert 9 22 (Operand.tmp 29), type := 22, pos := "text.go:28", after := #[{ on := 9, ground := Ground.data }, { on := 2, ground := Ground.guard }], guard := some (2, true) }, { dst := some 31, op := Op.move (Operand.tmp 6), type := 22, pos := "text.go:28", after := #[{ on := 2, ground := Ground.guard }], guard := some (2, true) }, { dst := some 32, op := Op.call { callee := Callee.value (Operand.func 41), args := #[Operand.tmp 26, Operand.tmp 30, Operand.tmp 31], argTypes := #[22, 22, 22] }, type := 4, pos := "text.go:28", after := #[{ on := 6, ground := Ground.data }, { on := 10, ground := Ground.data }, { on := 11, ground := Ground.data }, { on := 2, ground := Ground.chain }, { on := 2, ground := Ground.guard }], guard := some (2, true) }, { dst := some 33, op := Op.pick (Operand.tmp 22) (Operand.tmp 32) (Operand.const (Value.bool false)), type := 4, pos := "text.go:28", after := #[{ on := 2, ground := Ground.data }, { on := 12, ground := Ground.data }], guard := none }, { dst := some 4, op := Op.assign (Operand.tmp 33), type := 4, pos := "text.go:28", after := #[{ on := 13, ground := Ground.data }, { on := 12, ground := Ground.chain }, { on := 0, ground := Ground.phase }, { on := 1, ground := Ground.phase }, { on := 2, ground := Ground.phase }, { on := 3, ground := Ground.phase }, { on := 4, ground := Ground.phase }, { on := 5, ground := Ground.phase }, { on := 6, ground := Ground.phase }, { on := 7, ground := Ground.phase }, { on := 8, ground := Ground.phase }, { on := 9, ground := Ground.phase }, { on := 10, ground := Ground.phase }, { on := 11, ground := Ground.phase }, { on := 12, ground := Ground.phase }, { on := 13, ground := Ground.phase }], guard := none }] true).wp Tryd.prog Q { tmps := #[.pointer (some ⟨b, 0, none⟩), .string X, x2, x3, x4, iv (i : Int), tv, iv 20, x8, x9, x10, x11, x12, x13, x14, x15, x16, x17, x18, x19, x20, x21, x22, x23, x24, x25, x26, x27, x28, x29, x30, x31, x32, x33], defers := ds } A := by
  refine Code.wp_mono (Q := fun x a' w' => match x with | .normal => Q .normal a' w' | _ => False) (by intro x a' w' h; cases x <;> first | exact h | exact h.elim) ?_
  refine wp_region_held (S := fun V => Below A.heap.size A V) (by kernel_rfl) ?_
  have hS0 : Hid (Below A.heap.size A A.drew) := below_drew0 A
  change wpAnyH Tryd.prog .any _ _ (fun V => Below A.heap.size A V) 15 (Array.replicate 15 false) _ A.drew
  obtain ⟨V0, hV0⟩ : ∃ V0, A.drew = V0 := ⟨_, rfl⟩
  rw [hV0]
  rw [hV0] at hS0
  clear hV0
  refine wpAnyH_take (i := 0) (oi := { dst := some 20, op := Op.move (Operand.tmp 7), type := 33, pos := "text.go:28", after := #[], guard := none }) (v := iv 20) rfl (by kernel_rfl) (by kernel_rfl) (by kernel_rfl) (fun _ _ _ h => h.elim) (Or.inl ⟨by rfl, ?y1⟩) hS0.out ?_
  case y1 =>
    intro V hV
    go_simp
  simp only [Act.put, List.setIfInBounds_toArray, List.set_cons_zero, List.set_cons_succ]
  refine wpAnyH_take (i := 1) (oi := { dst := some 21, op := Op.binOp BinOp.eql 33 (Operand.tmp 20) (Operand.const (Value.int IntKind.i64 0)) 33, type := 4, pos := "text.go:28", after := #[{ on := 0, ground := Ground.data }], guard := none }) (v := .bool false) rfl (by kernel_rfl) (by kernel_rfl) (by kernel_rfl) (fun _ _ _ h => h.elim) (Or.inl ⟨by rfl, ?y2⟩) hS0.out ?_
  case y2 =>
    intro V hV
    go_simp
  simp only [Act.put, List.setIfInBounds_toArray, List.set_cons_zero, List.set_cons_succ]
  refine wpAnyH_take (i := 2) (oi := { dst := some 22, op := Op.move (Operand.tmp 21), type := 4, pos := "text.go:28", after := #[{ on := 1, ground := Ground.data }], guard := none }) (v := .bool false) rfl (by kernel_rfl) (by kernel_rfl) (by kernel_rfl) (fun _ _ _ h => h.elim) (Or.inl ⟨by rfl, ?y3⟩) hS0.out ?_
  case y3 =>
    intro V hV
    go_simp
  simp only [Act.put, List.setIfInBounds_toArray, List.set_cons_zero, List.set_cons_succ]
  refine wpAnyH_take (i := 3) (oi := { dst := some 23, op := Op.move (Operand.tmp 0), type := 26, pos := "text.go:28", after := #[{ on := 2, ground := Ground.guard }], guard := some (2, true) }) (v := undef) rfl (by kernel_rfl) (by kernel_rfl) (by kernel_rfl) (fun _ _ _ h => h.elim) (Or.inr ⟨by rfl, rfl⟩) hS0.out ?_
  simp only [Act.put, List.setIfInBounds_toArray, List.set_cons_zero, List.set_cons_succ]
  refine wpAnyH_take (i := 4) (oi := { dst := some 24, op := Op.nilCheck (Operand.tmp 23), type := 0, pos := "text.go:28", after := #[{ on := 3, ground := Ground.data }, { on := 2, ground := Ground.guard }], guard := some (2, true) }) (v := undef) rfl (by kernel_rfl) (by kernel_rfl) (by kernel_rfl) (fun _ _ _ h => h.elim) (Or.inr ⟨by rfl, rfl⟩) hS0.out ?_
  simp only [Act.put, List.setIfInBounds_toArray, List.set_cons_zero, List.set_cons_succ]
  refine wpAnyH_take (i := 5) (oi := { dst := some 25, op := Op.fieldAddr 57 (Operand.tmp 24) 0, type := 0, pos := "text.go:28", after := #[{ on := 4, ground := Ground.data }, { on := 2, ground := Ground.guard }], guard := some (2, true) }) (v := undef) rfl (by kernel_rfl) (by kernel_rfl) (by kernel_rfl) (fun _ _ _ h => h.elim) (Or.inr ⟨by rfl, rfl⟩) hS0.out ?_
  simp only [Act.put, List.setIfInBounds_toArray, List.set_cons_zero, List.set_cons_succ]
  refine wpAnyH_take (i := 6) (oi := { dst := some 26, op := Op.load 22 (Operand.tmp 25), type := 22, pos := "text.go:28", after := #[{ on := 5, ground := Ground.data }, { on := 2, ground := Ground.guard }], guard := some (2, true) }) (v := undef) rfl (by kernel_rfl) (by kernel_rfl) (by kernel_rfl) (fun _ _ _ h => h.elim) (Or.inr ⟨by rfl, rfl⟩) hS0.out ?_
  simp only [Act.put, List.setIfInBounds_toArray, List.set_cons_zero, List.set_cons_succ]
  refine wpAnyH_take (i := 7) (oi := { dst := some 27, op := Op.move (Operand.tmp 1), type := 9, pos := "text.go:28", after := #[{ on := 2, ground := Ground.guard }], guard := some (2, true) }) (v := undef) rfl (by kernel_rfl) (by kernel_rfl) (by kernel_rfl) (fun _ _ _ h => h.elim) (Or.inr ⟨by rfl, rfl⟩) hS0.out ?_
  simp only [Act.put, List.setIfInBounds_toArray, List.set_cons_zero, List.set_cons_succ]
  refine wpAnyH_take (i := 8) (oi := { dst := some 28, op := Op.move (Operand.tmp 5), type := 3, pos := "text.go:28", after := #[{ on := 2, ground := Ground.guard }], guard := some (2, true) }) (v := undef) rfl (by kernel_rfl) (by kernel_rfl) (by kernel_rfl) (fun _ _ _ h => h.elim) (Or.inr ⟨by rfl, rfl⟩) hS0.out ?_
  simp only [Act.put, List.setIfInBounds_toArray, List.set_cons_zero, List.set_cons_succ]
  refine wpAnyH_take (i := 9) (oi := { dst := some 29, op := Op.slice 9 (Operand.tmp 27) none (some (Operand.tmp 28)) none, type := 9, pos := "text.go:28", after := #[{ on := 7, ground := Ground.data }, { on := 8, ground := Ground.data }, { on := 2, ground := Ground.guard }], guard := some (2, true) }) (v := undef) rfl (by kernel_rfl) (by kernel_rfl) (by kernel_rfl) (fun _ _ _ h => h.elim) (Or.inr ⟨by rfl, rfl⟩) hS0.out ?_
  simp only [Act.put, List.setIfInBounds_toArray, List.set_cons_zero, List.set_cons_succ]
  refine wpAnyH_take (i := 10) (oi := { dst := some 30, op := Op.convert 9 22 (Operand.tmp 29), type := 22, pos := "text.go:28", after := #[{ on := 9, ground := Ground.data }, { on := 2, ground := Ground.guard }], guard := some (2, true) }) (v := undef) rfl (by kernel_rfl) (by kernel_rfl) (by kernel_rfl) (fun _ _ _ h => h.elim) (Or.inr ⟨by rfl, rfl⟩) hS0.out ?_
  simp only [Act.put, List.setIfInBounds_toArray, List.set_cons_zero, List.set_cons_succ]
  refine wpAnyH_take (i := 11) (oi := { dst := some 31, op := Op.move (Operand.tmp 6), type := 22, pos := "text.go:28", after := #[{ on := 2, ground := Ground.guard }], guard := some (2, true) }) (v := undef) rfl (by kernel_rfl) (by kernel_rfl) (by kernel_rfl) (fun _ _ _ h => h.elim) (Or.inr ⟨by rfl, rfl⟩) hS0.out ?_
  simp only [Act.put, List.setIfInBounds_toArray, List.set_cons_zero, List.set_cons_succ]
  refine wpAnyH_take (i := 12) (oi := { dst := some 32, op := Op.call { callee := Callee.value (Operand.func 41), args := #[Operand.tmp 26, Operand.tmp 30, Operand.tmp 31], argTypes := #[22, 22, 22] }, type := 4, pos := "text.go:28", after := #[{ on := 6, ground := Ground.data }, { on := 10, ground := Ground.data }, { on := 11, ground := Ground.data }, { on := 2, ground := Ground.chain }, { on := 2, ground := Ground.guard }], guard := some (2, true) }) (v := undef) rfl (by kernel_rfl) (by kernel_rfl) (by kernel_rfl) (fun _ _ _ h => h.elim) (Or.inr ⟨by rfl, rfl⟩) hS0.out ?_
  simp only [Act.put, List.setIfInBounds_toArray, List.set_cons_zero, List.set_cons_succ]
  refine wpAnyH_take (i := 13) (oi := { dst := some 33, op := Op.pick (Operand.tmp 22) (Operand.tmp 32) (Operand.const (Value.bool false)), type := 4, pos := "text.go:28", after := #[{ on := 2, ground := Ground.data }, { on := 12, ground := Ground.data }], guard := none }) (v := .bool false) rfl (by kernel_rfl) (by kernel_rfl) (by kernel_rfl) (fun _ _ _ h => h.elim) (Or.inl ⟨by rfl, ?y4⟩) hS0.out ?_
  case y4 =>
    intro V hV
    go_simp
  simp only [Act.put, List.setIfInBounds_toArray, List.set_cons_zero, List.set_cons_succ]
  refine wpAnyH_take (i := 14) (oi := { dst := some 4, op := Op.assign (Operand.tmp 33), type := 4, pos := "text.go:28", after := #[{ on := 13, ground := Ground.data }, { on := 12, ground := Ground.chain }, { on := 0, ground := Ground.phase }, { on := 1, ground := Ground.phase }, { on := 2, ground := Ground.phase }, { on := 3, ground := Ground.phase }, { on := 4, ground := Ground.phase }, { on := 5, ground := Ground.phase }, { on := 6, ground := Ground.phase }, { on := 7, ground := Ground.phase }, { on := 8, ground := Ground.phase }, { on := 9, ground := Ground.phase }, { on := 10, ground := Ground.phase }, { on := 11, ground := Ground.phase }, { on := 12, ground := Ground.phase }, { on := 13, ground := Ground.phase }], guard := none }) (v := .bool false) rfl (by kernel_rfl) (by kernel_rfl) (by kernel_rfl) (fun _ _ _ h => h.elim) (Or.inl ⟨by rfl, ?y5⟩) hS0.out ?_
  case y5 =>
    intro V hV
    go_simp
  simp only [Act.put, List.setIfInBounds_toArray, List.set_cons_zero, List.set_cons_succ]
  refine wpAnyH_done (by kernel_rfl) ?_ _
  exact hQ V0 hS0.out
theorem ext_data (s : BA) (i j : Nat) : (s.extract i j).data.toList = (s.data.toList.take j).drop i := by
  simp only [ByteArray.data_extract, Array.toList_extract, List.extract_eq_take_drop]
  rw [List.drop_take]
set_option maxRecDepth 100000 in
set_option maxHeartbeats 1000000 in
theorem wrote_is {w : World} {b : Nat} {a : Option Addr} {n cp : Nat} {mv : Value} {S : List UInt8} (hB : Blk w b 57 [.slice a n cp, mv]) (hS : In w a n cp S) (hn : n ≤ 20000) (hV : VT w) (X : BA) (hX : X.size ≤ 20000) :
    Calls Tryd.prog 29 #[.pointer (some ⟨b, 0, none⟩), .string X] w fun e w' => ∃ R : Bool, e = .returned (.bool R) ∧ Hid ((∃ bd, X.data.toList = sealT S bd) → R = true) ∧ Below w.heap.size w w' := by
  have HB : Hid (Blk w b 57 [.slice a n cp, mv] ∧ In w a n cp S ∧ n ≤ 20000 ∧ VT w ∧ X.size ≤ 20000) := ⟨hB, hS, hn, hV, hX⟩
  have C39 : Hid (∀ V, Calls Tryd.prog 39 #[.string X, .string ⟨#[46]⟩] V fun e V2 => e = .returned (iv (Lib.lastIndexByte X 46)) ∧ V2 = V) := fun V => lst_is X ⟨#[46]⟩ rfl (by omega) V
  have qX : (X.size : Int) ≤ 20000 := by omega
  clear hB hS hn hV hX
  rcases Lib.lastIndexByte_spec X 46 with ⟨he, hno⟩ | ⟨i, hi, he, h1, h2⟩
  · rw [he] at C39
    have HW : Hid (¬ ∃ bd, X.data.toList = sealT S bd) := fun ⟨bd, hbd⟩ => by have := seal_at hbd; omega
    clear he hno
    go_enter Tryd.func29, Tryd.ntmps29
    go_wp2_with fail
    refine (C39.out w).mono ?_
    rintro e W ⟨rfl, rfl⟩
    go_wp2
    go_ret
    exact ⟨false, rfl, fun h => absurd h HW.out, Below.refl _ _⟩
  · rw [he] at C39
    obtain ⟨Y, hY⟩ : ∃ Y : BA, X.extract 0 i = Y := ⟨_, rfl⟩
    obtain ⟨Z, hZ⟩ : ∃ Z : BA, X.extract (i + 1) X.size = Z := ⟨_, rfl⟩
    have hYL : Y.data.toList = X.data.toList.take i := by rw [← hY, ext_data, List.drop_zero]
    have hZL : Z.data.toList = X.data.toList.drop (i + 1) := by
      rw [← hZ, ext_data, List.take_of_length_le (show X.data.toList.length ≤ X.size from Nat.le_refl _)]
    have zY : Y.size ≤ 20000 := by rw [← hY, ByteArray.size_extract]; have := HB.out.2.2.2.2; omega
    have zZ : Z.size ≤ 20000 := by rw [← hZ, ByteArray.size_extract]; have := HB.out.2.2.2.2; omega
    have hsl : ∀ W, (Instr.slice 9 (.string X) none (some (iv (i : Int))) none).run Tryd.prog W = .ok (.string Y) W := fun W => by
      rw [← hY]
      go_simp
      omega
    have hsz : ∀ W, (Instr.slice 9 (.string X) (some (iv ((i : Int) + 1))) none none).run Tryd.prog W = .ok (.string Z) W := fun W => by
      rw [← hZ]
      go_simp
      omega
    have hseal : ∀ bd, X.data.toList = sealT S bd → Y.data.toList = bd ∧ unhexL Z.data.toList = some (tagOf S bd) := by
      intro bd hbd
      have hi2 : i = bd.length := by have := seal_at hbd; omega
      rw [hYL, hZL, hbd, hi2]
      unfold sealT
      rw [List.take_left, ← List.drop_drop, List.drop_left]
      exact ⟨rfl, unhex_hex _⟩
    have q1 : (i : Int) < (X.size : Int) := by omega
    have HSL : Hid (X.extract 0 i = Y ∧ i ≤ X.size) := ⟨hY, by omega⟩
    have HZ : Hid (Z.size ≤ 20000 ∧ Y.size ≤ 20000) := ⟨zZ, zY⟩
    have HSE : Hid (∀ bd, X.data.toList = sealT S bd → Y.data.toList = bd ∧ unhexL Z.data.toList = some (tagOf S bd)) := hseal
    clear he h1 h2 hi hY hZ hYL hZL zY zZ hsl hseal
    go_enter Tryd.func29, Tryd.ntmps29
    go_wp2_with fail
    refine (C39.out w).mono ?_
    rintro e W ⟨rfl, rfl⟩
    go_wp2_with fail
    refine (unhex_is Z _ rfl W (by have := HZ.out.1; omega)).mono ?_
    rintro e W2 ⟨⟨v, rfl, ho⟩, hb2⟩
    have H2 : Hid (Below W.heap.size W W2) := hb2
    have HO : Hid (Own 5 W.heap.size W2 v ((unhexL Z.data.toList).getD [])) := ho
    clear hb2 ho hsz
    cases hu : unhexL Z.data.toList with
    | none =>
      have HW : Hid (¬ ∃ bd, X.data.toList = sealT S bd) := fun ⟨bd, hbd⟩ => by have := (HSE.out bd hbd).2; rw [hu] at this; cases this
      rw [show (if (none : Option (List UInt8)).isSome then (0 : Int) else 20) = 20 from rfl]
      clear hu
      go_wp2_with fail
      refine wr5n ?_
      intro V1 hV1
      have H3 : Hid (Below W.heap.size W V1) := below_tr H2.out hV1
      clear hV1
      go_wp2
      go_ret
      exact ⟨false, rfl, fun h => absurd h HW.out, H3.out⟩
    | some od =>
      rw [show (if (some od : Option (List UInt8)).isSome then (0 : Int) else 20) = 0 from rfl]
      have HO2 : Hid (Own 5 W.heap.size W2 v od) := by have := HO.out; rw [hu] at this; exact this
      have hol : od.length ≤ 20000 := by
        have h1 := hex_unhex _ _ hu
        have h2 := hexOf_length od
        rw [h1] at h2
        have h3 : Z.data.toList.length = Z.size := rfl
        have := HZ.out.1
        omega
      obtain ⟨ta, tc, rfl, htin, -⟩ := own_in HO2.out (by omega)
      obtain ⟨R, hR⟩ : ∃ R : Bool, decide (tagOf S Y.data.toList = od) = R := ⟨_, rfl⟩
      have HW : Hid ((∃ bd, X.data.toList = sealT S bd) → R = true) := by
        rintro ⟨bd, hbd⟩
        obtain ⟨e1, e2⟩ := HSE.out bd hbd
        rw [hu] at e2
        rw [← hR, e1, Option.some.inj e2]
        simp
      have c0 : W2.cell? ⟨b, 0, none⟩ = some (.slice a n cp) := (HB.out.1.below H2.out HB.out.1.lt).cell rfl
      have HTI : Hid (In W2 ta od.length tc od) := htin
      have HRR : Hid (decide (tagOf S Y.data.toList = od) = R) := hR
      clear hu htin hR hol HO HO2
      go_wp2_with fail
      refine wr5 (R := R) (Nat.lt_of_lt_of_le HB.out.1.lt H2.out.size) c0 HZ.out.2 HSL.out ?_ ?_
      · intro V q cq hV hin
        have hbV := below_tr H2.out hV
        exact (check_is S Y.data.toList od _ R rfl HRR.out a (some ⟨q, 0, none⟩) ta n Y.size od.length cp cq tc V (HB.out.2.2.2.1.1.below hbV) (HB.out.2.2.2.1.2.1.below hbV) (HB.out.2.1.below hbV) hin (HTI.out.below hV) HB.out.2.2.1 HZ.out.2).mono (fun e V2 h => ⟨h.1, h.2.out⟩)
      · intro V1 q1 cq hV1
        have H3 : Hid (Below W.heap.size W V1) := below_tr H2.out hV1
        clear hV1 c0
        go_wp2
        go_ret
        exact ⟨R, rfl, HW.out, H3.out⟩
end Go.Proofs.YtjeahlfmapacfaaDoor.Oct

/- Layer 16 (token): strings.Contains, laid. -/
namespace Go.Proofs.YtjeahlfmapacfaaDoor.Oct
open Go.RowKit
set_option maxRecDepth 100000

def lCon_ren : Go.Shelf.Ren := ⟨fun | 144 => 22 | 143 => 32 | 219 => 42 | 217 => 55 | 225 => 56 | 224 => 57 | 267 => 58 | 266 => 68 | 314 => 69 | n => n, fun | 9 => 9 | 4 => 4 | 3 => 3 | 5 => 5 | 46 => 52 | 146 => 112 | 51 => 93 | n => n, fun | 1 => 0 | n => n⟩
theorem lCon : Go.Proofs.Lays.n144 Tryd.prog lCon_ren := {
  mixed := by kernel_rfl
  f143 := Tryd.func32.trans (congrArg some (by kernel_rfl))
  f144 := Tryd.func22.trans (congrArg some (by kernel_rfl))
  f217 := Tryd.func55.trans (congrArg some (by kernel_rfl))
  f219 := Tryd.func42.trans (congrArg some (by kernel_rfl))
  f224 := Tryd.func57.trans (congrArg some (by kernel_rfl))
  f225 := Tryd.func56.trans (congrArg some (by kernel_rfl))
  f266 := Tryd.func68.trans (congrArg some (by kernel_rfl))
  f267 := Tryd.func58.trans (congrArg some (by kernel_rfl))
  f314 := Tryd.func69.trans (congrArg some (by kernel_rfl))
  t3 := Tryd.underlying3
  a3 := Tryd.isAgg3
  z3 := Tryd.sizeOf3
  v3 := Tryd.zeroValue3
  t4 := Tryd.underlying4
  a4 := Tryd.isAgg4
  z4 := Tryd.sizeOf4
  v4 := Tryd.zeroValue4
  t5 := Tryd.underlying5
  a5 := Tryd.isAgg5
  z5 := Tryd.sizeOf5
  v5 := Tryd.zeroValue5
  t9 := Tryd.underlying9
  a9 := Tryd.isAgg9
  z9 := Tryd.sizeOf9
  v9 := Tryd.zeroValue9
  t46 := Tryd.underlying52
  a46 := Tryd.isAgg52
  z46 := Tryd.sizeOf52
  v46 := Tryd.zeroValue52
  t51 := Tryd.underlying93
  a51 := Tryd.isAgg93
  z51 := Tryd.sizeOf93
  v51 := Tryd.zeroValue93
  t146 := Tryd.underlying112
  a146 := Tryd.isAgg112
  z146 := Tryd.sizeOf112
  v146 := Tryd.zeroValue112
  g1 := by kernel_rfl }
theorem con_is (s : ByteArray) (c : UInt8) (w : World) :
    Calls Tryd.prog 22 #[.string s, .string ⟨#[c]⟩] w fun e w' => e = .returned (.bool (decide (0 ≤ Lib.indexByte s.data.toList c))) ∧ w' = w := Any.strings_Contains_one lCon s c w
end Go.Proofs.YtjeahlfmapacfaaDoor.Oct

/- Layer 16 (token): a book in memory; what a text stands for. -/
namespace Go.Proofs.YtjeahlfmapacfaaDoor.Oct
open Go.RowKit Sha
set_option linter.unusedSimpArgs false
set_option linter.unusedVariables false

theorem Blk.range0 {w : World} {b : Nat} {t : TypeId} {L : List Value} (h : Blk w b t L) : w.rangeAt b 0 L := fun j v hj => by rw [Nat.zero_add]; exact h.cell hj
structure Gr where
  u : BA
  t : Nat
  bk : Bool
def Gr.cells (g : Gr) : List Value := [.string g.u, iv (g.t : Int), .bool g.bk]
theorem Gr.one (g : Gr) : ∀ v ∈ g.cells, v.oneCell' = true := by
  intro v hv
  simp only [Gr.cells, List.mem_cons, List.not_mem_nil, or_false] at hv
  rcases hv with rfl | rfl | rfl <;> rfl
def Gr.ok (g : Gr) : Prop := g.u.size ≤ 15000 ∧ g.t ≤ 1099511627776
def g0 : Gr := ⟨e0, 0, false⟩
theorem size64 (g : Gr) : (Tryd.prog.info? 64).map (·.size) = some g.cells.length := by kernel_rfl
theorem zero64 (W : World) : (zeroValue 64).run Tryd.prog W = .ok (.agg #[.string e0, iv 0, .bool false]) W := by kernel_rfl
def keyG (S : List UInt8) (k : Nat) (g : Gr) : List UInt8 := txtT S (k + 1) g.u.data.toList g.t
/-- what a book's map holds -/
def kvs (S : List UInt8) : Nat → List Gr → Kv
  | _, [] => []
  | k, g :: r => (keyG S k g, .agg g.cells.toArray) :: kvs S (k + 1) r
/-- what a text stands for -/
def atF (S : List UInt8) : Nat → List Gr → List UInt8 → Option Gr
  | _, [], _ => none
  | k, g :: r, h => if keyG S k g = h then some g else atF S (k + 1) r h
/-- taken back -/
def revF (S : List UInt8) : Nat → List Gr → List UInt8 → List Gr
  | _, [], _ => []
  | k, g :: r, h => if keyG S k g = h then { g with bk := true } :: r else g :: revF S (k + 1) r h
theorem kvs_get (S h : List UInt8) : ∀ (k : Nat) (G : List Gr), kget (kvs S k G) h = (atF S k G h).map fun g => .agg g.cells.toArray
  | k, [] => rfl
  | k, g :: r => by
    have ih := kvs_get S h (k + 1) r
    unfold kvs atF kget
    by_cases e : keyG S k g = h
    · rw [List.find?_cons_of_pos (by simpa using e), if_pos e]; rfl
    · rw [List.find?_cons_of_neg (by simpa using e), if_neg e]
      exact ih
theorem kvs_len (S : List UInt8) : ∀ (k : Nat) (G : List Gr), (kvs S k G).length = G.length
  | _, [] => rfl
  | k, g :: r => by unfold kvs; rw [List.length_cons, kvs_len S (k + 1) r, List.length_cons]
theorem kvs_app (S : List UInt8) : ∀ (k : Nat) (G H : List Gr), kvs S k (G ++ H) = kvs S k G ++ kvs S (k + G.length) H
  | _, [], H => rfl
  | k, g :: r, H => by
    show (keyG S k g, _) :: kvs S (k + 1) (r ++ H) = (keyG S k g, _) :: (kvs S (k + 1) r ++ _)
    rw [kvs_app S (k + 1) r H, List.length_cons, show k + 1 + r.length = k + (r.length + 1) by omega]
/-- numbers have no points, and unlike ones are unlike -/
theorem dec_no : ∀ (m u : Nat), u ≤ m → (46 : UInt8) ∉ Lib.decDigits u
  | m, u, h => by
    by_cases h1 : u < 10
    · rw [dec_small h1]
      intro h2
      have h3 := List.mem_singleton.1 h2
      have h4 : (46 : UInt8).toNat = (UInt8.ofNat (48 + u)).toNat := by rw [← h3]
      rw [UInt8.toNat_ofNat', Nat.mod_eq_of_lt (by omega)] at h4
      have h5 : (46 : UInt8).toNat = 46 := rfl
      omega
    · match m, h with
      | 0, h => omega
      | m + 1, h =>
        rw [dec_big h1]
        intro h2
        rcases List.mem_append.1 h2 with h2 | h2
        · exact dec_no m (u / 10) (by omega) h2
        · exact dec_no m (u % 10) (by omega) h2
def decV (l : List UInt8) : Nat := l.foldl (fun a c => 10 * a + (c.toNat - 48)) 0
theorem dec_v : ∀ (m u : Nat), u ≤ m → decV (Lib.decDigits u) = u
  | m, u, h => by
    by_cases h1 : u < 10
    · rw [dec_small h1]
      show 10 * 0 + ((UInt8.ofNat (48 + u)).toNat - 48) = u
      rw [UInt8.toNat_ofNat', Nat.mod_eq_of_lt (by omega)]
      omega
    · match m, h with
      | 0, h => omega
      | m + 1, h =>
        have ih := dec_v m (u / 10) (by omega)
        rw [dec_big h1, dec_small (u := u % 10) (by omega)]
        unfold decV at ih ⊢
        rw [List.foldl_append, ih]
        show 10 * (u / 10) + ((UInt8.ofNat (48 + u % 10)).toNat - 48) = u
        rw [UInt8.toNat_ofNat', Nat.mod_eq_of_lt (by omega)]
        omega
theorem dec_inj {k j : Nat} (h : Lib.decDigits k = Lib.decDigits j) : k = j := by
  have h1 := dec_v k k (Nat.le_refl _)
  rw [h, dec_v j j (Nat.le_refl _)] at h1
  exact h1.symm
theorem split_pt {a b c d : List UInt8} (ha : (46 : UInt8) ∉ a) (hc : (46 : UInt8) ∉ c) (h : a ++ 46 :: b = c ++ 46 :: d) : a = c := by
  induction a generalizing c with
  | nil =>
    cases c with
    | nil => rfl
    | cons y c => simp at h; simp only [List.mem_cons, not_or] at hc; exact absurd h.1 hc.1
  | cons x a ih =>
    cases c with
    | nil => simp at h; simp only [List.mem_cons, not_or] at ha; exact absurd h.1.symm ha.1
    | cons y c =>
      simp only [List.cons_append, List.cons.injEq] at h
      simp only [List.mem_cons, not_or] at ha hc
      rw [h.1, ih ha.2 hc.2 h.2]
theorem key_inj {S : List UInt8} {k j : Nat} {g g' : Gr} (hk : k < 399) (hj : j < 399) (h : keyG S k g = keyG S j g') : k = j := by
  unfold keyG txtT sealT bodyT at h
  rw [List.append_assoc, List.append_assoc, List.cons_append, List.cons_append] at h
  have := dec_inj (k := k + 1) (j := j + 1) (split_pt (dec_no _ _ (Nat.le_refl _)) (dec_no _ _ (Nat.le_refl _)) h)
  omega
theorem at_none {S : List UInt8} {j : Nat} {g : Gr} (hj : j < 399) : ∀ (k : Nat) (G : List Gr), k + G.length ≤ j → atF S k G (keyG S j g) = none
  | _, [], _ => rfl
  | k, x :: r, h => by
    unfold atF
    rw [List.length_cons] at h
    rw [if_neg (fun e => by have := key_inj (by omega) hj e; omega)]
    exact at_none hj (k + 1) r (by omega)
theorem at_app {S : List UInt8} {h : List UInt8} : ∀ (k : Nat) (G H : List Gr), atF S k (G ++ H) h = (atF S k G h).or (atF S (k + G.length) H h)
  | _, [], H => by simp [atF]
  | k, g :: r, H => by
    show (if keyG S k g = h then some g else atF S (k + 1) (r ++ H) h) = (if keyG S k g = h then some g else atF S (k + 1) r h).or (atF S (k + (r.length + 1)) H h)
    by_cases e : keyG S k g = h
    · rw [if_pos e, if_pos e]; rfl
    · rw [if_neg e, if_neg e, at_app (k + 1) r H, show k + 1 + r.length = k + (r.length + 1) by omega]
theorem at_mem {S : List UInt8} {h : List UInt8} {g : Gr} : ∀ (k : Nat) (G : List Gr), atF S k G h = some g → g ∈ G ∧ ∃ bd, h = sealT S bd
  | _, [], e => by simp [atF] at e
  | k, x :: r, e => by
    unfold atF at e
    by_cases hx : keyG S k x = h
    · rw [if_pos hx] at e
      cases e
      exact ⟨by simp, _, hx.symm⟩
    · rw [if_neg hx] at e
      obtain ⟨h1, h2⟩ := at_mem (k + 1) r e
      exact ⟨by simp [h1], h2⟩
theorem rev_len {S : List UInt8} {h : List UInt8} : ∀ (k : Nat) (G : List Gr), (revF S k G h).length = G.length
  | _, [] => rfl
  | k, g :: r => by
    unfold revF
    split
    · simp
    · rw [List.length_cons, rev_len (k + 1) r, List.length_cons]
theorem rev_ok {S : List UInt8} {h : List UInt8} : ∀ (k : Nat) (G : List Gr), (∀ g ∈ G, g.ok) → ∀ g ∈ revF S k G h, g.ok
  | _, [], _, g, hg => by simp [revF] at hg
  | k, x :: r, hG, g, hg => by
    unfold revF at hg
    split at hg
    · rcases List.mem_cons.1 hg with rfl | hg
      · exact hG x (by simp)
      · exact hG g (by simp [hg])
    · rcases List.mem_cons.1 hg with rfl | hg
      · exact hG g (by simp)
      · exact rev_ok (k + 1) r (fun y hy => hG y (by simp [hy])) g hg
/-- a put of a key that is there -/
theorem kvs_rev {S : List UInt8} {h : List UInt8} {g : Gr} : ∀ (k : Nat) (G : List Gr), k + G.length ≤ 398 → atF S k G h = some g → (kvs S k G).map (fun x => if x.1 = h then (h, Value.agg (Gr.cells { g with bk := true }).toArray) else x) = kvs S k (revF S k G h)
  | _, [], _, e => by simp [atF] at e
  | k, x :: r, hl, e => by
    rw [List.length_cons] at hl
    unfold atF at e
    unfold kvs revF
    rw [List.map_cons]
    by_cases hx : keyG S k x = h
    · rw [if_pos hx] at e
      cases e
      rw [if_pos hx, if_pos hx]
      have hrest : ∀ (j : Nat) (L : List Gr), k < j → j + L.length ≤ 398 → (kvs S j L).map (fun x => if x.1 = h then (h, Value.agg (Gr.cells { g with bk := true }).toArray) else x) = kvs S j L := by
        intro j L
        induction L generalizing j with
        | nil => intros; rfl
        | cons y L ih =>
          intro h1 h2
          rw [List.length_cons] at h2
          unfold kvs
          rw [List.map_cons, if_neg (fun e => by rw [← hx] at e; have := key_inj (by omega) (by omega) e; omega), ih (j + 1) (by omega) (by omega)]
      rw [hrest (k + 1) r (by omega) (by omega)]
      show (h, _) :: _ = (keyG S k { g with bk := true }, _) :: _
      rw [show keyG S k { g with bk := true } = keyG S k g from rfl, hx]
    · rw [if_neg hx] at e
      rw [if_neg hx, if_neg hx, kvs_rev (k + 1) r (by omega) e]
/-- a book in memory: its block, its map's, its secret, what it gave out -/
structure BkAt (w : World) (b m : Nat) (S : List UInt8) (G : List Gr) : Prop where
  sec : ∃ a n c, Blk w b 57 [.slice a n c, .map (some m)] ∧ In w a n c S ∧ n ≤ 20000
  map : MP w m (kvs S 0 G)
  few : G.length ≤ 256
  ok : ∀ g ∈ G, g.ok
theorem BkAt.below {w w' : World} {b m : Nat} {S : List UInt8} {G : List Gr} (h : BkAt w b m S G) (hb : Below w.heap.size w w') : BkAt w' b m S G := by
  obtain ⟨a, n, c, h1, h2, h3⟩ := h.sec
  exact ⟨⟨a, n, c, h1.below hb h1.lt, h2.below hb, h3⟩, h.map.same (hb.block m h.map.lt), h.few, h.ok⟩
theorem BkAt.c1 {w : World} {b m : Nat} {S : List UInt8} {G : List Gr} (h : BkAt w b m S G) : w.cell? ⟨b, 1, none⟩ = some (.map (some m)) ∧ b < w.heap.size := by
  obtain ⟨a, n, c, h1, _⟩ := h.sec
  exact ⟨h1.cell rfl, h1.lt⟩
theorem mp_not_cells {w : World} {m : Nat} {l : Kv} (h : MP w m l) {i : Nat} {v : Value} (hc : w.cell? ⟨m, i, none⟩ = some v) : False := by
  obtain ⟨es, ⟨clock, h1, _⟩, _⟩ := h
  simp [World.cell?, h1] at hc
/-- another state of the map alone -/
theorem BkAt.turned {w w' : World} {b m : Nat} {S : List UInt8} {G G' : List Gr} (h : BkAt w b m S G) (hg : w.grownBy w' (some m)) (hm : MP w' m (kvs S 0 G')) (hf : G'.length ≤ 256) (hok : ∀ g ∈ G', g.ok) : BkAt w' b m S G' := by
  obtain ⟨a, n, c, h1, h2, h3⟩ := h.sec
  have hbm : b ≠ m := fun e => by subst e; exact mp_not_cells h.map (h1.cell (i := 0) rfl)
  refine ⟨⟨a, n, c, h1.kept hg (by simp; omega), ?_, h3⟩, hm, hf, hok⟩
  refine ⟨h2.1, h2.2.1, h2.2.2.1, h2.2.2.2.1, fun hp => ?_⟩
  obtain ⟨sb, off, e1, e2, e3⟩ := h2.2.2.2.2 hp
  refine ⟨sb, off, e1, Nat.lt_of_lt_of_le e2 hg.size, fun i cc hcc => ?_⟩
  have hne : sb ≠ m := fun e => by subst e; exact mp_not_cells h.map (e3 i cc hcc)
  exact (World.cell?_of_block (a := ⟨sb, off + i, none⟩) (hg.block sb e2 (by simp; omega))).trans (e3 i cc hcc)
theorem ret_c2 {R : Ending → World → Prop} {fn : Func} {p1 t2 : Tmp} {ty : TypeId} {a : Act} {w : World} {g : Nat} {X : List Value} {d : TypeDesc} (hr : fn.results = #[.cell p1 ty, .tmp t2]) (hd : a.defers = []) (hp : a.tmps.getD p1 undef = .pointer (some ⟨g, 0, none⟩))
    (hb : Blk w g ty X) (hu : Tryd.prog.underlying ty = some d) (hrow : d.isRow = true) (hi : (Tryd.prog.info? ty).map (·.size) = some X.length) (hR : R (.returned (.tuple #[.agg X.toArray, a.tmps.getD t2 undef])) w) : bodyPost Tryd.prog fn R .ret a w := by
  have hl := run_loadVar_mid (P := Tryd.prog) w g 0 ty X _ hb.range0 hu hrow hi
  refine bodyPost_ret (v := .tuple #[.agg X.toArray, a.tmps.getD t2 undef]) ?_ hd hR
  simp only [results, hr]
  simp [Sem.run_bind, Array.getD] at hp ⊢
  simp [hp, asAddr, hl, Result.andThen]
end Go.Proofs.YtjeahlfmapacfaaDoor.Oct

/- Layer 16 (token): isMade, Len, state and find. -/
namespace Go.Proofs.YtjeahlfmapacfaaDoor.Oct
open Go.RowKit Sha
set_option linter.unusedSimpArgs false
set_option linter.unusedVariables false

theorem ne_map (m : Nat) (W : World) : (binOp .neq 55 (.map (some m)) (.map none)).run Tryd.prog W = .ok (.bool true) W := by kernel_rfl
set_option maxRecDepth 100000 in
theorem made_yes {w : World} {b m : Nat} {S : List UInt8} {G : List Gr} (h : BkAt w b m S G) : Calls Tryd.prog 21 #[.pointer (some ⟨b, 0, none⟩)] w fun e w' => e = .returned (.bool true) ∧ w = w' := by
  have c1 := h.c1.1
  have hm := ne_map m
  clear h
  go_enter Tryd.func21, Tryd.ntmps21
  go_wp2
  go_ret
  exact ⟨rfl, rfl⟩
set_option maxRecDepth 100000 in
theorem len_is {w : World} {b m : Nat} {S : List UInt8} {G : List Gr} (h : BkAt w b m S G) : Calls Tryd.prog 18 #[.pointer (some ⟨b, 0, none⟩)] w fun e w' => e = .returned (iv (G.length : Int)) ∧ w = w' := by
  have c1 := h.c1.1
  have hl := MP.len h.map Tryd.underlying55 3
  rw [kvs_len] at hl
  have HB : Hid (BkAt w b m S G) := h
  clear h
  go_enter Tryd.func18, Tryd.ntmps18
  go_wp2_with fail
  refine (made_yes HB.out).mono ?_
  rintro e W ⟨rfl, rfl⟩
  go_wp2
  go_ret
  exact ⟨rfl, rfl⟩
/-- what speaks against showing a token -/
def showE (g : Gr) (now : Int) : Int := if g.bk = true then 161 else if (g.t : Int) ≤ now then 162 else 0
set_option maxRecDepth 100000 in
theorem state_show (g : Gr) (now : Int) (E : Int) (hE : showE g now = E) (w : World) : Calls Tryd.prog 30 #[.agg #[.string g.u, iv (g.t : Int), .bool g.bk], iv 0, iv now] w fun e w' => e = .returned (iv E) ∧ Below w.heap.size w w' := by
  obtain ⟨u, t, bk⟩ := g
  obtain ⟨A, hA⟩ : ∃ A, w.alloc (.cells #[.string u, iv (t : Int), .bool bk] 64) = A := ⟨_, rfl⟩
  have hb : Below w.heap.size w A := by rw [← hA]; exact below_al _ _
  have HB : Hid (Below w.heap.size w A) := hb
  have hk : Blk A w.heap.size 64 [.string u, iv (t : Int), .bool bk] := by rw [← hA]; exact Blk.new w _ _
  have c1 : A.cell? ⟨w.heap.size, 1, none⟩ = some (iv (t : Int)) := hk.cell rfl
  have c2 : A.cell? ⟨w.heap.size, 2, none⟩ = some (.bool bk) := hk.cell rfl
  unfold showE at hE
  dsimp only at hE
  clear hb hk
  by_cases ht : (t : Int) ≤ now
  · cases bk
    · rw [if_neg (by simp), if_pos ht] at hE
      subst hE
      go_enter Tryd.func30, Tryd.ntmps30
      go_wp2
      go_ret
      exact ⟨rfl, HB.out⟩
    · rw [if_pos rfl] at hE
      subst hE
      go_enter Tryd.func30, Tryd.ntmps30
      go_wp2
      go_ret
      exact ⟨rfl, HB.out⟩
  · have ht2 : now < (t : Int) := by omega
    cases bk
    · rw [if_neg (by simp), if_neg ht] at hE
      subst hE
      clear ht
      go_enter Tryd.func30, Tryd.ntmps30
      go_wp2
      go_ret
      exact ⟨rfl, HB.out⟩
    · rw [if_pos rfl] at hE
      subst hE
      clear ht
      go_enter Tryd.func30, Tryd.ntmps30
      go_wp2
      go_ret
      exact ⟨rfl, HB.out⟩
set_option maxRecDepth 100000 in
theorem state_back (g : Gr) (E : Int) (hE : (if g.bk = true then (161 : Int) else 0) = E) (w : World) : Calls Tryd.prog 30 #[.agg #[.string g.u, iv (g.t : Int), .bool g.bk], iv 1, iv 0] w fun e w' => e = .returned (iv E) ∧ Below w.heap.size w w' := by
  obtain ⟨u, t, bk⟩ := g
  obtain ⟨A, hA⟩ : ∃ A, w.alloc (.cells #[.string u, iv (t : Int), .bool bk] 64) = A := ⟨_, rfl⟩
  have hb : Below w.heap.size w A := by rw [← hA]; exact below_al _ _
  have HB : Hid (Below w.heap.size w A) := hb
  have hk : Blk A w.heap.size 64 [.string u, iv (t : Int), .bool bk] := by rw [← hA]; exact Blk.new w _ _
  have c2 : A.cell? ⟨w.heap.size, 2, none⟩ = some (.bool bk) := hk.cell rfl
  dsimp only at hE
  clear hb hk
  cases bk
  · rw [if_neg (by simp)] at hE
    subst hE
    go_enter Tryd.func30, Tryd.ntmps30
    go_wp2
    go_ret
    exact ⟨rfl, HB.out⟩
  · rw [if_pos rfl] at hE
    subst hE
    go_enter Tryd.func30, Tryd.ntmps30
    go_wp2
    go_ret
    exact ⟨rfl, HB.out⟩
theorem build64 (W : World) : (Instr.build 64 #[]).run Tryd.prog W = .ok (.agg g0.cells.toArray) W := by kernel_rfl
theorem wpList_b0 {ops : Array Oper} {rest : List Oper} {o : Oper} {a : Act} {w : World} {Q : Exit → Act → World → Prop} (hgd : o.guard = none) (hop : o.op = .build 64 #[]) (hk : wpList Tryd.prog ops Q rest (a.put o.dst (.agg g0.cells.toArray)) w) : wpList Tryd.prog ops Q (o :: rest) a w := by
  refine wpList_plain hgd fun K hK => ?_
  have h := build64 w
  unfold Oper.wp execOp
  simp only [hop, Sem.run_bind, Sem.run_pure, Result.andThen_ok, List.map_toArray, List.map_cons, List.map_nil, h]
  exact hK _ _ hk
def FdP (w : World) (S : List UInt8) (G : List Gr) (X : BA) (e : Ending) (w' : World) : Prop :=
  ((atF S 0 G X.data.toList = none ∧ e = .returned (.tuple #[.agg g0.cells.toArray, iv 160])) ∨ ∃ g, atF S 0 G X.data.toList = some g ∧ e = .returned (.tuple #[.agg g.cells.toArray, iv 0])) ∧ Below w.heap.size w w'
set_option maxRecDepth 100000 in
set_option maxHeartbeats 1000000 in
theorem find_tok {w : World} {b m : Nat} {S : List UInt8} {G : List Gr} (h : BkAt w b m S G) (hV : VT w) (X : BA) (hX : X.size ≤ 20000) : Calls Tryd.prog 28 #[.pointer (some ⟨b, 0, none⟩), .string X, .func (.func 29) #[] #[]] w (FdP w S G X) := by
  have HB : Hid (BkAt w b m S G ∧ VT w ∧ X.size ≤ 20000) := ⟨h, hV, hX⟩
  obtain ⟨d, hd⟩ : ∃ d, w.heap.size = d := ⟨_, rfl⟩
  obtain ⟨A, hA⟩ : ∃ A, w.alloc (.cells #[.string e0, iv 0, .bool false] 64) = A := ⟨_, rfl⟩
  have HA : Hid (Below w.heap.size w A ∧ Blk A d 64 g0.cells ∧ w.heap.size = d) := ⟨by rw [← hA]; exact below_al _ _, by rw [← hA, ← hd]; exact Blk.new w _ _, hd⟩
  obtain ⟨a, n, c, s1, s2, s3⟩ := (h.below HA.out.1).sec
  have C29 : Hid (Calls Tryd.prog 29 #[.pointer (some ⟨b, 0, none⟩), .string X] A fun e w' => ∃ R : Bool, e = .returned (.bool R) ∧ Hid ((∃ bd, X.data.toList = sealT S bd) → R = true) ∧ Below A.heap.size A w') := wrote_is s1 s2 s3 (hV.below HA.out.1) X hX
  have hz := zero64
  clear h hV hX s1 s2 s3
  go_enter Tryd.func28, Tryd.ntmps28
  go_wp2_with fail
  refine C29.out.mono ?_
  rintro e W1 ⟨R, rfl, HR, hb1⟩
  have H1 : Hid (Below w.heap.size w W1 ∧ Blk W1 d 64 g0.cells ∧ BkAt W1 b m S G) := ⟨below_tr HA.out.1 hb1, HA.out.2.1.below hb1 HA.out.2.1.lt, (HB.out.1.below HA.out.1).below hb1⟩
  clear hb1 hA hd
  cases R with
  | false =>
    have HN : Hid (atF S 0 G X.data.toList = none) := by
      cases e : atF S 0 G X.data.toList with
      | none => exact rfl
      | some g => have := HR.out (at_mem 0 G e).2; cases this
    go_wp2_with (with_reducible change wpList _ _ _ ({ dst := some 15, op := _, type := _, pos := _, after := _, guard := _ } :: _) _ _; refine Hid.out ?_)
    show wpList _ _ _ _ _ _
    refine wpList_b0 rfl rfl ?_
    go_wp2_with (with_reducible change wpList _ _ _ ({ dst := none, op := Op.store 64 _ _, type := _, pos := _, after := _, guard := _ } :: _) _ _; refine Hid.out ?_)
    show wpList _ _ _ _ _ _
    refine wpList_store_blk rfl 64 (.tmp 6) (.tmp 15) rfl d 0 64 g0.cells g0.cells rfl rfl H1.out.2.1 (by show 0 + 3 ≤ 3; omega) (size64 _) (Gr.one _) ?_
    intro W2 hx2 hg2
    have H2 : Hid (Below w.heap.size w W2 ∧ Blk W2 d 64 g0.cells) := ⟨below_gr H1.out.1 hg2.out (by have := HA.out.2.2; omega), blk_all hx2.out rfl⟩
    clear hx2 hg2
    go_wp2
    exact ret_c2 rfl rfl rfl H2.out.2 Tryd.underlying64 rfl (size64 _) ⟨.inl ⟨HN.out, rfl⟩, H2.out.1⟩
  | true =>
    have c1 := H1.out.2.2.c1.1
    have hlk := MP.look2 (h := X.data.toList) H1.out.2.2.map Tryd.underlying55 (by have := HB.out.2.2; show X.size ≤ maxLen; unfold maxLen; omega) (zero64 W1)
    obtain ⟨kv, hkv⟩ : ∃ v, (kget (kvs S 0 G) X.data.toList).getD (.agg #[.string e0, iv 0, .bool false]) = v := ⟨_, rfl⟩
    obtain ⟨kb, hkb⟩ : ∃ v, khas (kvs S 0 G) X.data.toList = v := ⟨_, rfl⟩
    rw [hkv, hkb] at hlk
    have hlk2 : (Instr.lookup 55 (.map (some m)) (.string X) true).run Tryd.prog W1 = .ok (.tuple #[kv, .bool kb]) W1 := hlk
    obtain ⟨gx, hgx⟩ : ∃ gx : Gr, kv = .agg gx.cells.toArray ∧ ((atF S 0 G X.data.toList = none ∧ kb = false) ∨ (atF S 0 G X.data.toList = some gx ∧ kb = true)) := by
      unfold khas at hkb
      rw [kvs_get] at hkv hkb
      cases e : atF S 0 G X.data.toList with
      | none => rw [e] at hkv hkb; exact ⟨g0, hkv.symm, .inl ⟨rfl, hkb.symm⟩⟩
      | some g => rw [e] at hkv hkb; exact ⟨g, hkv.symm, .inr ⟨rfl, hkb.symm⟩⟩
    obtain ⟨rfl, hcs⟩ := hgx
    have HCS : Hid ((atF S 0 G X.data.toList = none ∧ kb = false) ∨ (atF S 0 G X.data.toList = some gx ∧ kb = true)) := hcs
    obtain ⟨d2, hd2⟩ : ∃ d, W1.heap.size = d := ⟨_, rfl⟩
    have HD2 : Hid (W1.heap.size = d2 ∧ d < d2 ∧ w.heap.size = d) := ⟨hd2, by have := H1.out.2.1.lt; omega, HA.out.2.2⟩
    clear hkv hkb hcs hlk HR
    go_wp2_with (with_reducible change wpList _ _ _ ({ dst := none, op := Op.store 64 _ _, type := _, pos := _, after := _, guard := _ } :: _) _ _; refine Hid.out ?_)
    show wpList _ _ _ _ _ _
    refine wpList_store_blk rfl 64 (.tmp 8) (.tmp 23) rfl d2 0 64 [.string e0, iv 0, .bool false] gx.cells rfl rfl (by rw [← HD2.out.1]; exact Blk.new W1 _ _) (by show 0 + 3 ≤ 3; omega) (size64 _) (Gr.one _) ?_
    intro W2 hx2 hg2
    have H2 : Hid (Below w.heap.size w W2 ∧ Blk W2 d 64 g0.cells ∧ Blk W2 d2 64 gx.cells) := ⟨below_gr (below_tr H1.out.1 (below_al _ _)) hg2.out (by have := HD2.out; omega), Blk.kept (H1.out.2.1.alloc _) hg2.out (by have := HD2.out; simp; omega), blk_all hx2.out rfl⟩
    clear hx2 hg2 hlk2 c1 hd2
    cases kb with
    | false =>
      have HN : Hid (atF S 0 G X.data.toList = none) := by rcases HCS.out with h | h; exact h.1; cases h.2
      go_wp2_with (with_reducible change wpList _ _ _ ({ dst := some 27, op := _, type := _, pos := _, after := _, guard := _ } :: _) _ _; refine Hid.out ?_)
      show wpList _ _ _ _ _ _
      refine wpList_b0 rfl rfl ?_
      go_wp2_with (with_reducible change wpList _ _ _ ({ dst := none, op := Op.store 64 _ _, type := _, pos := _, after := _, guard := _ } :: _) _ _; refine Hid.out ?_)
      show wpList _ _ _ _ _ _
      refine wpList_store_blk rfl 64 (.tmp 6) (.tmp 27) rfl d 0 64 g0.cells g0.cells rfl rfl H2.out.2.1 (by show 0 + 3 ≤ 3; omega) (size64 _) (Gr.one _) ?_
      intro W3 hx3 hg3
      have H3 : Hid (Below w.heap.size w W3 ∧ Blk W3 d 64 g0.cells) := ⟨below_gr H2.out.1 hg3.out (by have := HD2.out; omega), blk_all hx3.out rfl⟩
      clear hx3 hg3
      go_wp2
      exact ret_c2 rfl rfl rfl H3.out.2 Tryd.underlying64 rfl (size64 _) ⟨.inl ⟨HN.out, rfl⟩, H3.out.1⟩
    | true =>
      have HN : Hid (atF S 0 G X.data.toList = some gx) := by rcases HCS.out with h | h; cases h.2; exact h.1
      go_wp2_with (with_reducible change wpList _ _ _ ({ dst := some 28, op := _, type := _, pos := _, after := _, guard := _ } :: _) _ _; refine Hid.out ?_)
      show wpList _ _ _ _ _ _
      refine wpList_load_mid rfl 64 (.tmp 8) rfl d2 0 rfl gx.cells _ H2.out.2.2.range0 Tryd.underlying64 rfl (size64 _) ?_
      go_wp2_with (with_reducible change wpList _ _ _ ({ dst := none, op := Op.store 64 _ _, type := _, pos := _, after := _, guard := _ } :: _) _ _; refine Hid.out ?_)
      show wpList _ _ _ _ _ _
      refine wpList_store_blk rfl 64 (.tmp 6) (.tmp 28) rfl d 0 64 g0.cells gx.cells rfl rfl H2.out.2.1 (by show 0 + 3 ≤ 3; omega) (size64 _) (Gr.one _) ?_
      intro W3 hx3 hg3
      have H3 : Hid (Below w.heap.size w W3 ∧ Blk W3 d 64 gx.cells) := ⟨below_gr H2.out.1 hg3.out (by have := HD2.out; omega), blk_all hx3.out rfl⟩
      clear hx3 hg3
      go_wp2
      exact ret_c2 rfl rfl rfl H3.out.2 Tryd.underlying64 rfl (size64 _) ⟨.inr ⟨gx, HN.out, rfl⟩, H3.out.1⟩
end Go.Proofs.YtjeahlfmapacfaaDoor.Oct
