/-
  Layer 10 (patch): what is the same.
-/
import Derived.Test.YtgdecjacbkicmaaGreatDoorQkLiv
import Derived.Deep.MidRow
/- Layer 10 (patch): what is the same. -/
namespace Go.Proofs.YtgdecjacbkicmaaGreatDoor.Oct
open Go.RowKit
set_option maxRecDepth 100000
set_option linter.unusedSimpArgs false
set_option linter.unusedVariables false

theorem yl_neS {o : Oper} {a : Act} (V : World) (p q : Operand) (x y : BA) (B : Bool) (hB : (x.toList != y.toList) = B) (hop : o.op = .binOp .neq 9 p q 9) (h1 : a.eval p = .string x) (h2 : a.eval q = .string y) : (execOp a.eval o).run Tryz.prog V = .ok (.value (.bool B)) V := by
  subst hB
  unfold execOp
  simp only [hop, h1, h2, Sem.run_bind, Sem.run_pure]
  first
  | (simp [eqGuard, go_sem, Tryz.underlying9, bne]; done)
  | (go_simp; done)
theorem yl_neH {o : Oper} {a : Act} (V : World) (p q : Operand) (x y : Hs) (hx : x.length = 32) (hy : y.length = 32) (B : Bool) (hB : (!decide (x = y)) = B) (hop : o.op = .binOp .neq 37 p q 37) (h1 : a.eval p = .agg (U x).toArray) (h2 : a.eval q = .agg (U y).toArray) : (execOp a.eval o).run Tryz.prog V = .ok (.value (.bool B)) V := by
  have h := neHb x y hx hy V
  rw [hB] at h
  unfold execOp
  simp only [hop, h1, h2, Sem.run_bind, Sem.run_pure]
  have hg : (eqGuard BinOp.neq 37 p q (.agg (U x).toArray) (.agg (U y).toArray)).run Tryz.prog V = .ok () V := by
    first
    | (simp [eqGuard, go_sem]; done)
    | (unfold eqGuard; simp [go_sem, Tryz.underlying37]; done)
    | (unfold eqGuard; go_simp; done)
  rw [hg]
  simp only [Result.andThen_ok, h]
theorem wpList_neV {ops : Array Oper} {rest : List Oper} {o : Oper} {a : Act} {w : World} {Q : Exit → Act → World → Prop} (hw : Region.wanted o (yielded ops a.tmps) = true) (p q : Operand) (hop : o.op = .binOp .neq 43 p q 43) (x y : Vx) (hx : x.ok) (hy : y.ok) (B : Bool) (hB : (!eqVx x y) = B) (h1 : a.eval p = .agg x.cells.toArray) (h2 : a.eval q = .agg y.cells.toArray)
    (h : wpList Tryz.prog ops Q rest (a.put o.dst (.bool B)) w) : wpList Tryz.prog ops Q (o :: rest) a w := by
  refine Go.BigFrame.wpList_want hw fun K hK => ?_
  have he := neVb x y hx hy w
  rw [hB] at he
  have hg : (eqGuard BinOp.neq 43 p q (.agg x.cells.toArray) (.agg y.cells.toArray)).run Tryz.prog w = .ok () w := by
    first
    | (simp [eqGuard, go_sem]; done)
    | (unfold eqGuard; simp [go_sem, Tryz.underlying43]; done)
    | (unfold eqGuard; go_simp; done)
  unfold Oper.wp execOp
  simp only [hop, h1, h2, Sem.run_bind, Sem.run_pure, hg, Result.andThen_ok, he]
  exact hK _ _ h
theorem ba_ne (x y : BA) : (x.toList != y.toList) = !decide (x = y) := by
  rw [Bool.eq_iff_iff]
  simp only [bne_iff_ne, Bool.not_eq_true', decide_eq_false_iff_not, toList_d]
  exact ⟨fun h e => h (by rw [e]), fun h e => h (ba_ext e)⟩
theorem ba_eq (x y : BA) : (x.toList == y.toList) = decide (x = y) := by
  rw [Bool.eq_iff_iff]
  simp only [beq_iff_eq, decide_eq_true_eq, toList_d]
  exact ⟨fun h => ba_ext h, fun h => by rw [h]⟩
theorem all_same {α : Type} {l r : List α} {n : Nat} (hl : l.length = n) (hr : r.length = n) (h : ∀ j, j < n → l[j]? = r[j]?) : l = r := by
  refine List.ext_getElem? fun j => ?_
  by_cases hj : j < n
  · exact h j hj
  · rw [List.getElem?_eq_none (by omega), List.getElem?_eq_none (by omega)]
set_option maxRecDepth 100000 in
set_option maxHeartbeats 4000000 in
theorem tx60_6 {Q : Exit → Act → World → Prop} {x2 x3 x4 x6 x7 x8 x9 x10 x11 x12 x13 x14 x15 x16 x17 x18 x19 x20 x21 x22 x23 x24 x25 : Value} {ds : List Deferred} {A : World} {g1 o1 g2 o2 n c1 c2 i : Nat} {x y : BA} {B : Bool}
    (HL : Hid (g1 < A.heap.size ∧ g2 < A.heap.size)) (k1 : A.cell? ⟨g1, o1 + i, none⟩ = some (.string x)) (k2 : A.cell? ⟨g2, o2 + i, none⟩ = some (.string y)) (HB : Hid ((x.toList != y.toList) = B)) (q1 : (i : Int) < (n : Int)) (q2 : i < n)
    (hQ : ∀ V1, Below A.heap.size A V1 → Q .normal { tmps := #[.slice (some ⟨g1, o1, none⟩) n c1, .slice (some ⟨g2, o2, none⟩) n c2, x2, x3, x4, iv (i : Int), x6, x7, x8, x9, x10, x11, x12, x13, x14, x15, .slice (some ⟨g1, o1, none⟩) n c1, iv (i : Int), .pointer (some ⟨g1, o1 + i, none⟩), .string x, .slice (some ⟨g2, o2, none⟩) n c2, iv (i : Int), .pointer (some ⟨g2, o2 + i, none⟩), .string y, .bool B, x25], defers := ds } V1) :
    (Code.region 6 #[{ dst := some 16, op := Op.move (Operand.tmp 0), type := 44, pos := "slices.go:25", after := #[], guard := none }, { dst := some 17, op := Op.move (Operand.tmp 5), type := 3, pos := "slices.go:25", after := #[], guard := none }, { dst := some 18, op := Op.indexAddr 44 (Operand.tmp 16) (Operand.tmp 17), type := 0, pos := "slices.go:25", after := #[{ on := 0, ground := Ground.data }, { on := 1, ground := Ground.data }], guard := none }, { dst := some 19, op := Op.load 9 (Operand.tmp 18), type := 9, pos := "slices.go:25", after := #[{ on := 2, ground := Ground.data }], guard := none }, { dst := some 20, op := Op.move (Operand.tmp 1), type := 44, pos := "slices.go:25", after := #[], guard := none }, { dst := some 21, op := Op.move (Operand.tmp 5), type := 3, pos := "slices.go:25", after := #[], guard := none }, { dst := some 22, op := Op.indexAddr 44 (Operand.tmp 20) (Operand.tmp 21), type := 0, pos := "slices.go:25", after := #[{ on := 4, ground := Ground.data }, { on := 5, ground := Ground.data }], guard := none }, { dst := some 23, op := Op.load 9 (Operand.tmp 22), type := 9, pos := "slices.go:25", after := #[{ on := 6, ground := Ground.data }], guard := none }, { dst := some 24, op := Op.binOp BinOp.neq 9 (Operand.tmp 19) (Operand.tmp 23) 9, type := 4, pos := "slices.go:25", after := #[{ on := 3, ground := Ground.data }, { on := 7, ground := Ground.data }], guard := none }] true).wp Tryz.prog Q { tmps := #[.slice (some ⟨g1, o1, none⟩) n c1, .slice (some ⟨g2, o2, none⟩) n c2, x2, x3, x4, iv (i : Int), x6, x7, x8, x9, x10, x11, x12, x13, x14, x15, x16, x17, x18, x19, x20, x21, x22, x23, x24, x25], defers := ds } A := by
  refine Code.wp_mono (Q := fun x a' w' => match x with | .normal => Q .normal a' w' | _ => False) (by intro x a' w' h; cases x <;> first | exact h | exact h.elim) ?_
  refine wp_region_held (S := fun V => Below A.heap.size A V) (by kernel_rfl) ?_
  have hS0 : Hid (Below A.heap.size A A.drew) := below_drew0 A
  change wpAnyH Tryz.prog .any _ _ (fun V => Below A.heap.size A V) 9 (Array.replicate 9 false) _ A.drew
  obtain ⟨V0, hV0⟩ : ∃ V0, A.drew = V0 := ⟨_, rfl⟩
  rw [hV0]
  rw [hV0] at hS0
  clear hV0
  refine wpAnyH_take (i := 0) (oi := { dst := some 16, op := Op.move (Operand.tmp 0), type := 44, pos := "slices.go:25", after := #[], guard := none }) (v := .slice (some ⟨g1, o1, none⟩) n c1) rfl (by kernel_rfl) (by kernel_rfl) (by kernel_rfl) (fun _ _ _ h => h.elim) (Or.inl ⟨by rfl, ?y1⟩) hS0.out ?_
  case y1 =>
    intro V hV
    go_simp
  simp only [Act.put, List.setIfInBounds_toArray, List.set_cons_zero, List.set_cons_succ]
  refine wpAnyH_take (i := 1) (oi := { dst := some 17, op := Op.move (Operand.tmp 5), type := 3, pos := "slices.go:25", after := #[], guard := none }) (v := iv (i : Int)) rfl (by kernel_rfl) (by kernel_rfl) (by kernel_rfl) (fun _ _ _ h => h.elim) (Or.inl ⟨by rfl, ?y2⟩) hS0.out ?_
  case y2 =>
    intro V hV
    go_simp
  simp only [Act.put, List.setIfInBounds_toArray, List.set_cons_zero, List.set_cons_succ]
  refine wpAnyH_take (i := 2) (oi := { dst := some 18, op := Op.indexAddr 44 (Operand.tmp 16) (Operand.tmp 17), type := 0, pos := "slices.go:25", after := #[{ on := 0, ground := Ground.data }, { on := 1, ground := Ground.data }], guard := none }) (v := .pointer (some ⟨g1, o1 + i, none⟩)) rfl (by kernel_rfl) (by kernel_rfl) (by kernel_rfl) (fun _ _ _ h => h.elim) (Or.inl ⟨by rfl, ?y3⟩) hS0.out ?_
  case y3 =>
    intro V hV
    have hcmp := q1
    have hcmp2 := q2
    go_simp
  simp only [Act.put, List.setIfInBounds_toArray, List.set_cons_zero, List.set_cons_succ]
  refine wpAnyH_take (i := 3) (oi := { dst := some 19, op := Op.load 9 (Operand.tmp 18), type := 9, pos := "slices.go:25", after := #[{ on := 2, ground := Ground.data }], guard := none }) (v := .string x) rfl (by kernel_rfl) (by kernel_rfl) (by kernel_rfl) (fun _ _ _ h => h.elim) (Or.inl ⟨by rfl, ?y4⟩) hS0.out ?_
  case y4 =>
    intro V hV
    have hc : V.cell? ⟨g1, o1 + i, none⟩ = some (.string x) := ((show Below A.heap.size A V from hV).cell (p := ⟨g1, o1 + i, none⟩) HL.out.1).trans k1
    go_simp
  simp only [Act.put, List.setIfInBounds_toArray, List.set_cons_zero, List.set_cons_succ]
  refine wpAnyH_take (i := 4) (oi := { dst := some 20, op := Op.move (Operand.tmp 1), type := 44, pos := "slices.go:25", after := #[], guard := none }) (v := .slice (some ⟨g2, o2, none⟩) n c2) rfl (by kernel_rfl) (by kernel_rfl) (by kernel_rfl) (fun _ _ _ h => h.elim) (Or.inl ⟨by rfl, ?y5⟩) hS0.out ?_
  case y5 =>
    intro V hV
    go_simp
  simp only [Act.put, List.setIfInBounds_toArray, List.set_cons_zero, List.set_cons_succ]
  refine wpAnyH_take (i := 5) (oi := { dst := some 21, op := Op.move (Operand.tmp 5), type := 3, pos := "slices.go:25", after := #[], guard := none }) (v := iv (i : Int)) rfl (by kernel_rfl) (by kernel_rfl) (by kernel_rfl) (fun _ _ _ h => h.elim) (Or.inl ⟨by rfl, ?y6⟩) hS0.out ?_
  case y6 =>
    intro V hV
    go_simp
  simp only [Act.put, List.setIfInBounds_toArray, List.set_cons_zero, List.set_cons_succ]
  refine wpAnyH_take (i := 6) (oi := { dst := some 22, op := Op.indexAddr 44 (Operand.tmp 20) (Operand.tmp 21), type := 0, pos := "slices.go:25", after := #[{ on := 4, ground := Ground.data }, { on := 5, ground := Ground.data }], guard := none }) (v := .pointer (some ⟨g2, o2 + i, none⟩)) rfl (by kernel_rfl) (by kernel_rfl) (by kernel_rfl) (fun _ _ _ h => h.elim) (Or.inl ⟨by rfl, ?y7⟩) hS0.out ?_
  case y7 =>
    intro V hV
    have hcmp := q1
    have hcmp2 := q2
    go_simp
  simp only [Act.put, List.setIfInBounds_toArray, List.set_cons_zero, List.set_cons_succ]
  refine wpAnyH_take (i := 7) (oi := { dst := some 23, op := Op.load 9 (Operand.tmp 22), type := 9, pos := "slices.go:25", after := #[{ on := 6, ground := Ground.data }], guard := none }) (v := .string y) rfl (by kernel_rfl) (by kernel_rfl) (by kernel_rfl) (fun _ _ _ h => h.elim) (Or.inl ⟨by rfl, ?y8⟩) hS0.out ?_
  case y8 =>
    intro V hV
    have hc : V.cell? ⟨g2, o2 + i, none⟩ = some (.string y) := ((show Below A.heap.size A V from hV).cell (p := ⟨g2, o2 + i, none⟩) HL.out.2).trans k2
    go_simp
  simp only [Act.put, List.setIfInBounds_toArray, List.set_cons_zero, List.set_cons_succ]
  refine wpAnyH_take (i := 8) (oi := { dst := some 24, op := Op.binOp BinOp.neq 9 (Operand.tmp 19) (Operand.tmp 23) 9, type := 4, pos := "slices.go:25", after := #[{ on := 3, ground := Ground.data }, { on := 7, ground := Ground.data }], guard := none }) (v := .bool B) rfl (by kernel_rfl) (by kernel_rfl) (by kernel_rfl) (fun _ _ _ h => h.elim) (Or.inl ⟨by rfl, ?y9⟩) hS0.out ?_
  case y9 =>
    intro V hV
    exact yl_neS V _ _ x y B HB.out rfl rfl rfl
  simp only [Act.put, List.setIfInBounds_toArray, List.set_cons_zero, List.set_cons_succ]
  refine wpAnyH_done (by kernel_rfl) ?_ _
  exact hQ V0 hS0.out
set_option maxRecDepth 100000 in
set_option maxHeartbeats 4000000 in
theorem tx13_6 {Q : Exit → Act → World → Prop} {x2 x3 x4 x6 x7 x8 x9 x10 x11 x12 x13 x14 x15 x16 x17 x18 x19 x20 x21 x22 x23 x24 x25 : Value} {ds : List Deferred} {A : World} {g1 o1 g2 o2 n c1 c2 i : Nat} {x y : BA} {B : Bool}
    (HL : Hid (g1 < A.heap.size ∧ g2 < A.heap.size)) (k1 : A.cell? ⟨g1, o1 + i, none⟩ = some (.string x)) (k2 : A.cell? ⟨g2, o2 + i, none⟩ = some (.string y)) (HB : Hid ((x.toList != y.toList) = B)) (q1 : (i : Int) < (n : Int)) (q2 : i < n)
    (hQ : ∀ V1, Below A.heap.size A V1 → Q .normal { tmps := #[.slice (some ⟨g1, o1, none⟩) n c1, .slice (some ⟨g2, o2, none⟩) n c2, x2, x3, x4, iv (i : Int), x6, x7, x8, x9, x10, x11, x12, x13, x14, x15, x16, .slice (some ⟨g1, o1, none⟩) n c1, iv (i : Int), .pointer (some ⟨g1, o1 + i, none⟩), .string x, .slice (some ⟨g2, o2, none⟩) n c2, iv (i : Int), .pointer (some ⟨g2, o2 + i, none⟩), .string y, .bool B], defers := ds } V1) :
    (Code.region 6 #[{ dst := some 17, op := Op.move (Operand.tmp 0), type := 44, pos := "ref.go:273", after := #[], guard := none }, { dst := some 18, op := Op.move (Operand.tmp 5), type := 3, pos := "ref.go:273", after := #[], guard := none }, { dst := some 19, op := Op.indexAddr 44 (Operand.tmp 17) (Operand.tmp 18), type := 0, pos := "ref.go:273", after := #[{ on := 0, ground := Ground.data }, { on := 1, ground := Ground.data }], guard := none }, { dst := some 20, op := Op.load 9 (Operand.tmp 19), type := 9, pos := "ref.go:273", after := #[{ on := 2, ground := Ground.data }], guard := none }, { dst := some 21, op := Op.move (Operand.tmp 1), type := 44, pos := "ref.go:273", after := #[], guard := none }, { dst := some 22, op := Op.move (Operand.tmp 5), type := 3, pos := "ref.go:273", after := #[], guard := none }, { dst := some 23, op := Op.indexAddr 44 (Operand.tmp 21) (Operand.tmp 22), type := 0, pos := "ref.go:273", after := #[{ on := 4, ground := Ground.data }, { on := 5, ground := Ground.data }], guard := none }, { dst := some 24, op := Op.load 9 (Operand.tmp 23), type := 9, pos := "ref.go:273", after := #[{ on := 6, ground := Ground.data }], guard := none }, { dst := some 25, op := Op.binOp BinOp.neq 9 (Operand.tmp 20) (Operand.tmp 24) 9, type := 4, pos := "ref.go:273", after := #[{ on := 3, ground := Ground.data }, { on := 7, ground := Ground.data }], guard := none }] true).wp Tryz.prog Q { tmps := #[.slice (some ⟨g1, o1, none⟩) n c1, .slice (some ⟨g2, o2, none⟩) n c2, x2, x3, x4, iv (i : Int), x6, x7, x8, x9, x10, x11, x12, x13, x14, x15, x16, x17, x18, x19, x20, x21, x22, x23, x24, x25], defers := ds } A := by
  refine Code.wp_mono (Q := fun x a' w' => match x with | .normal => Q .normal a' w' | _ => False) (by intro x a' w' h; cases x <;> first | exact h | exact h.elim) ?_
  refine wp_region_held (S := fun V => Below A.heap.size A V) (by kernel_rfl) ?_
  have hS0 : Hid (Below A.heap.size A A.drew) := below_drew0 A
  change wpAnyH Tryz.prog .any _ _ (fun V => Below A.heap.size A V) 9 (Array.replicate 9 false) _ A.drew
  obtain ⟨V0, hV0⟩ : ∃ V0, A.drew = V0 := ⟨_, rfl⟩
  rw [hV0]
  rw [hV0] at hS0
  clear hV0
  refine wpAnyH_take (i := 0) (oi := { dst := some 17, op := Op.move (Operand.tmp 0), type := 44, pos := "ref.go:273", after := #[], guard := none }) (v := .slice (some ⟨g1, o1, none⟩) n c1) rfl (by kernel_rfl) (by kernel_rfl) (by kernel_rfl) (fun _ _ _ h => h.elim) (Or.inl ⟨by rfl, ?y1⟩) hS0.out ?_
  case y1 =>
    intro V hV
    go_simp
  simp only [Act.put, List.setIfInBounds_toArray, List.set_cons_zero, List.set_cons_succ]
  refine wpAnyH_take (i := 1) (oi := { dst := some 18, op := Op.move (Operand.tmp 5), type := 3, pos := "ref.go:273", after := #[], guard := none }) (v := iv (i : Int)) rfl (by kernel_rfl) (by kernel_rfl) (by kernel_rfl) (fun _ _ _ h => h.elim) (Or.inl ⟨by rfl, ?y2⟩) hS0.out ?_
  case y2 =>
    intro V hV
    go_simp
  simp only [Act.put, List.setIfInBounds_toArray, List.set_cons_zero, List.set_cons_succ]
  refine wpAnyH_take (i := 2) (oi := { dst := some 19, op := Op.indexAddr 44 (Operand.tmp 17) (Operand.tmp 18), type := 0, pos := "ref.go:273", after := #[{ on := 0, ground := Ground.data }, { on := 1, ground := Ground.data }], guard := none }) (v := .pointer (some ⟨g1, o1 + i, none⟩)) rfl (by kernel_rfl) (by kernel_rfl) (by kernel_rfl) (fun _ _ _ h => h.elim) (Or.inl ⟨by rfl, ?y3⟩) hS0.out ?_
  case y3 =>
    intro V hV
    have hcmp := q1
    have hcmp2 := q2
    go_simp
  simp only [Act.put, List.setIfInBounds_toArray, List.set_cons_zero, List.set_cons_succ]
  refine wpAnyH_take (i := 3) (oi := { dst := some 20, op := Op.load 9 (Operand.tmp 19), type := 9, pos := "ref.go:273", after := #[{ on := 2, ground := Ground.data }], guard := none }) (v := .string x) rfl (by kernel_rfl) (by kernel_rfl) (by kernel_rfl) (fun _ _ _ h => h.elim) (Or.inl ⟨by rfl, ?y4⟩) hS0.out ?_
  case y4 =>
    intro V hV
    have hc : V.cell? ⟨g1, o1 + i, none⟩ = some (.string x) := ((show Below A.heap.size A V from hV).cell (p := ⟨g1, o1 + i, none⟩) HL.out.1).trans k1
    go_simp
  simp only [Act.put, List.setIfInBounds_toArray, List.set_cons_zero, List.set_cons_succ]
  refine wpAnyH_take (i := 4) (oi := { dst := some 21, op := Op.move (Operand.tmp 1), type := 44, pos := "ref.go:273", after := #[], guard := none }) (v := .slice (some ⟨g2, o2, none⟩) n c2) rfl (by kernel_rfl) (by kernel_rfl) (by kernel_rfl) (fun _ _ _ h => h.elim) (Or.inl ⟨by rfl, ?y5⟩) hS0.out ?_
  case y5 =>
    intro V hV
    go_simp
  simp only [Act.put, List.setIfInBounds_toArray, List.set_cons_zero, List.set_cons_succ]
  refine wpAnyH_take (i := 5) (oi := { dst := some 22, op := Op.move (Operand.tmp 5), type := 3, pos := "ref.go:273", after := #[], guard := none }) (v := iv (i : Int)) rfl (by kernel_rfl) (by kernel_rfl) (by kernel_rfl) (fun _ _ _ h => h.elim) (Or.inl ⟨by rfl, ?y6⟩) hS0.out ?_
  case y6 =>
    intro V hV
    go_simp
  simp only [Act.put, List.setIfInBounds_toArray, List.set_cons_zero, List.set_cons_succ]
  refine wpAnyH_take (i := 6) (oi := { dst := some 23, op := Op.indexAddr 44 (Operand.tmp 21) (Operand.tmp 22), type := 0, pos := "ref.go:273", after := #[{ on := 4, ground := Ground.data }, { on := 5, ground := Ground.data }], guard := none }) (v := .pointer (some ⟨g2, o2 + i, none⟩)) rfl (by kernel_rfl) (by kernel_rfl) (by kernel_rfl) (fun _ _ _ h => h.elim) (Or.inl ⟨by rfl, ?y7⟩) hS0.out ?_
  case y7 =>
    intro V hV
    have hcmp := q1
    have hcmp2 := q2
    go_simp
  simp only [Act.put, List.setIfInBounds_toArray, List.set_cons_zero, List.set_cons_succ]
  refine wpAnyH_take (i := 7) (oi := { dst := some 24, op := Op.load 9 (Operand.tmp 23), type := 9, pos := "ref.go:273", after := #[{ on := 6, ground := Ground.data }], guard := none }) (v := .string y) rfl (by kernel_rfl) (by kernel_rfl) (by kernel_rfl) (fun _ _ _ h => h.elim) (Or.inl ⟨by rfl, ?y8⟩) hS0.out ?_
  case y8 =>
    intro V hV
    have hc : V.cell? ⟨g2, o2 + i, none⟩ = some (.string y) := ((show Below A.heap.size A V from hV).cell (p := ⟨g2, o2 + i, none⟩) HL.out.2).trans k2
    go_simp
  simp only [Act.put, List.setIfInBounds_toArray, List.set_cons_zero, List.set_cons_succ]
  refine wpAnyH_take (i := 8) (oi := { dst := some 25, op := Op.binOp BinOp.neq 9 (Operand.tmp 20) (Operand.tmp 24) 9, type := 4, pos := "ref.go:273", after := #[{ on := 3, ground := Ground.data }, { on := 7, ground := Ground.data }], guard := none }) (v := .bool B) rfl (by kernel_rfl) (by kernel_rfl) (by kernel_rfl) (fun _ _ _ h => h.elim) (Or.inl ⟨by rfl, ?y9⟩) hS0.out ?_
  case y9 =>
    intro V hV
    exact yl_neS V _ _ x y B HB.out rfl rfl rfl
  simp only [Act.put, List.setIfInBounds_toArray, List.set_cons_zero, List.set_cons_succ]
  refine wpAnyH_done (by kernel_rfl) ?_ _
  exact hQ V0 hS0.out
set_option maxRecDepth 100000 in
set_option maxHeartbeats 4000000 in
theorem hs35_6 {Q : Exit → Act → World → Prop} {x2 x3 x4 x6 x7 x8 x9 x10 x11 x12 x13 x14 x15 x16 x17 x18 x19 x20 x21 x22 x23 x24 x25 : Value} {ds : List Deferred} {A : World} {g1 o1 g2 o2 n c1 c2 i : Nat} {x y : Hs} {B : Bool}
    (HL : Hid (g1 < A.heap.size ∧ g2 < A.heap.size)) (HR : Hid (A.rangeAt g1 (o1 + i * 32) (U x) ∧ A.rangeAt g2 (o2 + i * 32) (U y))) (HX : Hid (x.length = 32 ∧ y.length = 32)) (HB : Hid ((!decide (x = y)) = B)) (q1 : (i : Int) < (n : Int)) (q2 : i < n)
    (hQ : ∀ V1, Below A.heap.size A V1 → Q .normal { tmps := #[.slice (some ⟨g1, o1, none⟩) n c1, .slice (some ⟨g2, o2, none⟩) n c2, x2, x3, x4, iv (i : Int), x6, x7, x8, x9, x10, x11, x12, x13, x14, x15, .slice (some ⟨g1, o1, none⟩) n c1, iv (i : Int), .pointer (some ⟨g1, o1 + i * 32, none⟩), .agg (U x).toArray, .slice (some ⟨g2, o2, none⟩) n c2, iv (i : Int), .pointer (some ⟨g2, o2 + i * 32, none⟩), .agg (U y).toArray, .bool B, x25], defers := ds } V1) :
    (Code.region 6 #[{ dst := some 16, op := Op.move (Operand.tmp 0), type := 22, pos := "slices.go:25", after := #[], guard := none }, { dst := some 17, op := Op.move (Operand.tmp 5), type := 3, pos := "slices.go:25", after := #[], guard := none }, { dst := some 18, op := Op.indexAddr 22 (Operand.tmp 16) (Operand.tmp 17), type := 0, pos := "slices.go:25", after := #[{ on := 0, ground := Ground.data }, { on := 1, ground := Ground.data }], guard := none }, { dst := some 19, op := Op.load 37 (Operand.tmp 18), type := 37, pos := "slices.go:25", after := #[{ on := 2, ground := Ground.data }], guard := none }, { dst := some 20, op := Op.move (Operand.tmp 1), type := 22, pos := "slices.go:25", after := #[], guard := none }, { dst := some 21, op := Op.move (Operand.tmp 5), type := 3, pos := "slices.go:25", after := #[], guard := none }, { dst := some 22, op := Op.indexAddr 22 (Operand.tmp 20) (Operand.tmp 21), type := 0, pos := "slices.go:25", after := #[{ on := 4, ground := Ground.data }, { on := 5, ground := Ground.data }], guard := none }, { dst := some 23, op := Op.load 37 (Operand.tmp 22), type := 37, pos := "slices.go:25", after := #[{ on := 6, ground := Ground.data }], guard := none }, { dst := some 24, op := Op.binOp BinOp.neq 37 (Operand.tmp 19) (Operand.tmp 23) 37, type := 4, pos := "slices.go:25", after := #[{ on := 3, ground := Ground.data }, { on := 7, ground := Ground.data }], guard := none }] true).wp Tryz.prog Q { tmps := #[.slice (some ⟨g1, o1, none⟩) n c1, .slice (some ⟨g2, o2, none⟩) n c2, x2, x3, x4, iv (i : Int), x6, x7, x8, x9, x10, x11, x12, x13, x14, x15, x16, x17, x18, x19, x20, x21, x22, x23, x24, x25], defers := ds } A := by
  refine Code.wp_mono (Q := fun x a' w' => match x with | .normal => Q .normal a' w' | _ => False) (by intro x a' w' h; cases x <;> first | exact h | exact h.elim) ?_
  refine wp_region_held (S := fun V => Below A.heap.size A V) (by kernel_rfl) ?_
  have hS0 : Hid (Below A.heap.size A A.drew) := below_drew0 A
  change wpAnyH Tryz.prog .any _ _ (fun V => Below A.heap.size A V) 9 (Array.replicate 9 false) _ A.drew
  obtain ⟨V0, hV0⟩ : ∃ V0, A.drew = V0 := ⟨_, rfl⟩
  rw [hV0]
  rw [hV0] at hS0
  clear hV0
  refine wpAnyH_take (i := 0) (oi := { dst := some 16, op := Op.move (Operand.tmp 0), type := 22, pos := "slices.go:25", after := #[], guard := none }) (v := .slice (some ⟨g1, o1, none⟩) n c1) rfl (by kernel_rfl) (by kernel_rfl) (by kernel_rfl) (fun _ _ _ h => h.elim) (Or.inl ⟨by rfl, ?y1⟩) hS0.out ?_
  case y1 =>
    intro V hV
    go_simp
  simp only [Act.put, List.setIfInBounds_toArray, List.set_cons_zero, List.set_cons_succ]
  refine wpAnyH_take (i := 1) (oi := { dst := some 17, op := Op.move (Operand.tmp 5), type := 3, pos := "slices.go:25", after := #[], guard := none }) (v := iv (i : Int)) rfl (by kernel_rfl) (by kernel_rfl) (by kernel_rfl) (fun _ _ _ h => h.elim) (Or.inl ⟨by rfl, ?y2⟩) hS0.out ?_
  case y2 =>
    intro V hV
    go_simp
  simp only [Act.put, List.setIfInBounds_toArray, List.set_cons_zero, List.set_cons_succ]
  refine wpAnyH_take (i := 2) (oi := { dst := some 18, op := Op.indexAddr 22 (Operand.tmp 16) (Operand.tmp 17), type := 0, pos := "slices.go:25", after := #[{ on := 0, ground := Ground.data }, { on := 1, ground := Ground.data }], guard := none }) (v := .pointer (some ⟨g1, o1 + i * 32, none⟩)) rfl (by kernel_rfl) (by kernel_rfl) (by kernel_rfl) (fun _ _ _ h => h.elim) (Or.inl ⟨by rfl, ?y3⟩) hS0.out ?_
  case y3 =>
    intro V hV
    have hcmp := q1
    have hcmp2 := q2
    go_simp
  simp only [Act.put, List.setIfInBounds_toArray, List.set_cons_zero, List.set_cons_succ]
  refine wpAnyH_take (i := 3) (oi := { dst := some 19, op := Op.load 37 (Operand.tmp 18), type := 37, pos := "slices.go:25", after := #[{ on := 2, ground := Ground.data }], guard := none }) (v := .agg (U x).toArray) rfl (by kernel_rfl) (by kernel_rfl) (by kernel_rfl) (fun _ _ _ h => h.elim) (yieldsIf_load_mid (by rfl) _ _ rfl _ _ rfl (U x) _ (fun V hV => rangeAt_same (HR.out.1) ((show Below A.heap.size A V from hV).block _ (HL.out.1))) Tryz.underlying37 rfl (info47 x HX.out.1)) hS0.out ?_
  simp only [Act.put, List.setIfInBounds_toArray, List.set_cons_zero, List.set_cons_succ]
  refine wpAnyH_take (i := 4) (oi := { dst := some 20, op := Op.move (Operand.tmp 1), type := 22, pos := "slices.go:25", after := #[], guard := none }) (v := .slice (some ⟨g2, o2, none⟩) n c2) rfl (by kernel_rfl) (by kernel_rfl) (by kernel_rfl) (fun _ _ _ h => h.elim) (Or.inl ⟨by rfl, ?y4⟩) hS0.out ?_
  case y4 =>
    intro V hV
    go_simp
  simp only [Act.put, List.setIfInBounds_toArray, List.set_cons_zero, List.set_cons_succ]
  refine wpAnyH_take (i := 5) (oi := { dst := some 21, op := Op.move (Operand.tmp 5), type := 3, pos := "slices.go:25", after := #[], guard := none }) (v := iv (i : Int)) rfl (by kernel_rfl) (by kernel_rfl) (by kernel_rfl) (fun _ _ _ h => h.elim) (Or.inl ⟨by rfl, ?y5⟩) hS0.out ?_
  case y5 =>
    intro V hV
    go_simp
  simp only [Act.put, List.setIfInBounds_toArray, List.set_cons_zero, List.set_cons_succ]
  refine wpAnyH_take (i := 6) (oi := { dst := some 22, op := Op.indexAddr 22 (Operand.tmp 20) (Operand.tmp 21), type := 0, pos := "slices.go:25", after := #[{ on := 4, ground := Ground.data }, { on := 5, ground := Ground.data }], guard := none }) (v := .pointer (some ⟨g2, o2 + i * 32, none⟩)) rfl (by kernel_rfl) (by kernel_rfl) (by kernel_rfl) (fun _ _ _ h => h.elim) (Or.inl ⟨by rfl, ?y6⟩) hS0.out ?_
  case y6 =>
    intro V hV
    have hcmp := q1
    have hcmp2 := q2
    go_simp
  simp only [Act.put, List.setIfInBounds_toArray, List.set_cons_zero, List.set_cons_succ]
  refine wpAnyH_take (i := 7) (oi := { dst := some 23, op := Op.load 37 (Operand.tmp 22), type := 37, pos := "slices.go:25", after := #[{ on := 6, ground := Ground.data }], guard := none }) (v := .agg (U y).toArray) rfl (by kernel_rfl) (by kernel_rfl) (by kernel_rfl) (fun _ _ _ h => h.elim) (yieldsIf_load_mid (by rfl) _ _ rfl _ _ rfl (U y) _ (fun V hV => rangeAt_same (HR.out.2) ((show Below A.heap.size A V from hV).block _ (HL.out.2))) Tryz.underlying37 rfl (info47 y HX.out.2)) hS0.out ?_
  simp only [Act.put, List.setIfInBounds_toArray, List.set_cons_zero, List.set_cons_succ]
  refine wpAnyH_take (i := 8) (oi := { dst := some 24, op := Op.binOp BinOp.neq 37 (Operand.tmp 19) (Operand.tmp 23) 37, type := 4, pos := "slices.go:25", after := #[{ on := 3, ground := Ground.data }, { on := 7, ground := Ground.data }], guard := none }) (v := .bool B) rfl (by kernel_rfl) (by kernel_rfl) (by kernel_rfl) (fun _ _ _ h => h.elim) (Or.inl ⟨by rfl, ?y7⟩) hS0.out ?_
  case y7 =>
    intro V hV
    exact yl_neH V _ _ x y HX.out.1 HX.out.2 B HB.out rfl rfl rfl
  simp only [Act.put, List.setIfInBounds_toArray, List.set_cons_zero, List.set_cons_succ]
  refine wpAnyH_done (by kernel_rfl) ?_ _
  exact hQ V0 hS0.out
set_option maxHeartbeats 2000000 in
theorem eqS60 (w : World) (a a2 : Option Addr) (n c n2 c2 : Nat) (ts ts2 : List BA) (h : Strs w a n ts) (h2 : Strs w a2 n2 ts2) (hn : n ≤ 140737488355328) (hn2 : n2 ≤ 140737488355328) (B : Bool) (hB : decide (ts = ts2) = B) :
    Calls Tryz.prog 35 #[.slice a n c, .slice a2 n2 c2] w fun e w' => e = .returned (.bool B) ∧ Below w.heap.size w w' := by
  have qn : (n : Int) ≤ 140737488355328 := by omega
  have qn2 : (n2 : Int) ≤ 140737488355328 := by omega
  by_cases hne : n = n2
  · subst hne
    have HS : Hid (Strs w a n ts ∧ Strs w a2 n ts2 ∧ decide (ts = ts2) = B) := ⟨h, h2, hB⟩
    clear h h2 hB hn hn2 qn2
    go_enter Tryz.func35, Tryz.ntmps35
    go_wp2
    go_loopw [13] (fun u wr => ∃ i : Nat, u = iv (i : Int) ∧ (i : Int) ≤ (n : Int) ∧ Hid ((∀ j, j < i → ts[j]? = ts2[j]?) ∧ Below w.heap.size w wr)) (fun u _ => n - (intOf u).toNat)
    case atStart => exact ⟨0, rfl, by omega, (fun j hj => absurd hj (by omega)), Below.refl _ _⟩
    case round =>
      obtain ⟨V, hV⟩ : ∃ V, V = wr := ⟨_, rfl⟩
      subst hV
      obtain ⟨i, rfl, qi, HI⟩ := hrel
      by_cases hi : i < n
      · obtain ⟨x, hx⟩ : ∃ x, ts[i]? = some x := ⟨_, List.getElem?_eq_getElem (by rw [HS.out.1.1]; exact hi)⟩
        obtain ⟨y, hy⟩ : ∃ y, ts2[i]? = some y := ⟨_, List.getElem?_eq_getElem (by rw [HS.out.2.1.1]; exact hi)⟩
        obtain ⟨g1, o1, rfl, hg1, hel1⟩ := HS.out.1.2 (by omega)
        obtain ⟨g2, o2, rfl, hg2, hel2⟩ := HS.out.2.1.2 (by omega)
        have k1 : V.cell? ⟨g1, o1 + i, none⟩ = some (.string x) := (HI.out.2.cell (p := ⟨g1, o1 + i, none⟩) hg1).trans (hel1 i x hx)
        have k2 : V.cell? ⟨g2, o2 + i, none⟩ = some (.string y) := (HI.out.2.cell (p := ⟨g2, o2 + i, none⟩) hg2).trans (hel2 i y hy)
        have HLT : Hid (g1 < V.heap.size ∧ g2 < V.heap.size) := ⟨Nat.lt_of_lt_of_le hg1 HI.out.2.size, Nat.lt_of_lt_of_le hg2 HI.out.2.size⟩
        have HX : Hid (i < n ∧ ts[i]? = some x ∧ ts2[i]? = some y) := ⟨hi, hx, hy⟩
        have q1 : (i : Int) < (n : Int) := by omega
        obtain ⟨G, hG⟩ : ∃ G, (!decide (x = y)) = G := ⟨_, rfl⟩
        have HG : Hid ((!decide (x = y)) = G) := hG
        have HG2 : Hid ((x.toList != y.toList) = G) := (ba_ne x y).trans hG
        clear hel1 hel2 hx hy hg1 hg2 hG qi
        go_wp2_with fail
        refine tx60_6 HLT k1 k2 HG2 q1 hi ?_
        intro V2 hb2
        have HB2 : Hid (Below w.heap.size w V2) := below_tr HI.out.2 hb2
        clear hb2 hi HLT k1 k2 HG2
        cases G with
        | true =>
          have HF : Hid (B = false) := by
            show _ = _
            rw [← HS.out.2.2]
            refine decide_eq_false fun e => ?_
            have h1 := HX.out.2.1
            rw [e, HX.out.2.2] at h1
            cases h1
            have := HG.out
            simp at this
          have hBf := HF.out
          subst hBf
          clear HF HG
          go_wp2
          go_ret
          exact ⟨rfl, HB2.out⟩
        | false =>
          have HN : Hid ((∀ j, j < i + 1 → ts[j]? = ts2[j]?) ∧ i < n) := by
            refine ⟨fun j hj => ?_, HX.out.1⟩
            by_cases hji : j = i
            · subst hji
              have h1 : x = y := by have := HG.out; simpa using this
              rw [HX.out.2.1, HX.out.2.2, h1]
            · exact HI.out.1 j (by omega)
          clear HG HI
          go_wp2
          go_roundw
          case rel => exact ⟨i + 1, by simp, by have := HN.out.2; omega, HN.out.1, HB2.out⟩
          case measure => have := HN.out.2; simp only [intOf]; omega
      · have q1 : (n : Int) ≤ (i : Int) := by omega
        have HF : Hid (B = true) := by
          show _ = _
          rw [← HS.out.2.2]
          exact decide_eq_true (all_same HS.out.1.1 HS.out.2.1.1 fun j hj => HI.out.1 j (by omega))
        have hBf := HF.out
        subst hBf
        clear HF hi
        go_wp2
        go_ret
        exact ⟨rfl, HI.out.2⟩
  · have hBf : B = false := by
      rw [← hB]
      refine decide_eq_false fun e => hne ?_
      rw [← h.1, ← h2.1, e]
    subst hBf
    have e1 : ((n : Int) != (n2 : Int)) = true := by simpa using (show ¬ (n : Int) = (n2 : Int) by omega)
    clear h h2 hB hn hn2 hne
    go_enter Tryz.func35, Tryz.ntmps35
    go_wp2
    go_ret
    exact ⟨rfl, Below.refl _ _⟩
set_option maxHeartbeats 2000000 in
theorem eqS13 (w : World) (a a2 : Option Addr) (n c n2 c2 : Nat) (ts ts2 : List BA) (h : Strs w a n ts) (h2 : Strs w a2 n2 ts2) (hn : n ≤ 140737488355328) (hn2 : n2 ≤ 140737488355328) (B : Bool) (hB : decide (ts = ts2) = B) :
    Calls Tryz.prog 17 #[.slice a n c, .slice a2 n2 c2] w fun e w' => e = .returned (.bool B) ∧ Below w.heap.size w w' := by
  have qn : (n : Int) ≤ 140737488355328 := by omega
  have qn2 : (n2 : Int) ≤ 140737488355328 := by omega
  by_cases hne : n = n2
  · subst hne
    have HS : Hid (Strs w a n ts ∧ Strs w a2 n ts2 ∧ decide (ts = ts2) = B) := ⟨h, h2, hB⟩
    clear h h2 hB hn hn2 qn2
    go_enter Tryz.func17, Tryz.ntmps17
    go_wp2
    go_loopw [5] (fun u wr => ∃ i : Nat, u = iv (i : Int) ∧ (i : Int) ≤ (n : Int) ∧ Hid ((∀ j, j < i → ts[j]? = ts2[j]?) ∧ Below w.heap.size w wr)) (fun u _ => n - (intOf u).toNat)
    case atStart => exact ⟨0, rfl, by omega, (fun j hj => absurd hj (by omega)), Below.refl _ _⟩
    case round =>
      obtain ⟨V, hV⟩ : ∃ V, V = wr := ⟨_, rfl⟩
      subst hV
      obtain ⟨i, rfl, qi, HI⟩ := hrel
      by_cases hi : i < n
      · obtain ⟨x, hx⟩ : ∃ x, ts[i]? = some x := ⟨_, List.getElem?_eq_getElem (by rw [HS.out.1.1]; exact hi)⟩
        obtain ⟨y, hy⟩ : ∃ y, ts2[i]? = some y := ⟨_, List.getElem?_eq_getElem (by rw [HS.out.2.1.1]; exact hi)⟩
        obtain ⟨g1, o1, rfl, hg1, hel1⟩ := HS.out.1.2 (by omega)
        obtain ⟨g2, o2, rfl, hg2, hel2⟩ := HS.out.2.1.2 (by omega)
        have k1 : V.cell? ⟨g1, o1 + i, none⟩ = some (.string x) := (HI.out.2.cell (p := ⟨g1, o1 + i, none⟩) hg1).trans (hel1 i x hx)
        have k2 : V.cell? ⟨g2, o2 + i, none⟩ = some (.string y) := (HI.out.2.cell (p := ⟨g2, o2 + i, none⟩) hg2).trans (hel2 i y hy)
        have HLT : Hid (g1 < V.heap.size ∧ g2 < V.heap.size) := ⟨Nat.lt_of_lt_of_le hg1 HI.out.2.size, Nat.lt_of_lt_of_le hg2 HI.out.2.size⟩
        have HX : Hid (i < n ∧ ts[i]? = some x ∧ ts2[i]? = some y) := ⟨hi, hx, hy⟩
        have q1 : (i : Int) < (n : Int) := by omega
        obtain ⟨G, hG⟩ : ∃ G, (!decide (x = y)) = G := ⟨_, rfl⟩
        have HG : Hid ((!decide (x = y)) = G) := hG
        have HG2 : Hid ((x.toList != y.toList) = G) := (ba_ne x y).trans hG
        clear hel1 hel2 hx hy hg1 hg2 hG qi
        go_wp2_with fail
        refine tx13_6 HLT k1 k2 HG2 q1 hi ?_
        intro V2 hb2
        have HB2 : Hid (Below w.heap.size w V2) := below_tr HI.out.2 hb2
        clear hb2 hi HLT k1 k2 HG2
        cases G with
        | true =>
          have HF : Hid (B = false) := by
            show _ = _
            rw [← HS.out.2.2]
            refine decide_eq_false fun e => ?_
            have h1 := HX.out.2.1
            rw [e, HX.out.2.2] at h1
            cases h1
            have := HG.out
            simp at this
          have hBf := HF.out
          subst hBf
          clear HF HG
          go_wp2
          go_ret
          exact ⟨rfl, HB2.out⟩
        | false =>
          have HN : Hid ((∀ j, j < i + 1 → ts[j]? = ts2[j]?) ∧ i < n) := by
            refine ⟨fun j hj => ?_, HX.out.1⟩
            by_cases hji : j = i
            · subst hji
              have h1 : x = y := by have := HG.out; simpa using this
              rw [HX.out.2.1, HX.out.2.2, h1]
            · exact HI.out.1 j (by omega)
          clear HG HI
          go_wp2
          go_roundw
          case rel => exact ⟨i + 1, by simp, by have := HN.out.2; omega, HN.out.1, HB2.out⟩
          case measure => have := HN.out.2; simp only [intOf]; omega
      · have q1 : (n : Int) ≤ (i : Int) := by omega
        have HF : Hid (B = true) := by
          show _ = _
          rw [← HS.out.2.2]
          exact decide_eq_true (all_same HS.out.1.1 HS.out.2.1.1 fun j hj => HI.out.1 j (by omega))
        have hBf := HF.out
        subst hBf
        clear HF hi
        go_wp2
        go_ret
        exact ⟨rfl, HI.out.2⟩
  · have hBf : B = false := by
      rw [← hB]
      refine decide_eq_false fun e => hne ?_
      rw [← h.1, ← h2.1, e]
    subst hBf
    have e1 : ((n : Int) != (n2 : Int)) = true := by simpa using (show ¬ (n : Int) = (n2 : Int) by omega)
    clear h h2 hB hn hn2 hne
    go_enter Tryz.func17, Tryz.ntmps17
    go_wp2
    go_ret
    exact ⟨rfl, Below.refl _ _⟩
set_option maxHeartbeats 2000000 in
theorem eqH35 (w : World) (a a2 : Option Addr) (n c n2 c2 : Nat) (ts ts2 : List Hs) (h : HsR w a n ts) (h2 : HsR w a2 n2 ts2) (hn : n ≤ 140737488355328) (hn2 : n2 ≤ 140737488355328) (B : Bool) (hB : decide (ts = ts2) = B) :
    Calls Tryz.prog 18 #[.slice a n c, .slice a2 n2 c2] w fun e w' => e = .returned (.bool B) ∧ Below w.heap.size w w' := by
  have qn : (n : Int) ≤ 140737488355328 := by omega
  have qn2 : (n2 : Int) ≤ 140737488355328 := by omega
  by_cases hne : n = n2
  · subst hne
    have HS : Hid (HsR w a n ts ∧ HsR w a2 n ts2 ∧ decide (ts = ts2) = B) := ⟨h, h2, hB⟩
    clear h h2 hB hn hn2 qn2
    go_enter Tryz.func18, Tryz.ntmps18
    go_wp2
    go_loopw [13] (fun u wr => ∃ i : Nat, u = iv (i : Int) ∧ (i : Int) ≤ (n : Int) ∧ Hid ((∀ j, j < i → ts[j]? = ts2[j]?) ∧ Below w.heap.size w wr)) (fun u _ => n - (intOf u).toNat)
    case atStart => exact ⟨0, rfl, by omega, (fun j hj => absurd hj (by omega)), Below.refl _ _⟩
    case round =>
      obtain ⟨V, hV⟩ : ∃ V, V = wr := ⟨_, rfl⟩
      subst hV
      obtain ⟨i, rfl, qi, HI⟩ := hrel
      by_cases hi : i < n
      · obtain ⟨x, hx⟩ : ∃ x, ts[i]? = some x := ⟨_, List.getElem?_eq_getElem (by rw [HS.out.1.1]; exact hi)⟩
        obtain ⟨y, hy⟩ : ∃ y, ts2[i]? = some y := ⟨_, List.getElem?_eq_getElem (by rw [HS.out.2.1.1]; exact hi)⟩
        obtain ⟨g1, o1, rfl, hg1, hel1⟩ := HS.out.1.2.2 (by omega)
        obtain ⟨g2, o2, rfl, hg2, hel2⟩ := HS.out.2.1.2.2 (by omega)
        have HR : Hid (V.rangeAt g1 (o1 + i * 32) (U x) ∧ V.rangeAt g2 (o2 + i * 32) (U y)) := ⟨rangeAt_same (hel1 i x hx) (HI.out.2.block g1 hg1), rangeAt_same (hel2 i y hy) (HI.out.2.block g2 hg2)⟩
        have HXL : Hid (x.length = 32 ∧ y.length = 32) := ⟨HS.out.1.2.1 x (List.mem_of_getElem? hx), HS.out.2.1.2.1 y (List.mem_of_getElem? hy)⟩
        have HLT : Hid (g1 < V.heap.size ∧ g2 < V.heap.size) := ⟨Nat.lt_of_lt_of_le hg1 HI.out.2.size, Nat.lt_of_lt_of_le hg2 HI.out.2.size⟩
        have HX : Hid (i < n ∧ ts[i]? = some x ∧ ts2[i]? = some y) := ⟨hi, hx, hy⟩
        have q1 : (i : Int) < (n : Int) := by omega
        obtain ⟨G, hG⟩ : ∃ G, (!decide (x = y)) = G := ⟨_, rfl⟩
        have HG : Hid ((!decide (x = y)) = G) := hG
        clear hel1 hel2 hx hy hg1 hg2 hG qi
        go_wp2_with fail
        refine hs35_6 HLT HR HXL HG q1 hi ?_
        intro V2 hb2
        have HB2 : Hid (Below w.heap.size w V2) := below_tr HI.out.2 hb2
        clear hb2 hi HLT HR
        cases G with
        | true =>
          have HF : Hid (B = false) := by
            show _ = _
            rw [← HS.out.2.2]
            refine decide_eq_false fun e => ?_
            have h1 := HX.out.2.1
            rw [e, HX.out.2.2] at h1
            cases h1
            have := HG.out
            simp at this
          have hBf := HF.out
          subst hBf
          clear HF HG
          go_wp2
          go_ret
          exact ⟨rfl, HB2.out⟩
        | false =>
          have HN : Hid ((∀ j, j < i + 1 → ts[j]? = ts2[j]?) ∧ i < n) := by
            refine ⟨fun j hj => ?_, HX.out.1⟩
            by_cases hji : j = i
            · subst hji
              have h1 : x = y := by have := HG.out; simpa using this
              rw [HX.out.2.1, HX.out.2.2, h1]
            · exact HI.out.1 j (by omega)
          clear HG HI
          go_wp2
          go_roundw
          case rel => exact ⟨i + 1, by simp, by have := HN.out.2; omega, HN.out.1, HB2.out⟩
          case measure => have := HN.out.2; simp only [intOf]; omega
      · have q1 : (n : Int) ≤ (i : Int) := by omega
        have HF : Hid (B = true) := by
          show _ = _
          rw [← HS.out.2.2]
          exact decide_eq_true (all_same HS.out.1.1 HS.out.2.1.1 fun j hj => HI.out.1 j (by omega))
        have hBf := HF.out
        subst hBf
        clear HF hi
        go_wp2
        go_ret
        exact ⟨rfl, HI.out.2⟩
  · have hBf : B = false := by
      rw [← hB]
      refine decide_eq_false fun e => hne ?_
      rw [← h.1, ← h2.1, e]
    subst hBf
    have e1 : ((n : Int) != (n2 : Int)) = true := by simpa using (show ¬ (n : Int) = (n2 : Int) by omega)
    clear h h2 hB hn hn2 hne
    go_enter Tryz.func18, Tryz.ntmps18
    go_wp2
    go_ret
    exact ⟨rfl, Below.refl _ _⟩
end Go.Proofs.YtgdecjacbkicmaaGreatDoor.Oct
