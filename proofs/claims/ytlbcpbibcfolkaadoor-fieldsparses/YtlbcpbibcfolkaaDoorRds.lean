/-
  Layer 22 (fields): the reader's small calls.
-/
import Derived.Test.YtlbcpbibcfolkaaDoorByt
import Derived.Test.YtlbcpbibcfolkaaDoorIdx
import Derived.Deep.RegionHeldLaw
import Derived.Lib.IndexAny
namespace Go.Proofs.YtlbcpbibcfolkaaDoor.Oct
open Go.RowKit
set_option linter.unusedSimpArgs false
set_option linter.unusedVariables false

theorem u9 : Tryd.prog.underlying 9 = some .string := Tryd.underlying9
theorem run_idx (s : BA) (i : Nat) (c : UInt8) (h : s.data.toList[i]? = some c) (W : World) : (Instr.index 9 (.string s) (iv (i : Int))).run Tryd.prog W = .ok (bv (c.toNat : Int)) W := by
  have hs : s[i]? = some c := by
    have hi := (List.getElem?_eq_some_iff.1 h).1
    have hi' : i < s.size := hi
    rw [getElem?_pos s i hi']
    have := (List.getElem?_eq_some_iff.1 h).2
    rw [← this]
    rfl
  simp [Instr.index, run_underlying u9, asIntOf, hs, go_sem]
theorem yl_idx {o : Oper} {a : Act} (V : World) (x y : Operand) (s : BA) (i : Nat) (c : UInt8) (hop : o.op = .index 9 x y) (hx : a.eval x = .string s) (hy : a.eval y = iv (i : Int)) (h : s.data.toList[i]? = some c) : (execOp a.eval o).run Tryd.prog V = .ok (.value (bv (c.toNat : Int))) V := by
  unfold execOp
  simp [hop, hx, hy, run_idx s i c h, Result.andThen]
/-- where a reader stands -/
def Rd (w : World) (g : Nat) (s : BA) (p : Nat) : Prop := Blk w g 55 [.string s, iv (p : Int)] ∧ s.size ≤ 140737488355328 ∧ p ≤ s.size
theorem Rd.below {w w' : World} {g p : Nat} {s : BA} (h : Rd w g s p) (hb : Below w.heap.size w w') : Rd w' g s p := ⟨h.1.below hb h.1.lt, h.2⟩
theorem Rd.c0 {w : World} {g p : Nat} {s : BA} (h : Rd w g s p) : w.cell? ⟨g, 0, none⟩ = some (.string s) := h.1.cell rfl
theorem Rd.c1 {w : World} {g p : Nat} {s : BA} (h : Rd w g s p) : w.cell? ⟨g, 1, none⟩ = some (iv (p : Int)) := h.1.cell rfl
/-- what a reader gives up with -/
def gvP (p : Nat) (er : Int) : Ending := .panicked [{ v := .iface 101 (.agg #[iv (p : Int), iv er]), recovered := false }]
set_option maxRecDepth 100000 in
theorem giveUp_is {w : World} {g p : Nat} {s : BA} (h : Rd w g s p) (er : Int) : Calls Tryd.prog 44 #[.pointer (some ⟨g, 0, none⟩), iv er] w fun e w' => e = gvP p er ∧ w = w' := by
  have c1 := h.c1
  clear h
  go_enter Tryd.func44, Tryd.ntmps44
  go_wp2
  exact ⟨rfl, rfl, rfl⟩
#print axioms giveUp_is
set_option maxRecDepth 100000 in
set_option maxHeartbeats 4000000 in
theorem ae39t {Q : Exit → Act → World → Prop} {x1 x2 x3 x4 x5 x6 x7 x8 x9 x10 x11 x12 : Value} {ds : List Deferred} {A : World} {g p : Nat} {s : BA}
    (HL : Hid (g < A.heap.size)) (c0 : A.cell? ⟨g, 0, none⟩ = some (.string s)) (c1 : A.cell? ⟨g, 1, none⟩ = some (iv (p : Int))) (q1 : (s.size : Int) ≤ (p : Int))
    (hQ : ∀ V1, Below A.heap.size A V1 → Q .normal { tmps := #[.pointer (some ⟨g, 0, none⟩), x1, .bool true, .pointer (some ⟨g, 0, none⟩), .pointer (some ⟨g, 0, none⟩), .pointer (some ⟨g, 1, none⟩), iv (p : Int), .pointer (some ⟨g, 0, none⟩), .pointer (some ⟨g, 0, none⟩), .pointer (some ⟨g, 0, none⟩), .string s, iv (s.size : Int), .bool true], defers := ds } V1) :
    (Code.region 1 #[{ dst := some 3, op := Op.move (Operand.tmp 0), type := 72, pos := "reader.go:36", after := #[], guard := none }, { dst := some 4, op := Op.nilCheck (Operand.tmp 3), type := 0, pos := "reader.go:36", after := #[{ on := 0, ground := Ground.data }], guard := none }, { dst := some 5, op := Op.fieldAddr 55 (Operand.tmp 4) 1, type := 0, pos := "reader.go:36", after := #[{ on := 1, ground := Ground.data }], guard := none }, { dst := some 6, op := Op.load 3 (Operand.tmp 5), type := 3, pos := "reader.go:36", after := #[{ on := 2, ground := Ground.data }], guard := none }, { dst := some 7, op := Op.move (Operand.tmp 0), type := 72, pos := "reader.go:36", after := #[], guard := none }, { dst := some 8, op := Op.nilCheck (Operand.tmp 7), type := 0, pos := "reader.go:36", after := #[{ on := 4, ground := Ground.data }], guard := none }, { dst := some 9, op := Op.fieldAddr 55 (Operand.tmp 8) 0, type := 0, pos := "reader.go:36", after := #[{ on := 5, ground := Ground.data }], guard := none }, { dst := some 10, op := Op.load 9 (Operand.tmp 9), type := 9, pos := "reader.go:36", after := #[{ on := 6, ground := Ground.data }], guard := none }, { dst := some 11, op := Op.call { callee := Callee.builtin Builtin.len, args := #[Operand.tmp 10], argTypes := #[9] }, type := 3, pos := "reader.go:36", after := #[{ on := 7, ground := Ground.data }], guard := none }, { dst := some 12, op := Op.binOp BinOp.geq 3 (Operand.tmp 6) (Operand.tmp 11) 3, type := 4, pos := "reader.go:36", after := #[{ on := 3, ground := Ground.data }, { on := 8, ground := Ground.data }], guard := none }, { dst := some 2, op := Op.assign (Operand.tmp 12), type := 4, pos := "reader.go:36", after := #[{ on := 9, ground := Ground.data }, { on := 0, ground := Ground.phase }, { on := 1, ground := Ground.phase }, { on := 2, ground := Ground.phase }, { on := 3, ground := Ground.phase }, { on := 4, ground := Ground.phase }, { on := 5, ground := Ground.phase }, { on := 6, ground := Ground.phase }, { on := 7, ground := Ground.phase }, { on := 8, ground := Ground.phase }, { on := 9, ground := Ground.phase }], guard := none }] true).wp Tryd.prog Q { tmps := #[.pointer (some ⟨g, 0, none⟩), x1, x2, x3, x4, x5, x6, x7, x8, x9, x10, x11, x12], defers := ds } A := by
  refine Code.wp_mono (Q := fun x a' w' => match x with | .normal => Q .normal a' w' | _ => False) (by intro x a' w' h; cases x <;> first | exact h | exact h.elim) ?_
  refine wp_region_held (S := fun V => Below A.heap.size A V) (by kernel_rfl) ?_
  have hS0 : Hid (Below A.heap.size A A.drew) := below_drew0 A
  change wpAnyH Tryd.prog .any _ _ (fun V => Below A.heap.size A V) 11 (Array.replicate 11 false) _ A.drew
  obtain ⟨V0, hV0⟩ : ∃ V0, A.drew = V0 := ⟨_, rfl⟩
  rw [hV0]
  rw [hV0] at hS0
  clear hV0
  refine wpAnyH_take (i := 0) (oi := { dst := some 3, op := Op.move (Operand.tmp 0), type := 72, pos := "reader.go:36", after := #[], guard := none }) (v := .pointer (some ⟨g, 0, none⟩)) rfl (by kernel_rfl) (by kernel_rfl) (by kernel_rfl) (fun _ _ _ h => h.elim) (Or.inl ⟨by rfl, ?y1⟩) hS0.out ?_
  case y1 =>
    intro V hV
    go_simp
  simp only [Act.put, List.setIfInBounds_toArray, List.set_cons_zero, List.set_cons_succ]
  refine wpAnyH_take (i := 1) (oi := { dst := some 4, op := Op.nilCheck (Operand.tmp 3), type := 0, pos := "reader.go:36", after := #[{ on := 0, ground := Ground.data }], guard := none }) (v := .pointer (some ⟨g, 0, none⟩)) rfl (by kernel_rfl) (by kernel_rfl) (by kernel_rfl) (fun _ _ _ h => h.elim) (Or.inl ⟨by rfl, ?y2⟩) hS0.out ?_
  case y2 =>
    intro V hV
    go_simp
  simp only [Act.put, List.setIfInBounds_toArray, List.set_cons_zero, List.set_cons_succ]
  refine wpAnyH_take (i := 2) (oi := { dst := some 5, op := Op.fieldAddr 55 (Operand.tmp 4) 1, type := 0, pos := "reader.go:36", after := #[{ on := 1, ground := Ground.data }], guard := none }) (v := .pointer (some ⟨g, 1, none⟩)) rfl (by kernel_rfl) (by kernel_rfl) (by kernel_rfl) (fun _ _ _ h => h.elim) (Or.inl ⟨by rfl, ?y3⟩) hS0.out ?_
  case y3 =>
    intro V hV
    go_simp
  simp only [Act.put, List.setIfInBounds_toArray, List.set_cons_zero, List.set_cons_succ]
  refine wpAnyH_take (i := 3) (oi := { dst := some 6, op := Op.load 3 (Operand.tmp 5), type := 3, pos := "reader.go:36", after := #[{ on := 2, ground := Ground.data }], guard := none }) (v := iv (p : Int)) rfl (by kernel_rfl) (by kernel_rfl) (by kernel_rfl) (fun _ _ _ h => h.elim) (Or.inl ⟨by rfl, ?y4⟩) hS0.out ?_
  case y4 =>
    intro V hV
    have hc : V.cell? ⟨g, 1, none⟩ = some (iv (p : Int)) := ((show Below A.heap.size A V from hV).cell (p := ⟨g, 1, none⟩) HL.out).trans c1
    go_simp
  simp only [Act.put, List.setIfInBounds_toArray, List.set_cons_zero, List.set_cons_succ]
  refine wpAnyH_take (i := 4) (oi := { dst := some 7, op := Op.move (Operand.tmp 0), type := 72, pos := "reader.go:36", after := #[], guard := none }) (v := .pointer (some ⟨g, 0, none⟩)) rfl (by kernel_rfl) (by kernel_rfl) (by kernel_rfl) (fun _ _ _ h => h.elim) (Or.inl ⟨by rfl, ?y5⟩) hS0.out ?_
  case y5 =>
    intro V hV
    go_simp
  simp only [Act.put, List.setIfInBounds_toArray, List.set_cons_zero, List.set_cons_succ]
  refine wpAnyH_take (i := 5) (oi := { dst := some 8, op := Op.nilCheck (Operand.tmp 7), type := 0, pos := "reader.go:36", after := #[{ on := 4, ground := Ground.data }], guard := none }) (v := .pointer (some ⟨g, 0, none⟩)) rfl (by kernel_rfl) (by kernel_rfl) (by kernel_rfl) (fun _ _ _ h => h.elim) (Or.inl ⟨by rfl, ?y6⟩) hS0.out ?_
  case y6 =>
    intro V hV
    go_simp
  simp only [Act.put, List.setIfInBounds_toArray, List.set_cons_zero, List.set_cons_succ]
  refine wpAnyH_take (i := 6) (oi := { dst := some 9, op := Op.fieldAddr 55 (Operand.tmp 8) 0, type := 0, pos := "reader.go:36", after := #[{ on := 5, ground := Ground.data }], guard := none }) (v := .pointer (some ⟨g, 0, none⟩)) rfl (by kernel_rfl) (by kernel_rfl) (by kernel_rfl) (fun _ _ _ h => h.elim) (Or.inl ⟨by rfl, ?y7⟩) hS0.out ?_
  case y7 =>
    intro V hV
    go_simp
  simp only [Act.put, List.setIfInBounds_toArray, List.set_cons_zero, List.set_cons_succ]
  refine wpAnyH_take (i := 7) (oi := { dst := some 10, op := Op.load 9 (Operand.tmp 9), type := 9, pos := "reader.go:36", after := #[{ on := 6, ground := Ground.data }], guard := none }) (v := .string s) rfl (by kernel_rfl) (by kernel_rfl) (by kernel_rfl) (fun _ _ _ h => h.elim) (Or.inl ⟨by rfl, ?y8⟩) hS0.out ?_
  case y8 =>
    intro V hV
    have hc : V.cell? ⟨g, 0, none⟩ = some (.string s) := ((show Below A.heap.size A V from hV).cell (p := ⟨g, 0, none⟩) HL.out).trans c0
    go_simp
  simp only [Act.put, List.setIfInBounds_toArray, List.set_cons_zero, List.set_cons_succ]
  refine wpAnyH_take (i := 8) (oi := { dst := some 11, op := Op.call { callee := Callee.builtin Builtin.len, args := #[Operand.tmp 10], argTypes := #[9] }, type := 3, pos := "reader.go:36", after := #[{ on := 7, ground := Ground.data }], guard := none }) (v := iv (s.size : Int)) rfl (by kernel_rfl) (by kernel_rfl) (by kernel_rfl) (fun _ _ _ h => h.elim) (Or.inl ⟨by rfl, ?y9⟩) hS0.out ?_
  case y9 =>
    intro V hV
    go_simp
  simp only [Act.put, List.setIfInBounds_toArray, List.set_cons_zero, List.set_cons_succ]
  refine wpAnyH_take (i := 9) (oi := { dst := some 12, op := Op.binOp BinOp.geq 3 (Operand.tmp 6) (Operand.tmp 11) 3, type := 4, pos := "reader.go:36", after := #[{ on := 3, ground := Ground.data }, { on := 8, ground := Ground.data }], guard := none }) (v := .bool true) rfl (by kernel_rfl) (by kernel_rfl) (by kernel_rfl) (fun _ _ _ h => h.elim) (Or.inl ⟨by rfl, ?y10⟩) hS0.out ?_
  case y10 =>
    intro V hV
    have hcmp := q1
    go_simp <;> omega
  simp only [Act.put, List.setIfInBounds_toArray, List.set_cons_zero, List.set_cons_succ]
  refine wpAnyH_take (i := 10) (oi := { dst := some 2, op := Op.assign (Operand.tmp 12), type := 4, pos := "reader.go:36", after := #[{ on := 9, ground := Ground.data }, { on := 0, ground := Ground.phase }, { on := 1, ground := Ground.phase }, { on := 2, ground := Ground.phase }, { on := 3, ground := Ground.phase }, { on := 4, ground := Ground.phase }, { on := 5, ground := Ground.phase }, { on := 6, ground := Ground.phase }, { on := 7, ground := Ground.phase }, { on := 8, ground := Ground.phase }, { on := 9, ground := Ground.phase }], guard := none }) (v := .bool true) rfl (by kernel_rfl) (by kernel_rfl) (by kernel_rfl) (fun _ _ _ h => h.elim) (Or.inl ⟨by rfl, ?y11⟩) hS0.out ?_
  case y11 =>
    intro V hV
    go_simp
  simp only [Act.put, List.setIfInBounds_toArray, List.set_cons_zero, List.set_cons_succ]
  refine wpAnyH_done (by kernel_rfl) ?_ _
  exact hQ V0 hS0.out
#print axioms ae39t
set_option maxRecDepth 100000 in
set_option maxHeartbeats 4000000 in
theorem ae39f {Q : Exit → Act → World → Prop} {x1 x2 x3 x4 x5 x6 x7 x8 x9 x10 x11 x12 : Value} {ds : List Deferred} {A : World} {g p : Nat} {s : BA}
    (HL : Hid (g < A.heap.size)) (c0 : A.cell? ⟨g, 0, none⟩ = some (.string s)) (c1 : A.cell? ⟨g, 1, none⟩ = some (iv (p : Int))) (q1 : (p : Int) < (s.size : Int))
    (hQ : ∀ V1, Below A.heap.size A V1 → Q .normal { tmps := #[.pointer (some ⟨g, 0, none⟩), x1, .bool false, .pointer (some ⟨g, 0, none⟩), .pointer (some ⟨g, 0, none⟩), .pointer (some ⟨g, 1, none⟩), iv (p : Int), .pointer (some ⟨g, 0, none⟩), .pointer (some ⟨g, 0, none⟩), .pointer (some ⟨g, 0, none⟩), .string s, iv (s.size : Int), .bool false], defers := ds } V1) :
    (Code.region 1 #[{ dst := some 3, op := Op.move (Operand.tmp 0), type := 72, pos := "reader.go:36", after := #[], guard := none }, { dst := some 4, op := Op.nilCheck (Operand.tmp 3), type := 0, pos := "reader.go:36", after := #[{ on := 0, ground := Ground.data }], guard := none }, { dst := some 5, op := Op.fieldAddr 55 (Operand.tmp 4) 1, type := 0, pos := "reader.go:36", after := #[{ on := 1, ground := Ground.data }], guard := none }, { dst := some 6, op := Op.load 3 (Operand.tmp 5), type := 3, pos := "reader.go:36", after := #[{ on := 2, ground := Ground.data }], guard := none }, { dst := some 7, op := Op.move (Operand.tmp 0), type := 72, pos := "reader.go:36", after := #[], guard := none }, { dst := some 8, op := Op.nilCheck (Operand.tmp 7), type := 0, pos := "reader.go:36", after := #[{ on := 4, ground := Ground.data }], guard := none }, { dst := some 9, op := Op.fieldAddr 55 (Operand.tmp 8) 0, type := 0, pos := "reader.go:36", after := #[{ on := 5, ground := Ground.data }], guard := none }, { dst := some 10, op := Op.load 9 (Operand.tmp 9), type := 9, pos := "reader.go:36", after := #[{ on := 6, ground := Ground.data }], guard := none }, { dst := some 11, op := Op.call { callee := Callee.builtin Builtin.len, args := #[Operand.tmp 10], argTypes := #[9] }, type := 3, pos := "reader.go:36", after := #[{ on := 7, ground := Ground.data }], guard := none }, { dst := some 12, op := Op.binOp BinOp.geq 3 (Operand.tmp 6) (Operand.tmp 11) 3, type := 4, pos := "reader.go:36", after := #[{ on := 3, ground := Ground.data }, { on := 8, ground := Ground.data }], guard := none }, { dst := some 2, op := Op.assign (Operand.tmp 12), type := 4, pos := "reader.go:36", after := #[{ on := 9, ground := Ground.data }, { on := 0, ground := Ground.phase }, { on := 1, ground := Ground.phase }, { on := 2, ground := Ground.phase }, { on := 3, ground := Ground.phase }, { on := 4, ground := Ground.phase }, { on := 5, ground := Ground.phase }, { on := 6, ground := Ground.phase }, { on := 7, ground := Ground.phase }, { on := 8, ground := Ground.phase }, { on := 9, ground := Ground.phase }], guard := none }] true).wp Tryd.prog Q { tmps := #[.pointer (some ⟨g, 0, none⟩), x1, x2, x3, x4, x5, x6, x7, x8, x9, x10, x11, x12], defers := ds } A := by
  refine Code.wp_mono (Q := fun x a' w' => match x with | .normal => Q .normal a' w' | _ => False) (by intro x a' w' h; cases x <;> first | exact h | exact h.elim) ?_
  refine wp_region_held (S := fun V => Below A.heap.size A V) (by kernel_rfl) ?_
  have hS0 : Hid (Below A.heap.size A A.drew) := below_drew0 A
  change wpAnyH Tryd.prog .any _ _ (fun V => Below A.heap.size A V) 11 (Array.replicate 11 false) _ A.drew
  obtain ⟨V0, hV0⟩ : ∃ V0, A.drew = V0 := ⟨_, rfl⟩
  rw [hV0]
  rw [hV0] at hS0
  clear hV0
  refine wpAnyH_take (i := 0) (oi := { dst := some 3, op := Op.move (Operand.tmp 0), type := 72, pos := "reader.go:36", after := #[], guard := none }) (v := .pointer (some ⟨g, 0, none⟩)) rfl (by kernel_rfl) (by kernel_rfl) (by kernel_rfl) (fun _ _ _ h => h.elim) (Or.inl ⟨by rfl, ?y1⟩) hS0.out ?_
  case y1 =>
    intro V hV
    go_simp
  simp only [Act.put, List.setIfInBounds_toArray, List.set_cons_zero, List.set_cons_succ]
  refine wpAnyH_take (i := 1) (oi := { dst := some 4, op := Op.nilCheck (Operand.tmp 3), type := 0, pos := "reader.go:36", after := #[{ on := 0, ground := Ground.data }], guard := none }) (v := .pointer (some ⟨g, 0, none⟩)) rfl (by kernel_rfl) (by kernel_rfl) (by kernel_rfl) (fun _ _ _ h => h.elim) (Or.inl ⟨by rfl, ?y2⟩) hS0.out ?_
  case y2 =>
    intro V hV
    go_simp
  simp only [Act.put, List.setIfInBounds_toArray, List.set_cons_zero, List.set_cons_succ]
  refine wpAnyH_take (i := 2) (oi := { dst := some 5, op := Op.fieldAddr 55 (Operand.tmp 4) 1, type := 0, pos := "reader.go:36", after := #[{ on := 1, ground := Ground.data }], guard := none }) (v := .pointer (some ⟨g, 1, none⟩)) rfl (by kernel_rfl) (by kernel_rfl) (by kernel_rfl) (fun _ _ _ h => h.elim) (Or.inl ⟨by rfl, ?y3⟩) hS0.out ?_
  case y3 =>
    intro V hV
    go_simp
  simp only [Act.put, List.setIfInBounds_toArray, List.set_cons_zero, List.set_cons_succ]
  refine wpAnyH_take (i := 3) (oi := { dst := some 6, op := Op.load 3 (Operand.tmp 5), type := 3, pos := "reader.go:36", after := #[{ on := 2, ground := Ground.data }], guard := none }) (v := iv (p : Int)) rfl (by kernel_rfl) (by kernel_rfl) (by kernel_rfl) (fun _ _ _ h => h.elim) (Or.inl ⟨by rfl, ?y4⟩) hS0.out ?_
  case y4 =>
    intro V hV
    have hc : V.cell? ⟨g, 1, none⟩ = some (iv (p : Int)) := ((show Below A.heap.size A V from hV).cell (p := ⟨g, 1, none⟩) HL.out).trans c1
    go_simp
  simp only [Act.put, List.setIfInBounds_toArray, List.set_cons_zero, List.set_cons_succ]
  refine wpAnyH_take (i := 4) (oi := { dst := some 7, op := Op.move (Operand.tmp 0), type := 72, pos := "reader.go:36", after := #[], guard := none }) (v := .pointer (some ⟨g, 0, none⟩)) rfl (by kernel_rfl) (by kernel_rfl) (by kernel_rfl) (fun _ _ _ h => h.elim) (Or.inl ⟨by rfl, ?y5⟩) hS0.out ?_
  case y5 =>
    intro V hV
    go_simp
  simp only [Act.put, List.setIfInBounds_toArray, List.set_cons_zero, List.set_cons_succ]
  refine wpAnyH_take (i := 5) (oi := { dst := some 8, op := Op.nilCheck (Operand.tmp 7), type := 0, pos := "reader.go:36", after := #[{ on := 4, ground := Ground.data }], guard := none }) (v := .pointer (some ⟨g, 0, none⟩)) rfl (by kernel_rfl) (by kernel_rfl) (by kernel_rfl) (fun _ _ _ h => h.elim) (Or.inl ⟨by rfl, ?y6⟩) hS0.out ?_
  case y6 =>
    intro V hV
    go_simp
  simp only [Act.put, List.setIfInBounds_toArray, List.set_cons_zero, List.set_cons_succ]
  refine wpAnyH_take (i := 6) (oi := { dst := some 9, op := Op.fieldAddr 55 (Operand.tmp 8) 0, type := 0, pos := "reader.go:36", after := #[{ on := 5, ground := Ground.data }], guard := none }) (v := .pointer (some ⟨g, 0, none⟩)) rfl (by kernel_rfl) (by kernel_rfl) (by kernel_rfl) (fun _ _ _ h => h.elim) (Or.inl ⟨by rfl, ?y7⟩) hS0.out ?_
  case y7 =>
    intro V hV
    go_simp
  simp only [Act.put, List.setIfInBounds_toArray, List.set_cons_zero, List.set_cons_succ]
  refine wpAnyH_take (i := 7) (oi := { dst := some 10, op := Op.load 9 (Operand.tmp 9), type := 9, pos := "reader.go:36", after := #[{ on := 6, ground := Ground.data }], guard := none }) (v := .string s) rfl (by kernel_rfl) (by kernel_rfl) (by kernel_rfl) (fun _ _ _ h => h.elim) (Or.inl ⟨by rfl, ?y8⟩) hS0.out ?_
  case y8 =>
    intro V hV
    have hc : V.cell? ⟨g, 0, none⟩ = some (.string s) := ((show Below A.heap.size A V from hV).cell (p := ⟨g, 0, none⟩) HL.out).trans c0
    go_simp
  simp only [Act.put, List.setIfInBounds_toArray, List.set_cons_zero, List.set_cons_succ]
  refine wpAnyH_take (i := 8) (oi := { dst := some 11, op := Op.call { callee := Callee.builtin Builtin.len, args := #[Operand.tmp 10], argTypes := #[9] }, type := 3, pos := "reader.go:36", after := #[{ on := 7, ground := Ground.data }], guard := none }) (v := iv (s.size : Int)) rfl (by kernel_rfl) (by kernel_rfl) (by kernel_rfl) (fun _ _ _ h => h.elim) (Or.inl ⟨by rfl, ?y9⟩) hS0.out ?_
  case y9 =>
    intro V hV
    go_simp
  simp only [Act.put, List.setIfInBounds_toArray, List.set_cons_zero, List.set_cons_succ]
  refine wpAnyH_take (i := 9) (oi := { dst := some 12, op := Op.binOp BinOp.geq 3 (Operand.tmp 6) (Operand.tmp 11) 3, type := 4, pos := "reader.go:36", after := #[{ on := 3, ground := Ground.data }, { on := 8, ground := Ground.data }], guard := none }) (v := .bool false) rfl (by kernel_rfl) (by kernel_rfl) (by kernel_rfl) (fun _ _ _ h => h.elim) (Or.inl ⟨by rfl, ?y10⟩) hS0.out ?_
  case y10 =>
    intro V hV
    have hcmp := q1
    go_simp <;> omega
  simp only [Act.put, List.setIfInBounds_toArray, List.set_cons_zero, List.set_cons_succ]
  refine wpAnyH_take (i := 10) (oi := { dst := some 2, op := Op.assign (Operand.tmp 12), type := 4, pos := "reader.go:36", after := #[{ on := 9, ground := Ground.data }, { on := 0, ground := Ground.phase }, { on := 1, ground := Ground.phase }, { on := 2, ground := Ground.phase }, { on := 3, ground := Ground.phase }, { on := 4, ground := Ground.phase }, { on := 5, ground := Ground.phase }, { on := 6, ground := Ground.phase }, { on := 7, ground := Ground.phase }, { on := 8, ground := Ground.phase }, { on := 9, ground := Ground.phase }], guard := none }) (v := .bool false) rfl (by kernel_rfl) (by kernel_rfl) (by kernel_rfl) (fun _ _ _ h => h.elim) (Or.inl ⟨by rfl, ?y11⟩) hS0.out ?_
  case y11 =>
    intro V hV
    go_simp
  simp only [Act.put, List.setIfInBounds_toArray, List.set_cons_zero, List.set_cons_succ]
  refine wpAnyH_done (by kernel_rfl) ?_ _
  exact hQ V0 hS0.out
#print axioms ae39f
set_option maxRecDepth 100000 in
theorem atEnd_is {w : World} {g p : Nat} {s : BA} (h : Rd w g s p) (E : Bool) (hE : E = true ↔ s.size ≤ p) : Calls Tryd.prog 39 #[.pointer (some ⟨g, 0, none⟩)] w fun e w' => e = .returned (.bool E) ∧ Below w.heap.size w w' := by
  have HR : Hid (Rd w g s p) := h
  cases E
  · have q1 : (p : Int) < (s.size : Int) := by
      have : ¬ s.size ≤ p := fun h => by have := hE.2 h; cases this
      omega
    clear h hE
    go_enter Tryd.func39, Tryd.ntmps39
    go_wp2_with fail
    refine ae39f HR.out.1.lt HR.out.c0 HR.out.c1 q1 ?_
    intro V hV
    have HV : Hid (Below w.heap.size w V) := hV
    clear hV
    go_wp2
    go_ret
    exact ⟨rfl, HV.out⟩
  · have q1 : (s.size : Int) ≤ (p : Int) := by have := hE.1 rfl; omega
    clear h hE
    go_enter Tryd.func39, Tryd.ntmps39
    go_wp2_with fail
    refine ae39t HR.out.1.lt HR.out.c0 HR.out.c1 q1 ?_
    intro V hV
    have HV : Hid (Below w.heap.size w V) := hV
    clear hV
    go_wp2
    go_ret
    exact ⟨rfl, HV.out⟩
#print axioms atEnd_is
set_option maxRecDepth 100000 in
set_option maxHeartbeats 4000000 in
theorem ao40e {Q : Exit → Act → World → Prop} {x2 x3 x4 x5 x6 x7 x8 x9 x10 x11 x12 x13 x14 x15 x16 x17 x18 x19 x20 x21 : Value} {ds : List Deferred} {A : World} {g p : Nat} {s : BA} {st : BA}
    (HL : Hid (g < A.heap.size)) (c0 : A.cell? ⟨g, 0, none⟩ = some (.string s)) (c1 : A.cell? ⟨g, 1, none⟩ = some (iv (p : Int))) (H39 : Hid (∀ V, Below A.heap.size A V → Calls Tryd.prog 39 #[.pointer (some ⟨g, 0, none⟩)] V fun e V2 => e = .returned (.bool true) ∧ Below V.heap.size V V2))
    (hQ : ∀ V1, Below A.heap.size A V1 → Q .normal { tmps := #[.pointer (some ⟨g, 0, none⟩), .string st, x2, x3, .bool false, .pointer (some ⟨g, 0, none⟩), .bool true, .bool false, .bool false, undef, undef, undef, undef, undef, undef, undef, undef, undef, undef, undef, undef, .bool false], defers := ds } V1) :
    (Code.region 1 #[{ dst := some 5, op := Op.move (Operand.tmp 0), type := 72, pos := "reader.go:40", after := #[], guard := none }, { dst := some 6, op := Op.call { callee := Callee.value (Operand.func 39), args := #[Operand.tmp 5], argTypes := #[72] }, type := 4, pos := "reader.go:40", after := #[{ on := 0, ground := Ground.data }], guard := none }, { dst := some 7, op := Op.unOp UnOp.not 4 (Operand.tmp 6), type := 4, pos := "reader.go:40", after := #[{ on := 1, ground := Ground.data }], guard := none }, { dst := some 8, op := Op.move (Operand.tmp 7), type := 4, pos := "reader.go:40", after := #[{ on := 2, ground := Ground.data }, { on := 1, ground := Ground.chain }], guard := none }, { dst := some 9, op := Op.move (Operand.tmp 1), type := 9, pos := "reader.go:40", after := #[{ on := 3, ground := Ground.guard }], guard := some (3, true) }, { dst := some 10, op := Op.move (Operand.tmp 0), type := 72, pos := "reader.go:40", after := #[{ on := 3, ground := Ground.guard }], guard := some (3, true) }, { dst := some 11, op := Op.nilCheck (Operand.tmp 10), type := 0, pos := "reader.go:40", after := #[{ on := 5, ground := Ground.data }, { on := 3, ground := Ground.guard }], guard := some (3, true) }, { dst := some 12, op := Op.fieldAddr 55 (Operand.tmp 11) 0, type := 0, pos := "reader.go:40", after := #[{ on := 6, ground := Ground.data }, { on := 3, ground := Ground.guard }], guard := some (3, true) }, { dst := some 13, op := Op.load 9 (Operand.tmp 12), type := 9, pos := "reader.go:40", after := #[{ on := 7, ground := Ground.data }, { on := 3, ground := Ground.guard }], guard := some (3, true) }, { dst := some 14, op := Op.move (Operand.tmp 0), type := 72, pos := "reader.go:40", after := #[{ on := 3, ground := Ground.guard }], guard := some (3, true) }, { dst := some 15, op := Op.nilCheck (Operand.tmp 14), type := 0, pos := "reader.go:40", after := #[{ on := 9, ground := Ground.data }, { on := 3, ground := Ground.guard }], guard := some (3, true) }, { dst := some 16, op := Op.fieldAddr 55 (Operand.tmp 15) 1, type := 0, pos := "reader.go:40", after := #[{ on := 10, ground := Ground.data }, { on := 3, ground := Ground.guard }], guard := some (3, true) }, { dst := some 17, op := Op.load 3 (Operand.tmp 16), type := 3, pos := "reader.go:40", after := #[{ on := 11, ground := Ground.data }, { on := 3, ground := Ground.guard }], guard := some (3, true) }, { dst := some 18, op := Op.index 9 (Operand.tmp 13) (Operand.tmp 17), type := 5, pos := "reader.go:40", after := #[{ on := 8, ground := Ground.data }, { on := 12, ground := Ground.data }, { on := 3, ground := Ground.guard }], guard := some (3, true) }, { dst := some 19, op := Op.call { callee := Callee.value (Operand.func 49), args := #[Operand.tmp 9, Operand.tmp 18], argTypes := #[9, 5] }, type := 3, pos := "reader.go:40", after := #[{ on := 4, ground := Ground.data }, { on := 13, ground := Ground.data }, { on := 3, ground := Ground.chain }, { on := 3, ground := Ground.guard }], guard := some (3, true) }, { dst := some 20, op := Op.binOp BinOp.geq 3 (Operand.tmp 19) (Operand.const (Value.int IntKind.i64 0)) 3, type := 4, pos := "reader.go:40", after := #[{ on := 14, ground := Ground.data }, { on := 3, ground := Ground.guard }], guard := some (3, true) }, { dst := some 21, op := Op.pick (Operand.tmp 8) (Operand.tmp 20) (Operand.const (Value.bool false)), type := 4, pos := "reader.go:40", after := #[{ on := 3, ground := Ground.data }, { on := 15, ground := Ground.data }], guard := none }, { dst := some 4, op := Op.assign (Operand.tmp 21), type := 4, pos := "reader.go:40", after := #[{ on := 16, ground := Ground.data }, { on := 14, ground := Ground.chain }, { on := 0, ground := Ground.phase }, { on := 1, ground := Ground.phase }, { on := 2, ground := Ground.phase }, { on := 3, ground := Ground.phase }, { on := 4, ground := Ground.phase }, { on := 5, ground := Ground.phase }, { on := 6, ground := Ground.phase }, { on := 7, ground := Ground.phase }, { on := 8, ground := Ground.phase }, { on := 9, ground := Ground.phase }, { on := 10, ground := Ground.phase }, { on := 11, ground := Ground.phase }, { on := 12, ground := Ground.phase }, { on := 13, ground := Ground.phase }, { on := 14, ground := Ground.phase }, { on := 15, ground := Ground.phase }, { on := 16, ground := Ground.phase }], guard := none }] true).wp Tryd.prog Q { tmps := #[.pointer (some ⟨g, 0, none⟩), .string st, x2, x3, x4, x5, x6, x7, x8, x9, x10, x11, x12, x13, x14, x15, x16, x17, x18, x19, x20, x21], defers := ds } A := by
  refine Code.wp_mono (Q := fun x a' w' => match x with | .normal => Q .normal a' w' | _ => False) (by intro x a' w' h; cases x <;> first | exact h | exact h.elim) ?_
  refine wp_region_held (S := fun V => Below A.heap.size A V) (by kernel_rfl) ?_
  have hS0 : Hid (Below A.heap.size A A.drew) := below_drew0 A
  change wpAnyH Tryd.prog .any _ _ (fun V => Below A.heap.size A V) 18 (Array.replicate 18 false) _ A.drew
  obtain ⟨V0, hV0⟩ : ∃ V0, A.drew = V0 := ⟨_, rfl⟩
  rw [hV0]
  rw [hV0] at hS0
  clear hV0
  refine wpAnyH_take (i := 0) (oi := { dst := some 5, op := Op.move (Operand.tmp 0), type := 72, pos := "reader.go:40", after := #[], guard := none }) (v := .pointer (some ⟨g, 0, none⟩)) rfl (by kernel_rfl) (by kernel_rfl) (by kernel_rfl) (fun _ _ _ h => h.elim) (Or.inl ⟨by rfl, ?y1⟩) hS0.out ?_
  case y1 =>
    intro V hV
    go_simp
  simp only [Act.put, List.setIfInBounds_toArray, List.set_cons_zero, List.set_cons_succ]
  refine wpAnyH_ready (rs := [1]) (by kernel_rfl) (by simp) (AllReadyH.cons (i := 1) (o := { dst := some 6, op := Op.call { callee := Callee.value (Operand.func 39), args := #[Operand.tmp 5], argTypes := #[72] }, type := 4, pos := "reader.go:40", after := #[{ on := 0, ground := Ground.data }], guard := none }) rfl ?_ AllReadyH.nil)
  · intro K1 hK1
    rw [if_pos (by rfl)]
    have HC1 := H39.out V0 hS0.out
    go_wp2_with fail
    refine HC1.mono ?_
    rintro e V1 ⟨rfl, hb1⟩
    dsimp only
    clear HC1
    have hS1 : Hid (Below A.heap.size A V1) := hS0.out.trans (hb1.mono hS0.out.size)
    clear hb1
    refine hK1.out _ _ hS1.out ?_
    clear hK1
    intro _
    try simp only [Act.put, List.setIfInBounds_toArray, List.set_cons_zero, List.set_cons_succ]
    refine wpAnyH_take (i := 2) (oi := { dst := some 7, op := Op.unOp UnOp.not 4 (Operand.tmp 6), type := 4, pos := "reader.go:40", after := #[{ on := 1, ground := Ground.data }], guard := none }) (v := .bool false) rfl (by kernel_rfl) (by kernel_rfl) (by kernel_rfl) (fun _ _ _ h => h.elim) (Or.inl ⟨by rfl, ?y2⟩) hS1.out ?_
    case y2 =>
      intro V hV
      go_simp
    simp only [Act.put, List.setIfInBounds_toArray, List.set_cons_zero, List.set_cons_succ]
    refine wpAnyH_take (i := 3) (oi := { dst := some 8, op := Op.move (Operand.tmp 7), type := 4, pos := "reader.go:40", after := #[{ on := 2, ground := Ground.data }, { on := 1, ground := Ground.chain }], guard := none }) (v := .bool false) rfl (by kernel_rfl) (by kernel_rfl) (by kernel_rfl) (fun _ _ _ h => h.elim) (Or.inl ⟨by rfl, ?y3⟩) hS1.out ?_
    case y3 =>
      intro V hV
      go_simp
    simp only [Act.put, List.setIfInBounds_toArray, List.set_cons_zero, List.set_cons_succ]
    refine wpAnyH_take (i := 4) (oi := { dst := some 9, op := Op.move (Operand.tmp 1), type := 9, pos := "reader.go:40", after := #[{ on := 3, ground := Ground.guard }], guard := some (3, true) }) (v := undef) rfl (by kernel_rfl) (by kernel_rfl) (by kernel_rfl) (fun _ _ _ h => h.elim) (Or.inr ⟨by rfl, rfl⟩) hS1.out ?_
    simp only [Act.put, List.setIfInBounds_toArray, List.set_cons_zero, List.set_cons_succ]
    refine wpAnyH_take (i := 5) (oi := { dst := some 10, op := Op.move (Operand.tmp 0), type := 72, pos := "reader.go:40", after := #[{ on := 3, ground := Ground.guard }], guard := some (3, true) }) (v := undef) rfl (by kernel_rfl) (by kernel_rfl) (by kernel_rfl) (fun _ _ _ h => h.elim) (Or.inr ⟨by rfl, rfl⟩) hS1.out ?_
    simp only [Act.put, List.setIfInBounds_toArray, List.set_cons_zero, List.set_cons_succ]
    refine wpAnyH_take (i := 6) (oi := { dst := some 11, op := Op.nilCheck (Operand.tmp 10), type := 0, pos := "reader.go:40", after := #[{ on := 5, ground := Ground.data }, { on := 3, ground := Ground.guard }], guard := some (3, true) }) (v := undef) rfl (by kernel_rfl) (by kernel_rfl) (by kernel_rfl) (fun _ _ _ h => h.elim) (Or.inr ⟨by rfl, rfl⟩) hS1.out ?_
    simp only [Act.put, List.setIfInBounds_toArray, List.set_cons_zero, List.set_cons_succ]
    refine wpAnyH_take (i := 7) (oi := { dst := some 12, op := Op.fieldAddr 55 (Operand.tmp 11) 0, type := 0, pos := "reader.go:40", after := #[{ on := 6, ground := Ground.data }, { on := 3, ground := Ground.guard }], guard := some (3, true) }) (v := undef) rfl (by kernel_rfl) (by kernel_rfl) (by kernel_rfl) (fun _ _ _ h => h.elim) (Or.inr ⟨by rfl, rfl⟩) hS1.out ?_
    simp only [Act.put, List.setIfInBounds_toArray, List.set_cons_zero, List.set_cons_succ]
    refine wpAnyH_take (i := 8) (oi := { dst := some 13, op := Op.load 9 (Operand.tmp 12), type := 9, pos := "reader.go:40", after := #[{ on := 7, ground := Ground.data }, { on := 3, ground := Ground.guard }], guard := some (3, true) }) (v := undef) rfl (by kernel_rfl) (by kernel_rfl) (by kernel_rfl) (fun _ _ _ h => h.elim) (Or.inr ⟨by rfl, rfl⟩) hS1.out ?_
    simp only [Act.put, List.setIfInBounds_toArray, List.set_cons_zero, List.set_cons_succ]
    refine wpAnyH_take (i := 9) (oi := { dst := some 14, op := Op.move (Operand.tmp 0), type := 72, pos := "reader.go:40", after := #[{ on := 3, ground := Ground.guard }], guard := some (3, true) }) (v := undef) rfl (by kernel_rfl) (by kernel_rfl) (by kernel_rfl) (fun _ _ _ h => h.elim) (Or.inr ⟨by rfl, rfl⟩) hS1.out ?_
    simp only [Act.put, List.setIfInBounds_toArray, List.set_cons_zero, List.set_cons_succ]
    refine wpAnyH_take (i := 10) (oi := { dst := some 15, op := Op.nilCheck (Operand.tmp 14), type := 0, pos := "reader.go:40", after := #[{ on := 9, ground := Ground.data }, { on := 3, ground := Ground.guard }], guard := some (3, true) }) (v := undef) rfl (by kernel_rfl) (by kernel_rfl) (by kernel_rfl) (fun _ _ _ h => h.elim) (Or.inr ⟨by rfl, rfl⟩) hS1.out ?_
    simp only [Act.put, List.setIfInBounds_toArray, List.set_cons_zero, List.set_cons_succ]
    refine wpAnyH_take (i := 11) (oi := { dst := some 16, op := Op.fieldAddr 55 (Operand.tmp 15) 1, type := 0, pos := "reader.go:40", after := #[{ on := 10, ground := Ground.data }, { on := 3, ground := Ground.guard }], guard := some (3, true) }) (v := undef) rfl (by kernel_rfl) (by kernel_rfl) (by kernel_rfl) (fun _ _ _ h => h.elim) (Or.inr ⟨by rfl, rfl⟩) hS1.out ?_
    simp only [Act.put, List.setIfInBounds_toArray, List.set_cons_zero, List.set_cons_succ]
    refine wpAnyH_take (i := 12) (oi := { dst := some 17, op := Op.load 3 (Operand.tmp 16), type := 3, pos := "reader.go:40", after := #[{ on := 11, ground := Ground.data }, { on := 3, ground := Ground.guard }], guard := some (3, true) }) (v := undef) rfl (by kernel_rfl) (by kernel_rfl) (by kernel_rfl) (fun _ _ _ h => h.elim) (Or.inr ⟨by rfl, rfl⟩) hS1.out ?_
    simp only [Act.put, List.setIfInBounds_toArray, List.set_cons_zero, List.set_cons_succ]
    refine wpAnyH_take (i := 13) (oi := { dst := some 18, op := Op.index 9 (Operand.tmp 13) (Operand.tmp 17), type := 5, pos := "reader.go:40", after := #[{ on := 8, ground := Ground.data }, { on := 12, ground := Ground.data }, { on := 3, ground := Ground.guard }], guard := some (3, true) }) (v := undef) rfl (by kernel_rfl) (by kernel_rfl) (by kernel_rfl) (fun _ _ _ h => h.elim) (Or.inr ⟨by rfl, rfl⟩) hS1.out ?_
    simp only [Act.put, List.setIfInBounds_toArray, List.set_cons_zero, List.set_cons_succ]
    refine wpAnyH_take (i := 14) (oi := { dst := some 19, op := Op.call { callee := Callee.value (Operand.func 49), args := #[Operand.tmp 9, Operand.tmp 18], argTypes := #[9, 5] }, type := 3, pos := "reader.go:40", after := #[{ on := 4, ground := Ground.data }, { on := 13, ground := Ground.data }, { on := 3, ground := Ground.chain }, { on := 3, ground := Ground.guard }], guard := some (3, true) }) (v := undef) rfl (by kernel_rfl) (by kernel_rfl) (by kernel_rfl) (fun _ _ _ h => h.elim) (Or.inr ⟨by rfl, rfl⟩) hS1.out ?_
    simp only [Act.put, List.setIfInBounds_toArray, List.set_cons_zero, List.set_cons_succ]
    refine wpAnyH_take (i := 15) (oi := { dst := some 20, op := Op.binOp BinOp.geq 3 (Operand.tmp 19) (Operand.const (Value.int IntKind.i64 0)) 3, type := 4, pos := "reader.go:40", after := #[{ on := 14, ground := Ground.data }, { on := 3, ground := Ground.guard }], guard := some (3, true) }) (v := undef) rfl (by kernel_rfl) (by kernel_rfl) (by kernel_rfl) (fun _ _ _ h => h.elim) (Or.inr ⟨by rfl, rfl⟩) hS1.out ?_
    simp only [Act.put, List.setIfInBounds_toArray, List.set_cons_zero, List.set_cons_succ]
    refine wpAnyH_take (i := 16) (oi := { dst := some 21, op := Op.pick (Operand.tmp 8) (Operand.tmp 20) (Operand.const (Value.bool false)), type := 4, pos := "reader.go:40", after := #[{ on := 3, ground := Ground.data }, { on := 15, ground := Ground.data }], guard := none }) (v := .bool false) rfl (by kernel_rfl) (by kernel_rfl) (by kernel_rfl) (fun _ _ _ h => h.elim) (Or.inl ⟨by rfl, ?y4⟩) hS1.out ?_
    case y4 =>
      intro V hV
      go_simp
    simp only [Act.put, List.setIfInBounds_toArray, List.set_cons_zero, List.set_cons_succ]
    refine wpAnyH_take (i := 17) (oi := { dst := some 4, op := Op.assign (Operand.tmp 21), type := 4, pos := "reader.go:40", after := #[{ on := 16, ground := Ground.data }, { on := 14, ground := Ground.chain }, { on := 0, ground := Ground.phase }, { on := 1, ground := Ground.phase }, { on := 2, ground := Ground.phase }, { on := 3, ground := Ground.phase }, { on := 4, ground := Ground.phase }, { on := 5, ground := Ground.phase }, { on := 6, ground := Ground.phase }, { on := 7, ground := Ground.phase }, { on := 8, ground := Ground.phase }, { on := 9, ground := Ground.phase }, { on := 10, ground := Ground.phase }, { on := 11, ground := Ground.phase }, { on := 12, ground := Ground.phase }, { on := 13, ground := Ground.phase }, { on := 14, ground := Ground.phase }, { on := 15, ground := Ground.phase }, { on := 16, ground := Ground.phase }], guard := none }) (v := .bool false) rfl (by kernel_rfl) (by kernel_rfl) (by kernel_rfl) (fun _ _ _ h => h.elim) (Or.inl ⟨by rfl, ?y5⟩) hS1.out ?_
    case y5 =>
      intro V hV
      go_simp
    simp only [Act.put, List.setIfInBounds_toArray, List.set_cons_zero, List.set_cons_succ]
    refine wpAnyH_done (by kernel_rfl) ?_ _
    exact hQ V1 hS1.out
#print axioms ao40e
set_option maxRecDepth 100000 in
set_option maxHeartbeats 4000000 in
theorem ao40t {Q : Exit → Act → World → Prop} {x2 x3 x4 x5 x6 x7 x8 x9 x10 x11 x12 x13 x14 x15 x16 x17 x18 x19 x20 x21 : Value} {ds : List Deferred} {A : World} {g p : Nat} {s : BA} {st : BA} {b : UInt8} {k : Int}
    (HL : Hid (g < A.heap.size)) (c0 : A.cell? ⟨g, 0, none⟩ = some (.string s)) (c1 : A.cell? ⟨g, 1, none⟩ = some (iv (p : Int))) (H39 : Hid (∀ V, Below A.heap.size A V → Calls Tryd.prog 39 #[.pointer (some ⟨g, 0, none⟩)] V fun e V2 => e = .returned (.bool false) ∧ Below V.heap.size V V2)) (H49 : Hid (∀ V, Below A.heap.size A V → Calls Tryd.prog 49 #[.string st, bv (b.toNat : Int)] V fun e V2 => e = .returned (iv k) ∧ Below V.heap.size V V2)) (HB : Hid (s.data.toList[p]? = some b)) (q1 : 0 ≤ k)
    (hQ : ∀ V1, Below A.heap.size A V1 → Q .normal { tmps := #[.pointer (some ⟨g, 0, none⟩), .string st, x2, x3, .bool true, .pointer (some ⟨g, 0, none⟩), .bool false, .bool true, .bool true, .string st, .pointer (some ⟨g, 0, none⟩), .pointer (some ⟨g, 0, none⟩), .pointer (some ⟨g, 0, none⟩), .string s, .pointer (some ⟨g, 0, none⟩), .pointer (some ⟨g, 0, none⟩), .pointer (some ⟨g, 1, none⟩), iv (p : Int), bv (b.toNat : Int), iv k, .bool true, .bool true], defers := ds } V1) :
    (Code.region 1 #[{ dst := some 5, op := Op.move (Operand.tmp 0), type := 72, pos := "reader.go:40", after := #[], guard := none }, { dst := some 6, op := Op.call { callee := Callee.value (Operand.func 39), args := #[Operand.tmp 5], argTypes := #[72] }, type := 4, pos := "reader.go:40", after := #[{ on := 0, ground := Ground.data }], guard := none }, { dst := some 7, op := Op.unOp UnOp.not 4 (Operand.tmp 6), type := 4, pos := "reader.go:40", after := #[{ on := 1, ground := Ground.data }], guard := none }, { dst := some 8, op := Op.move (Operand.tmp 7), type := 4, pos := "reader.go:40", after := #[{ on := 2, ground := Ground.data }, { on := 1, ground := Ground.chain }], guard := none }, { dst := some 9, op := Op.move (Operand.tmp 1), type := 9, pos := "reader.go:40", after := #[{ on := 3, ground := Ground.guard }], guard := some (3, true) }, { dst := some 10, op := Op.move (Operand.tmp 0), type := 72, pos := "reader.go:40", after := #[{ on := 3, ground := Ground.guard }], guard := some (3, true) }, { dst := some 11, op := Op.nilCheck (Operand.tmp 10), type := 0, pos := "reader.go:40", after := #[{ on := 5, ground := Ground.data }, { on := 3, ground := Ground.guard }], guard := some (3, true) }, { dst := some 12, op := Op.fieldAddr 55 (Operand.tmp 11) 0, type := 0, pos := "reader.go:40", after := #[{ on := 6, ground := Ground.data }, { on := 3, ground := Ground.guard }], guard := some (3, true) }, { dst := some 13, op := Op.load 9 (Operand.tmp 12), type := 9, pos := "reader.go:40", after := #[{ on := 7, ground := Ground.data }, { on := 3, ground := Ground.guard }], guard := some (3, true) }, { dst := some 14, op := Op.move (Operand.tmp 0), type := 72, pos := "reader.go:40", after := #[{ on := 3, ground := Ground.guard }], guard := some (3, true) }, { dst := some 15, op := Op.nilCheck (Operand.tmp 14), type := 0, pos := "reader.go:40", after := #[{ on := 9, ground := Ground.data }, { on := 3, ground := Ground.guard }], guard := some (3, true) }, { dst := some 16, op := Op.fieldAddr 55 (Operand.tmp 15) 1, type := 0, pos := "reader.go:40", after := #[{ on := 10, ground := Ground.data }, { on := 3, ground := Ground.guard }], guard := some (3, true) }, { dst := some 17, op := Op.load 3 (Operand.tmp 16), type := 3, pos := "reader.go:40", after := #[{ on := 11, ground := Ground.data }, { on := 3, ground := Ground.guard }], guard := some (3, true) }, { dst := some 18, op := Op.index 9 (Operand.tmp 13) (Operand.tmp 17), type := 5, pos := "reader.go:40", after := #[{ on := 8, ground := Ground.data }, { on := 12, ground := Ground.data }, { on := 3, ground := Ground.guard }], guard := some (3, true) }, { dst := some 19, op := Op.call { callee := Callee.value (Operand.func 49), args := #[Operand.tmp 9, Operand.tmp 18], argTypes := #[9, 5] }, type := 3, pos := "reader.go:40", after := #[{ on := 4, ground := Ground.data }, { on := 13, ground := Ground.data }, { on := 3, ground := Ground.chain }, { on := 3, ground := Ground.guard }], guard := some (3, true) }, { dst := some 20, op := Op.binOp BinOp.geq 3 (Operand.tmp 19) (Operand.const (Value.int IntKind.i64 0)) 3, type := 4, pos := "reader.go:40", after := #[{ on := 14, ground := Ground.data }, { on := 3, ground := Ground.guard }], guard := some (3, true) }, { dst := some 21, op := Op.pick (Operand.tmp 8) (Operand.tmp 20) (Operand.const (Value.bool false)), type := 4, pos := "reader.go:40", after := #[{ on := 3, ground := Ground.data }, { on := 15, ground := Ground.data }], guard := none }, { dst := some 4, op := Op.assign (Operand.tmp 21), type := 4, pos := "reader.go:40", after := #[{ on := 16, ground := Ground.data }, { on := 14, ground := Ground.chain }, { on := 0, ground := Ground.phase }, { on := 1, ground := Ground.phase }, { on := 2, ground := Ground.phase }, { on := 3, ground := Ground.phase }, { on := 4, ground := Ground.phase }, { on := 5, ground := Ground.phase }, { on := 6, ground := Ground.phase }, { on := 7, ground := Ground.phase }, { on := 8, ground := Ground.phase }, { on := 9, ground := Ground.phase }, { on := 10, ground := Ground.phase }, { on := 11, ground := Ground.phase }, { on := 12, ground := Ground.phase }, { on := 13, ground := Ground.phase }, { on := 14, ground := Ground.phase }, { on := 15, ground := Ground.phase }, { on := 16, ground := Ground.phase }], guard := none }] true).wp Tryd.prog Q { tmps := #[.pointer (some ⟨g, 0, none⟩), .string st, x2, x3, x4, x5, x6, x7, x8, x9, x10, x11, x12, x13, x14, x15, x16, x17, x18, x19, x20, x21], defers := ds } A := by
  refine Code.wp_mono (Q := fun x a' w' => match x with | .normal => Q .normal a' w' | _ => False) (by intro x a' w' h; cases x <;> first | exact h | exact h.elim) ?_
  refine wp_region_held (S := fun V => Below A.heap.size A V) (by kernel_rfl) ?_
  have hS0 : Hid (Below A.heap.size A A.drew) := below_drew0 A
  change wpAnyH Tryd.prog .any _ _ (fun V => Below A.heap.size A V) 18 (Array.replicate 18 false) _ A.drew
  obtain ⟨V0, hV0⟩ : ∃ V0, A.drew = V0 := ⟨_, rfl⟩
  rw [hV0]
  rw [hV0] at hS0
  clear hV0
  refine wpAnyH_take (i := 0) (oi := { dst := some 5, op := Op.move (Operand.tmp 0), type := 72, pos := "reader.go:40", after := #[], guard := none }) (v := .pointer (some ⟨g, 0, none⟩)) rfl (by kernel_rfl) (by kernel_rfl) (by kernel_rfl) (fun _ _ _ h => h.elim) (Or.inl ⟨by rfl, ?y1⟩) hS0.out ?_
  case y1 =>
    intro V hV
    go_simp
  simp only [Act.put, List.setIfInBounds_toArray, List.set_cons_zero, List.set_cons_succ]
  refine wpAnyH_ready (rs := [1]) (by kernel_rfl) (by simp) (AllReadyH.cons (i := 1) (o := { dst := some 6, op := Op.call { callee := Callee.value (Operand.func 39), args := #[Operand.tmp 5], argTypes := #[72] }, type := 4, pos := "reader.go:40", after := #[{ on := 0, ground := Ground.data }], guard := none }) rfl ?_ AllReadyH.nil)
  · intro K1 hK1
    rw [if_pos (by rfl)]
    have HC1 := H39.out V0 hS0.out
    go_wp2_with fail
    refine HC1.mono ?_
    rintro e V1 ⟨rfl, hb1⟩
    dsimp only
    clear HC1
    have hS1 : Hid (Below A.heap.size A V1) := hS0.out.trans (hb1.mono hS0.out.size)
    clear hb1
    refine hK1.out _ _ hS1.out ?_
    clear hK1
    intro _
    try simp only [Act.put, List.setIfInBounds_toArray, List.set_cons_zero, List.set_cons_succ]
    refine wpAnyH_take (i := 2) (oi := { dst := some 7, op := Op.unOp UnOp.not 4 (Operand.tmp 6), type := 4, pos := "reader.go:40", after := #[{ on := 1, ground := Ground.data }], guard := none }) (v := .bool true) rfl (by kernel_rfl) (by kernel_rfl) (by kernel_rfl) (fun _ _ _ h => h.elim) (Or.inl ⟨by rfl, ?y2⟩) hS1.out ?_
    case y2 =>
      intro V hV
      go_simp
    simp only [Act.put, List.setIfInBounds_toArray, List.set_cons_zero, List.set_cons_succ]
    refine wpAnyH_take (i := 3) (oi := { dst := some 8, op := Op.move (Operand.tmp 7), type := 4, pos := "reader.go:40", after := #[{ on := 2, ground := Ground.data }, { on := 1, ground := Ground.chain }], guard := none }) (v := .bool true) rfl (by kernel_rfl) (by kernel_rfl) (by kernel_rfl) (fun _ _ _ h => h.elim) (Or.inl ⟨by rfl, ?y3⟩) hS1.out ?_
    case y3 =>
      intro V hV
      go_simp
    simp only [Act.put, List.setIfInBounds_toArray, List.set_cons_zero, List.set_cons_succ]
    refine wpAnyH_take (i := 4) (oi := { dst := some 9, op := Op.move (Operand.tmp 1), type := 9, pos := "reader.go:40", after := #[{ on := 3, ground := Ground.guard }], guard := some (3, true) }) (v := .string st) rfl (by kernel_rfl) (by kernel_rfl) (by kernel_rfl) (fun _ _ _ h => h.elim) (Or.inl ⟨by rfl, ?y4⟩) hS1.out ?_
    case y4 =>
      intro V hV
      go_simp
    simp only [Act.put, List.setIfInBounds_toArray, List.set_cons_zero, List.set_cons_succ]
    refine wpAnyH_take (i := 5) (oi := { dst := some 10, op := Op.move (Operand.tmp 0), type := 72, pos := "reader.go:40", after := #[{ on := 3, ground := Ground.guard }], guard := some (3, true) }) (v := .pointer (some ⟨g, 0, none⟩)) rfl (by kernel_rfl) (by kernel_rfl) (by kernel_rfl) (fun _ _ _ h => h.elim) (Or.inl ⟨by rfl, ?y5⟩) hS1.out ?_
    case y5 =>
      intro V hV
      go_simp
    simp only [Act.put, List.setIfInBounds_toArray, List.set_cons_zero, List.set_cons_succ]
    refine wpAnyH_take (i := 6) (oi := { dst := some 11, op := Op.nilCheck (Operand.tmp 10), type := 0, pos := "reader.go:40", after := #[{ on := 5, ground := Ground.data }, { on := 3, ground := Ground.guard }], guard := some (3, true) }) (v := .pointer (some ⟨g, 0, none⟩)) rfl (by kernel_rfl) (by kernel_rfl) (by kernel_rfl) (fun _ _ _ h => h.elim) (Or.inl ⟨by rfl, ?y6⟩) hS1.out ?_
    case y6 =>
      intro V hV
      go_simp
    simp only [Act.put, List.setIfInBounds_toArray, List.set_cons_zero, List.set_cons_succ]
    refine wpAnyH_take (i := 7) (oi := { dst := some 12, op := Op.fieldAddr 55 (Operand.tmp 11) 0, type := 0, pos := "reader.go:40", after := #[{ on := 6, ground := Ground.data }, { on := 3, ground := Ground.guard }], guard := some (3, true) }) (v := .pointer (some ⟨g, 0, none⟩)) rfl (by kernel_rfl) (by kernel_rfl) (by kernel_rfl) (fun _ _ _ h => h.elim) (Or.inl ⟨by rfl, ?y7⟩) hS1.out ?_
    case y7 =>
      intro V hV
      go_simp
    simp only [Act.put, List.setIfInBounds_toArray, List.set_cons_zero, List.set_cons_succ]
    refine wpAnyH_take (i := 8) (oi := { dst := some 13, op := Op.load 9 (Operand.tmp 12), type := 9, pos := "reader.go:40", after := #[{ on := 7, ground := Ground.data }, { on := 3, ground := Ground.guard }], guard := some (3, true) }) (v := .string s) rfl (by kernel_rfl) (by kernel_rfl) (by kernel_rfl) (fun _ _ _ h => h.elim) (Or.inl ⟨by rfl, ?y8⟩) hS1.out ?_
    case y8 =>
      intro V hV
      have hc : V.cell? ⟨g, 0, none⟩ = some (.string s) := ((show Below A.heap.size A V from hV).cell (p := ⟨g, 0, none⟩) HL.out).trans c0
      go_simp
    simp only [Act.put, List.setIfInBounds_toArray, List.set_cons_zero, List.set_cons_succ]
    refine wpAnyH_take (i := 9) (oi := { dst := some 14, op := Op.move (Operand.tmp 0), type := 72, pos := "reader.go:40", after := #[{ on := 3, ground := Ground.guard }], guard := some (3, true) }) (v := .pointer (some ⟨g, 0, none⟩)) rfl (by kernel_rfl) (by kernel_rfl) (by kernel_rfl) (fun _ _ _ h => h.elim) (Or.inl ⟨by rfl, ?y9⟩) hS1.out ?_
    case y9 =>
      intro V hV
      go_simp
    simp only [Act.put, List.setIfInBounds_toArray, List.set_cons_zero, List.set_cons_succ]
    refine wpAnyH_take (i := 10) (oi := { dst := some 15, op := Op.nilCheck (Operand.tmp 14), type := 0, pos := "reader.go:40", after := #[{ on := 9, ground := Ground.data }, { on := 3, ground := Ground.guard }], guard := some (3, true) }) (v := .pointer (some ⟨g, 0, none⟩)) rfl (by kernel_rfl) (by kernel_rfl) (by kernel_rfl) (fun _ _ _ h => h.elim) (Or.inl ⟨by rfl, ?y10⟩) hS1.out ?_
    case y10 =>
      intro V hV
      go_simp
    simp only [Act.put, List.setIfInBounds_toArray, List.set_cons_zero, List.set_cons_succ]
    refine wpAnyH_take (i := 11) (oi := { dst := some 16, op := Op.fieldAddr 55 (Operand.tmp 15) 1, type := 0, pos := "reader.go:40", after := #[{ on := 10, ground := Ground.data }, { on := 3, ground := Ground.guard }], guard := some (3, true) }) (v := .pointer (some ⟨g, 1, none⟩)) rfl (by kernel_rfl) (by kernel_rfl) (by kernel_rfl) (fun _ _ _ h => h.elim) (Or.inl ⟨by rfl, ?y11⟩) hS1.out ?_
    case y11 =>
      intro V hV
      go_simp
    simp only [Act.put, List.setIfInBounds_toArray, List.set_cons_zero, List.set_cons_succ]
    refine wpAnyH_take (i := 12) (oi := { dst := some 17, op := Op.load 3 (Operand.tmp 16), type := 3, pos := "reader.go:40", after := #[{ on := 11, ground := Ground.data }, { on := 3, ground := Ground.guard }], guard := some (3, true) }) (v := iv (p : Int)) rfl (by kernel_rfl) (by kernel_rfl) (by kernel_rfl) (fun _ _ _ h => h.elim) (Or.inl ⟨by rfl, ?y12⟩) hS1.out ?_
    case y12 =>
      intro V hV
      have hc : V.cell? ⟨g, 1, none⟩ = some (iv (p : Int)) := ((show Below A.heap.size A V from hV).cell (p := ⟨g, 1, none⟩) HL.out).trans c1
      go_simp
    simp only [Act.put, List.setIfInBounds_toArray, List.set_cons_zero, List.set_cons_succ]
    refine wpAnyH_take (i := 13) (oi := { dst := some 18, op := Op.index 9 (Operand.tmp 13) (Operand.tmp 17), type := 5, pos := "reader.go:40", after := #[{ on := 8, ground := Ground.data }, { on := 12, ground := Ground.data }, { on := 3, ground := Ground.guard }], guard := some (3, true) }) (v := bv (b.toNat : Int)) rfl (by kernel_rfl) (by kernel_rfl) (by kernel_rfl) (fun _ _ _ h => h.elim) (Or.inl ⟨by rfl, ?y13⟩) hS1.out ?_
    case y13 =>
      intro V hV
      exact yl_idx V _ _ s p b rfl rfl rfl HB.out
    simp only [Act.put, List.setIfInBounds_toArray, List.set_cons_zero, List.set_cons_succ]
    refine wpAnyH_ready (rs := [14]) (by kernel_rfl) (by simp) (AllReadyH.cons (i := 14) (o := { dst := some 19, op := Op.call { callee := Callee.value (Operand.func 49), args := #[Operand.tmp 9, Operand.tmp 18], argTypes := #[9, 5] }, type := 3, pos := "reader.go:40", after := #[{ on := 4, ground := Ground.data }, { on := 13, ground := Ground.data }, { on := 3, ground := Ground.chain }, { on := 3, ground := Ground.guard }], guard := some (3, true) }) rfl ?_ AllReadyH.nil)
    · intro K1 hK1
      rw [if_pos (by rfl)]
      have HC2 := H49.out V1 hS1.out
      go_wp2_with fail
      refine HC2.mono ?_
      rintro e V2 ⟨rfl, hb2⟩
      dsimp only
      clear HC2
      have hS2 : Hid (Below A.heap.size A V2) := hS1.out.trans (hb2.mono hS1.out.size)
      clear hb2
      refine hK1.out _ _ hS2.out ?_
      clear hK1
      intro _
      try simp only [Act.put, List.setIfInBounds_toArray, List.set_cons_zero, List.set_cons_succ]
      refine wpAnyH_take (i := 15) (oi := { dst := some 20, op := Op.binOp BinOp.geq 3 (Operand.tmp 19) (Operand.const (Value.int IntKind.i64 0)) 3, type := 4, pos := "reader.go:40", after := #[{ on := 14, ground := Ground.data }, { on := 3, ground := Ground.guard }], guard := some (3, true) }) (v := .bool true) rfl (by kernel_rfl) (by kernel_rfl) (by kernel_rfl) (fun _ _ _ h => h.elim) (Or.inl ⟨by rfl, ?y14⟩) hS2.out ?_
      case y14 =>
        intro V hV
        have hcmp := q1
        go_simp
      simp only [Act.put, List.setIfInBounds_toArray, List.set_cons_zero, List.set_cons_succ]
      refine wpAnyH_take (i := 16) (oi := { dst := some 21, op := Op.pick (Operand.tmp 8) (Operand.tmp 20) (Operand.const (Value.bool false)), type := 4, pos := "reader.go:40", after := #[{ on := 3, ground := Ground.data }, { on := 15, ground := Ground.data }], guard := none }) (v := .bool true) rfl (by kernel_rfl) (by kernel_rfl) (by kernel_rfl) (fun _ _ _ h => h.elim) (Or.inl ⟨by rfl, ?y15⟩) hS2.out ?_
      case y15 =>
        intro V hV
        go_simp
      simp only [Act.put, List.setIfInBounds_toArray, List.set_cons_zero, List.set_cons_succ]
      refine wpAnyH_take (i := 17) (oi := { dst := some 4, op := Op.assign (Operand.tmp 21), type := 4, pos := "reader.go:40", after := #[{ on := 16, ground := Ground.data }, { on := 14, ground := Ground.chain }, { on := 0, ground := Ground.phase }, { on := 1, ground := Ground.phase }, { on := 2, ground := Ground.phase }, { on := 3, ground := Ground.phase }, { on := 4, ground := Ground.phase }, { on := 5, ground := Ground.phase }, { on := 6, ground := Ground.phase }, { on := 7, ground := Ground.phase }, { on := 8, ground := Ground.phase }, { on := 9, ground := Ground.phase }, { on := 10, ground := Ground.phase }, { on := 11, ground := Ground.phase }, { on := 12, ground := Ground.phase }, { on := 13, ground := Ground.phase }, { on := 14, ground := Ground.phase }, { on := 15, ground := Ground.phase }, { on := 16, ground := Ground.phase }], guard := none }) (v := .bool true) rfl (by kernel_rfl) (by kernel_rfl) (by kernel_rfl) (fun _ _ _ h => h.elim) (Or.inl ⟨by rfl, ?y16⟩) hS2.out ?_
      case y16 =>
        intro V hV
        go_simp
      simp only [Act.put, List.setIfInBounds_toArray, List.set_cons_zero, List.set_cons_succ]
      refine wpAnyH_done (by kernel_rfl) ?_ _
      exact hQ V2 hS2.out
#print axioms ao40t
set_option maxRecDepth 100000 in
set_option maxHeartbeats 4000000 in
theorem ao40f {Q : Exit → Act → World → Prop} {x2 x3 x4 x5 x6 x7 x8 x9 x10 x11 x12 x13 x14 x15 x16 x17 x18 x19 x20 x21 : Value} {ds : List Deferred} {A : World} {g p : Nat} {s : BA} {st : BA} {b : UInt8} {k : Int}
    (HL : Hid (g < A.heap.size)) (c0 : A.cell? ⟨g, 0, none⟩ = some (.string s)) (c1 : A.cell? ⟨g, 1, none⟩ = some (iv (p : Int))) (H39 : Hid (∀ V, Below A.heap.size A V → Calls Tryd.prog 39 #[.pointer (some ⟨g, 0, none⟩)] V fun e V2 => e = .returned (.bool false) ∧ Below V.heap.size V V2)) (H49 : Hid (∀ V, Below A.heap.size A V → Calls Tryd.prog 49 #[.string st, bv (b.toNat : Int)] V fun e V2 => e = .returned (iv k) ∧ Below V.heap.size V V2)) (HB : Hid (s.data.toList[p]? = some b)) (q1 : k < 0)
    (hQ : ∀ V1, Below A.heap.size A V1 → Q .normal { tmps := #[.pointer (some ⟨g, 0, none⟩), .string st, x2, x3, .bool false, .pointer (some ⟨g, 0, none⟩), .bool false, .bool true, .bool true, .string st, .pointer (some ⟨g, 0, none⟩), .pointer (some ⟨g, 0, none⟩), .pointer (some ⟨g, 0, none⟩), .string s, .pointer (some ⟨g, 0, none⟩), .pointer (some ⟨g, 0, none⟩), .pointer (some ⟨g, 1, none⟩), iv (p : Int), bv (b.toNat : Int), iv k, .bool false, .bool false], defers := ds } V1) :
    (Code.region 1 #[{ dst := some 5, op := Op.move (Operand.tmp 0), type := 72, pos := "reader.go:40", after := #[], guard := none }, { dst := some 6, op := Op.call { callee := Callee.value (Operand.func 39), args := #[Operand.tmp 5], argTypes := #[72] }, type := 4, pos := "reader.go:40", after := #[{ on := 0, ground := Ground.data }], guard := none }, { dst := some 7, op := Op.unOp UnOp.not 4 (Operand.tmp 6), type := 4, pos := "reader.go:40", after := #[{ on := 1, ground := Ground.data }], guard := none }, { dst := some 8, op := Op.move (Operand.tmp 7), type := 4, pos := "reader.go:40", after := #[{ on := 2, ground := Ground.data }, { on := 1, ground := Ground.chain }], guard := none }, { dst := some 9, op := Op.move (Operand.tmp 1), type := 9, pos := "reader.go:40", after := #[{ on := 3, ground := Ground.guard }], guard := some (3, true) }, { dst := some 10, op := Op.move (Operand.tmp 0), type := 72, pos := "reader.go:40", after := #[{ on := 3, ground := Ground.guard }], guard := some (3, true) }, { dst := some 11, op := Op.nilCheck (Operand.tmp 10), type := 0, pos := "reader.go:40", after := #[{ on := 5, ground := Ground.data }, { on := 3, ground := Ground.guard }], guard := some (3, true) }, { dst := some 12, op := Op.fieldAddr 55 (Operand.tmp 11) 0, type := 0, pos := "reader.go:40", after := #[{ on := 6, ground := Ground.data }, { on := 3, ground := Ground.guard }], guard := some (3, true) }, { dst := some 13, op := Op.load 9 (Operand.tmp 12), type := 9, pos := "reader.go:40", after := #[{ on := 7, ground := Ground.data }, { on := 3, ground := Ground.guard }], guard := some (3, true) }, { dst := some 14, op := Op.move (Operand.tmp 0), type := 72, pos := "reader.go:40", after := #[{ on := 3, ground := Ground.guard }], guard := some (3, true) }, { dst := some 15, op := Op.nilCheck (Operand.tmp 14), type := 0, pos := "reader.go:40", after := #[{ on := 9, ground := Ground.data }, { on := 3, ground := Ground.guard }], guard := some (3, true) }, { dst := some 16, op := Op.fieldAddr 55 (Operand.tmp 15) 1, type := 0, pos := "reader.go:40", after := #[{ on := 10, ground := Ground.data }, { on := 3, ground := Ground.guard }], guard := some (3, true) }, { dst := some 17, op := Op.load 3 (Operand.tmp 16), type := 3, pos := "reader.go:40", after := #[{ on := 11, ground := Ground.data }, { on := 3, ground := Ground.guard }], guard := some (3, true) }, { dst := some 18, op := Op.index 9 (Operand.tmp 13) (Operand.tmp 17), type := 5, pos := "reader.go:40", after := #[{ on := 8, ground := Ground.data }, { on := 12, ground := Ground.data }, { on := 3, ground := Ground.guard }], guard := some (3, true) }, { dst := some 19, op := Op.call { callee := Callee.value (Operand.func 49), args := #[Operand.tmp 9, Operand.tmp 18], argTypes := #[9, 5] }, type := 3, pos := "reader.go:40", after := #[{ on := 4, ground := Ground.data }, { on := 13, ground := Ground.data }, { on := 3, ground := Ground.chain }, { on := 3, ground := Ground.guard }], guard := some (3, true) }, { dst := some 20, op := Op.binOp BinOp.geq 3 (Operand.tmp 19) (Operand.const (Value.int IntKind.i64 0)) 3, type := 4, pos := "reader.go:40", after := #[{ on := 14, ground := Ground.data }, { on := 3, ground := Ground.guard }], guard := some (3, true) }, { dst := some 21, op := Op.pick (Operand.tmp 8) (Operand.tmp 20) (Operand.const (Value.bool false)), type := 4, pos := "reader.go:40", after := #[{ on := 3, ground := Ground.data }, { on := 15, ground := Ground.data }], guard := none }, { dst := some 4, op := Op.assign (Operand.tmp 21), type := 4, pos := "reader.go:40", after := #[{ on := 16, ground := Ground.data }, { on := 14, ground := Ground.chain }, { on := 0, ground := Ground.phase }, { on := 1, ground := Ground.phase }, { on := 2, ground := Ground.phase }, { on := 3, ground := Ground.phase }, { on := 4, ground := Ground.phase }, { on := 5, ground := Ground.phase }, { on := 6, ground := Ground.phase }, { on := 7, ground := Ground.phase }, { on := 8, ground := Ground.phase }, { on := 9, ground := Ground.phase }, { on := 10, ground := Ground.phase }, { on := 11, ground := Ground.phase }, { on := 12, ground := Ground.phase }, { on := 13, ground := Ground.phase }, { on := 14, ground := Ground.phase }, { on := 15, ground := Ground.phase }, { on := 16, ground := Ground.phase }], guard := none }] true).wp Tryd.prog Q { tmps := #[.pointer (some ⟨g, 0, none⟩), .string st, x2, x3, x4, x5, x6, x7, x8, x9, x10, x11, x12, x13, x14, x15, x16, x17, x18, x19, x20, x21], defers := ds } A := by
  refine Code.wp_mono (Q := fun x a' w' => match x with | .normal => Q .normal a' w' | _ => False) (by intro x a' w' h; cases x <;> first | exact h | exact h.elim) ?_
  refine wp_region_held (S := fun V => Below A.heap.size A V) (by kernel_rfl) ?_
  have hS0 : Hid (Below A.heap.size A A.drew) := below_drew0 A
  change wpAnyH Tryd.prog .any _ _ (fun V => Below A.heap.size A V) 18 (Array.replicate 18 false) _ A.drew
  obtain ⟨V0, hV0⟩ : ∃ V0, A.drew = V0 := ⟨_, rfl⟩
  rw [hV0]
  rw [hV0] at hS0
  clear hV0
  refine wpAnyH_take (i := 0) (oi := { dst := some 5, op := Op.move (Operand.tmp 0), type := 72, pos := "reader.go:40", after := #[], guard := none }) (v := .pointer (some ⟨g, 0, none⟩)) rfl (by kernel_rfl) (by kernel_rfl) (by kernel_rfl) (fun _ _ _ h => h.elim) (Or.inl ⟨by rfl, ?y1⟩) hS0.out ?_
  case y1 =>
    intro V hV
    go_simp
  simp only [Act.put, List.setIfInBounds_toArray, List.set_cons_zero, List.set_cons_succ]
  refine wpAnyH_ready (rs := [1]) (by kernel_rfl) (by simp) (AllReadyH.cons (i := 1) (o := { dst := some 6, op := Op.call { callee := Callee.value (Operand.func 39), args := #[Operand.tmp 5], argTypes := #[72] }, type := 4, pos := "reader.go:40", after := #[{ on := 0, ground := Ground.data }], guard := none }) rfl ?_ AllReadyH.nil)
  · intro K1 hK1
    rw [if_pos (by rfl)]
    have HC1 := H39.out V0 hS0.out
    go_wp2_with fail
    refine HC1.mono ?_
    rintro e V1 ⟨rfl, hb1⟩
    dsimp only
    clear HC1
    have hS1 : Hid (Below A.heap.size A V1) := hS0.out.trans (hb1.mono hS0.out.size)
    clear hb1
    refine hK1.out _ _ hS1.out ?_
    clear hK1
    intro _
    try simp only [Act.put, List.setIfInBounds_toArray, List.set_cons_zero, List.set_cons_succ]
    refine wpAnyH_take (i := 2) (oi := { dst := some 7, op := Op.unOp UnOp.not 4 (Operand.tmp 6), type := 4, pos := "reader.go:40", after := #[{ on := 1, ground := Ground.data }], guard := none }) (v := .bool true) rfl (by kernel_rfl) (by kernel_rfl) (by kernel_rfl) (fun _ _ _ h => h.elim) (Or.inl ⟨by rfl, ?y2⟩) hS1.out ?_
    case y2 =>
      intro V hV
      go_simp
    simp only [Act.put, List.setIfInBounds_toArray, List.set_cons_zero, List.set_cons_succ]
    refine wpAnyH_take (i := 3) (oi := { dst := some 8, op := Op.move (Operand.tmp 7), type := 4, pos := "reader.go:40", after := #[{ on := 2, ground := Ground.data }, { on := 1, ground := Ground.chain }], guard := none }) (v := .bool true) rfl (by kernel_rfl) (by kernel_rfl) (by kernel_rfl) (fun _ _ _ h => h.elim) (Or.inl ⟨by rfl, ?y3⟩) hS1.out ?_
    case y3 =>
      intro V hV
      go_simp
    simp only [Act.put, List.setIfInBounds_toArray, List.set_cons_zero, List.set_cons_succ]
    refine wpAnyH_take (i := 4) (oi := { dst := some 9, op := Op.move (Operand.tmp 1), type := 9, pos := "reader.go:40", after := #[{ on := 3, ground := Ground.guard }], guard := some (3, true) }) (v := .string st) rfl (by kernel_rfl) (by kernel_rfl) (by kernel_rfl) (fun _ _ _ h => h.elim) (Or.inl ⟨by rfl, ?y4⟩) hS1.out ?_
    case y4 =>
      intro V hV
      go_simp
    simp only [Act.put, List.setIfInBounds_toArray, List.set_cons_zero, List.set_cons_succ]
    refine wpAnyH_take (i := 5) (oi := { dst := some 10, op := Op.move (Operand.tmp 0), type := 72, pos := "reader.go:40", after := #[{ on := 3, ground := Ground.guard }], guard := some (3, true) }) (v := .pointer (some ⟨g, 0, none⟩)) rfl (by kernel_rfl) (by kernel_rfl) (by kernel_rfl) (fun _ _ _ h => h.elim) (Or.inl ⟨by rfl, ?y5⟩) hS1.out ?_
    case y5 =>
      intro V hV
      go_simp
    simp only [Act.put, List.setIfInBounds_toArray, List.set_cons_zero, List.set_cons_succ]
    refine wpAnyH_take (i := 6) (oi := { dst := some 11, op := Op.nilCheck (Operand.tmp 10), type := 0, pos := "reader.go:40", after := #[{ on := 5, ground := Ground.data }, { on := 3, ground := Ground.guard }], guard := some (3, true) }) (v := .pointer (some ⟨g, 0, none⟩)) rfl (by kernel_rfl) (by kernel_rfl) (by kernel_rfl) (fun _ _ _ h => h.elim) (Or.inl ⟨by rfl, ?y6⟩) hS1.out ?_
    case y6 =>
      intro V hV
      go_simp
    simp only [Act.put, List.setIfInBounds_toArray, List.set_cons_zero, List.set_cons_succ]
    refine wpAnyH_take (i := 7) (oi := { dst := some 12, op := Op.fieldAddr 55 (Operand.tmp 11) 0, type := 0, pos := "reader.go:40", after := #[{ on := 6, ground := Ground.data }, { on := 3, ground := Ground.guard }], guard := some (3, true) }) (v := .pointer (some ⟨g, 0, none⟩)) rfl (by kernel_rfl) (by kernel_rfl) (by kernel_rfl) (fun _ _ _ h => h.elim) (Or.inl ⟨by rfl, ?y7⟩) hS1.out ?_
    case y7 =>
      intro V hV
      go_simp
    simp only [Act.put, List.setIfInBounds_toArray, List.set_cons_zero, List.set_cons_succ]
    refine wpAnyH_take (i := 8) (oi := { dst := some 13, op := Op.load 9 (Operand.tmp 12), type := 9, pos := "reader.go:40", after := #[{ on := 7, ground := Ground.data }, { on := 3, ground := Ground.guard }], guard := some (3, true) }) (v := .string s) rfl (by kernel_rfl) (by kernel_rfl) (by kernel_rfl) (fun _ _ _ h => h.elim) (Or.inl ⟨by rfl, ?y8⟩) hS1.out ?_
    case y8 =>
      intro V hV
      have hc : V.cell? ⟨g, 0, none⟩ = some (.string s) := ((show Below A.heap.size A V from hV).cell (p := ⟨g, 0, none⟩) HL.out).trans c0
      go_simp
    simp only [Act.put, List.setIfInBounds_toArray, List.set_cons_zero, List.set_cons_succ]
    refine wpAnyH_take (i := 9) (oi := { dst := some 14, op := Op.move (Operand.tmp 0), type := 72, pos := "reader.go:40", after := #[{ on := 3, ground := Ground.guard }], guard := some (3, true) }) (v := .pointer (some ⟨g, 0, none⟩)) rfl (by kernel_rfl) (by kernel_rfl) (by kernel_rfl) (fun _ _ _ h => h.elim) (Or.inl ⟨by rfl, ?y9⟩) hS1.out ?_
    case y9 =>
      intro V hV
      go_simp
    simp only [Act.put, List.setIfInBounds_toArray, List.set_cons_zero, List.set_cons_succ]
    refine wpAnyH_take (i := 10) (oi := { dst := some 15, op := Op.nilCheck (Operand.tmp 14), type := 0, pos := "reader.go:40", after := #[{ on := 9, ground := Ground.data }, { on := 3, ground := Ground.guard }], guard := some (3, true) }) (v := .pointer (some ⟨g, 0, none⟩)) rfl (by kernel_rfl) (by kernel_rfl) (by kernel_rfl) (fun _ _ _ h => h.elim) (Or.inl ⟨by rfl, ?y10⟩) hS1.out ?_
    case y10 =>
      intro V hV
      go_simp
    simp only [Act.put, List.setIfInBounds_toArray, List.set_cons_zero, List.set_cons_succ]
    refine wpAnyH_take (i := 11) (oi := { dst := some 16, op := Op.fieldAddr 55 (Operand.tmp 15) 1, type := 0, pos := "reader.go:40", after := #[{ on := 10, ground := Ground.data }, { on := 3, ground := Ground.guard }], guard := some (3, true) }) (v := .pointer (some ⟨g, 1, none⟩)) rfl (by kernel_rfl) (by kernel_rfl) (by kernel_rfl) (fun _ _ _ h => h.elim) (Or.inl ⟨by rfl, ?y11⟩) hS1.out ?_
    case y11 =>
      intro V hV
      go_simp
    simp only [Act.put, List.setIfInBounds_toArray, List.set_cons_zero, List.set_cons_succ]
    refine wpAnyH_take (i := 12) (oi := { dst := some 17, op := Op.load 3 (Operand.tmp 16), type := 3, pos := "reader.go:40", after := #[{ on := 11, ground := Ground.data }, { on := 3, ground := Ground.guard }], guard := some (3, true) }) (v := iv (p : Int)) rfl (by kernel_rfl) (by kernel_rfl) (by kernel_rfl) (fun _ _ _ h => h.elim) (Or.inl ⟨by rfl, ?y12⟩) hS1.out ?_
    case y12 =>
      intro V hV
      have hc : V.cell? ⟨g, 1, none⟩ = some (iv (p : Int)) := ((show Below A.heap.size A V from hV).cell (p := ⟨g, 1, none⟩) HL.out).trans c1
      go_simp
    simp only [Act.put, List.setIfInBounds_toArray, List.set_cons_zero, List.set_cons_succ]
    refine wpAnyH_take (i := 13) (oi := { dst := some 18, op := Op.index 9 (Operand.tmp 13) (Operand.tmp 17), type := 5, pos := "reader.go:40", after := #[{ on := 8, ground := Ground.data }, { on := 12, ground := Ground.data }, { on := 3, ground := Ground.guard }], guard := some (3, true) }) (v := bv (b.toNat : Int)) rfl (by kernel_rfl) (by kernel_rfl) (by kernel_rfl) (fun _ _ _ h => h.elim) (Or.inl ⟨by rfl, ?y13⟩) hS1.out ?_
    case y13 =>
      intro V hV
      exact yl_idx V _ _ s p b rfl rfl rfl HB.out
    simp only [Act.put, List.setIfInBounds_toArray, List.set_cons_zero, List.set_cons_succ]
    refine wpAnyH_ready (rs := [14]) (by kernel_rfl) (by simp) (AllReadyH.cons (i := 14) (o := { dst := some 19, op := Op.call { callee := Callee.value (Operand.func 49), args := #[Operand.tmp 9, Operand.tmp 18], argTypes := #[9, 5] }, type := 3, pos := "reader.go:40", after := #[{ on := 4, ground := Ground.data }, { on := 13, ground := Ground.data }, { on := 3, ground := Ground.chain }, { on := 3, ground := Ground.guard }], guard := some (3, true) }) rfl ?_ AllReadyH.nil)
    · intro K1 hK1
      rw [if_pos (by rfl)]
      have HC2 := H49.out V1 hS1.out
      go_wp2_with fail
      refine HC2.mono ?_
      rintro e V2 ⟨rfl, hb2⟩
      dsimp only
      clear HC2
      have hS2 : Hid (Below A.heap.size A V2) := hS1.out.trans (hb2.mono hS1.out.size)
      clear hb2
      refine hK1.out _ _ hS2.out ?_
      clear hK1
      intro _
      try simp only [Act.put, List.setIfInBounds_toArray, List.set_cons_zero, List.set_cons_succ]
      refine wpAnyH_take (i := 15) (oi := { dst := some 20, op := Op.binOp BinOp.geq 3 (Operand.tmp 19) (Operand.const (Value.int IntKind.i64 0)) 3, type := 4, pos := "reader.go:40", after := #[{ on := 14, ground := Ground.data }, { on := 3, ground := Ground.guard }], guard := some (3, true) }) (v := .bool false) rfl (by kernel_rfl) (by kernel_rfl) (by kernel_rfl) (fun _ _ _ h => h.elim) (Or.inl ⟨by rfl, ?y14⟩) hS2.out ?_
      case y14 =>
        intro V hV
        have hcmp := q1
        go_simp
      simp only [Act.put, List.setIfInBounds_toArray, List.set_cons_zero, List.set_cons_succ]
      refine wpAnyH_take (i := 16) (oi := { dst := some 21, op := Op.pick (Operand.tmp 8) (Operand.tmp 20) (Operand.const (Value.bool false)), type := 4, pos := "reader.go:40", after := #[{ on := 3, ground := Ground.data }, { on := 15, ground := Ground.data }], guard := none }) (v := .bool false) rfl (by kernel_rfl) (by kernel_rfl) (by kernel_rfl) (fun _ _ _ h => h.elim) (Or.inl ⟨by rfl, ?y15⟩) hS2.out ?_
      case y15 =>
        intro V hV
        go_simp
      simp only [Act.put, List.setIfInBounds_toArray, List.set_cons_zero, List.set_cons_succ]
      refine wpAnyH_take (i := 17) (oi := { dst := some 4, op := Op.assign (Operand.tmp 21), type := 4, pos := "reader.go:40", after := #[{ on := 16, ground := Ground.data }, { on := 14, ground := Ground.chain }, { on := 0, ground := Ground.phase }, { on := 1, ground := Ground.phase }, { on := 2, ground := Ground.phase }, { on := 3, ground := Ground.phase }, { on := 4, ground := Ground.phase }, { on := 5, ground := Ground.phase }, { on := 6, ground := Ground.phase }, { on := 7, ground := Ground.phase }, { on := 8, ground := Ground.phase }, { on := 9, ground := Ground.phase }, { on := 10, ground := Ground.phase }, { on := 11, ground := Ground.phase }, { on := 12, ground := Ground.phase }, { on := 13, ground := Ground.phase }, { on := 14, ground := Ground.phase }, { on := 15, ground := Ground.phase }, { on := 16, ground := Ground.phase }], guard := none }) (v := .bool false) rfl (by kernel_rfl) (by kernel_rfl) (by kernel_rfl) (fun _ _ _ h => h.elim) (Or.inl ⟨by rfl, ?y16⟩) hS2.out ?_
      case y16 =>
        intro V hV
        go_simp
      simp only [Act.put, List.setIfInBounds_toArray, List.set_cons_zero, List.set_cons_succ]
      refine wpAnyH_done (by kernel_rfl) ?_ _
      exact hQ V2 hS2.out
#print axioms ao40f
theorem u8_id (b : UInt8) : ((b.toNat : Nat) : Int).toNat.toUInt8 = b := by simp
/-- does one of some bytes stand at a place? -/
def atOne (s : BA) (p : Nat) (st : BA) : Bool := match s.data.toList[p]? with | some b => st.data.toList.contains b | none => false
set_option maxRecDepth 100000 in
theorem atOne_is {w : World} {g p : Nat} {s : BA} (h : Rd w g s p) (st : BA) (E : Bool) (hE : atOne s p st = E) : Calls Tryd.prog 40 #[.pointer (some ⟨g, 0, none⟩), .string st] w fun e w' => e = .returned (.bool E) ∧ Below w.heap.size w w' := by
  have HR : Hid (Rd w g s p) := h
  have HE : Hid (atOne s p st = E) := hE
  clear h hE
  have hl : s.data.toList.length = s.size := rfl
  cases hb : s.data.toList[p]? with
  | none =>
    have hE : E = false := by have := HE.out; unfold atOne at this; rw [hb] at this; exact this.symm
    subst hE
    have HP : Hid (s.size ≤ p) := by have := List.getElem?_eq_none_iff.1 hb; show _ ≤ _; omega
    clear hb hl HE
    go_enter Tryd.func40, Tryd.ntmps40
    go_wp2_with fail
    refine ao40e HR.out.1.lt HR.out.c0 HR.out.c1 (fun V hV => atEnd_is (HR.out.below hV) true ⟨fun _ => HP.out, fun _ => rfl⟩) ?_
    intro V hV
    have HV : Hid (Below w.heap.size w V) := hV
    clear hV
    go_wp2
    go_ret
    exact ⟨rfl, HV.out⟩
  | some b =>
    have HB : Hid (s.data.toList[p]? = some b ∧ p < s.size) := ⟨hb, by have := (List.getElem?_eq_some_iff.1 hb).1; omega⟩
    have hE : E = decide (0 ≤ Lib.indexByte st.data.toList b) := by have := HE.out; unfold atOne at this; rw [hb] at this; rw [← this]; exact Lib.contains_iff_indexByte _ _
    have H39 : Hid (∀ V, Below w.heap.size w V → Calls Tryd.prog 39 #[.pointer (some ⟨g, 0, none⟩)] V fun e V2 => e = .returned (.bool false) ∧ Below V.heap.size V V2) := fun V hV => atEnd_is (HR.out.below hV) false ⟨(fun h => nomatch h), fun h => absurd h (by have := HB.out.2; omega)⟩
    obtain ⟨k, hk⟩ : ∃ k, Lib.indexByte st.data.toList b = k := ⟨_, rfl⟩
    have H49 : Hid (∀ V, Below w.heap.size w V → Calls Tryd.prog 49 #[.string st, bv (b.toNat : Int)] V fun e V2 => e = .returned (iv k) ∧ Below V.heap.size V V2) := fun V hV => (idx_is st _ V).mono fun e V2 h => by
      obtain ⟨h1, rfl⟩ := h
      rw [u8_id, hk] at h1
      exact ⟨h1, Below.refl _ _⟩
    rw [hk] at hE
    clear hb hl HE hk
    by_cases q : 0 ≤ k
    · obtain rfl : E = true := by rw [hE]; exact decide_eq_true q
      clear hE
      go_enter Tryd.func40, Tryd.ntmps40
      go_wp2_with fail
      refine ao40t HR.out.1.lt HR.out.c0 HR.out.c1 H39 H49 HB.out.1 q ?_
      intro V hV
      have HV : Hid (Below w.heap.size w V) := hV
      clear hV
      go_wp2
      go_ret
      exact ⟨rfl, HV.out⟩
    · obtain rfl : E = false := by rw [hE]; exact decide_eq_false q
      have q1 : k < 0 := by omega
      clear hE q
      go_enter Tryd.func40, Tryd.ntmps40
      go_wp2_with fail
      refine ao40f HR.out.1.lt HR.out.c0 HR.out.c1 H39 H49 HB.out.1 q1 ?_
      intro V hV
      have HV : Hid (Below w.heap.size w V) := hV
      clear hV
      go_wp2
      go_ret
      exact ⟨rfl, HV.out⟩
#print axioms atOne_is
end Go.Proofs.YtlbcpbibcfolkaaDoor.Oct
