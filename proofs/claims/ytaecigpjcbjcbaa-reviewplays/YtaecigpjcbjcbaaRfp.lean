/-
  Layer 20 (review): the reference's Passes.
-/
import Derived.Test.YtaecigpjcbjcbaaTxs
namespace Go.Proofs.Ytaecigpjcbjcbaa.Oct
open Go.RowKit
set_option linter.unusedSimpArgs false
set_option linter.unusedVariables false

set_option maxRecDepth 100000 in
set_option maxHeartbeats 4000000 in
theorem refp5 {Q : Exit → Act → World → Prop} {x0 x1 x3 x4 x5 x7 x8 x9 x10 x11 x12 x13 x14 x15 x16 x17 x18 x19 x20 x21 x22 x23 x24 x25 x26 x27 x28 x29 x30 x31 x32 x33 x34 x35 x36 x37 x38 x39 x40 x41 x42 x43 x44 x45 x46 x47 x48 x49 x50 x51 x52 x53 x54 x55 x56 x57 x58 : Value} {ds : List Deferred} {A : World} {g b f n c i q : Nat} {x au : BA} {r : Bool}
    (HL : Hid (g < A.heap.size ∧ b < A.heap.size ∧ q < A.heap.size)) (k1 : A.cell? ⟨g, 1, none⟩ = some (.string au)) (k2 : A.cell? ⟨b, f + i, none⟩ = some (.string x)) (q1 : (i : Int) < (n : Int)) (q2 : i < n) (k36 : A.cell? ⟨g, 36, none⟩ = some (.slice (some ⟨b, f, none⟩) n c)) (hr : (x.toList != au.toList) = r)
    (hQ : ∀ V1, Below A.heap.size A V1 → Q .normal { tmps := #[x0, x1, .pointer (some ⟨g, 0, none⟩), x3, x4, x5, iv (i : Int), x7, x8, x9, x10, x11, x12, x13, x14, .pointer (some ⟨g, 36, none⟩), .slice (some ⟨b, f, none⟩) n c, iv (i : Int), .pointer (some ⟨b, f + i, none⟩), .string x, .pointer (some ⟨g, 1, none⟩), .string au, .bool r, x23, x24, x25, x26, x27, x28, x29, x30, x31, x32, x33, x34, x35, x36, x37, x38, x39, x40, x41, x42, x43, x44, x45, x46, x47, x48, x49, x50, x51, x52, x53, x54, x55, x56, x57, x58], defers := ds } V1) :
    (Code.region 5 #[{ dst := some 15, op := Op.fieldAddr 43 (Operand.tmp 2) 5, type := 0, pos := "ref.go:183", after := #[], guard := none }, { dst := some 16, op := Op.load 40 (Operand.tmp 15), type := 40, pos := "ref.go:183", after := #[{ on := 0, ground := Ground.data }], guard := none }, { dst := some 17, op := Op.move (Operand.tmp 6), type := 3, pos := "ref.go:183", after := #[], guard := none }, { dst := some 18, op := Op.indexAddr 40 (Operand.tmp 16) (Operand.tmp 17), type := 0, pos := "ref.go:183", after := #[{ on := 1, ground := Ground.data }, { on := 2, ground := Ground.data }], guard := none }, { dst := some 19, op := Op.load 9 (Operand.tmp 18), type := 9, pos := "ref.go:183", after := #[{ on := 3, ground := Ground.data }], guard := none }, { dst := some 20, op := Op.fieldAddr 43 (Operand.tmp 2) 1, type := 0, pos := "ref.go:183", after := #[], guard := none }, { dst := some 21, op := Op.load 9 (Operand.tmp 20), type := 9, pos := "ref.go:183", after := #[{ on := 5, ground := Ground.data }], guard := none }, { dst := some 22, op := Op.binOp BinOp.neq 9 (Operand.tmp 19) (Operand.tmp 21) 9, type := 4, pos := "ref.go:183", after := #[{ on := 4, ground := Ground.data }, { on := 6, ground := Ground.data }], guard := none }] true).wp Try.prog Q { tmps := #[x0, x1, .pointer (some ⟨g, 0, none⟩), x3, x4, x5, iv (i : Int), x7, x8, x9, x10, x11, x12, x13, x14, x15, x16, x17, x18, x19, x20, x21, x22, x23, x24, x25, x26, x27, x28, x29, x30, x31, x32, x33, x34, x35, x36, x37, x38, x39, x40, x41, x42, x43, x44, x45, x46, x47, x48, x49, x50, x51, x52, x53, x54, x55, x56, x57, x58], defers := ds } A := by
  refine Code.wp_mono (Q := fun x a' w' => match x with | .normal => Q .normal a' w' | _ => False) (by intro x a' w' h; cases x <;> first | exact h | exact h.elim) ?_
  refine wp_region_held (S := fun V => Below A.heap.size A V) (by kernel_rfl) ?_
  have hS0 : Hid (Below A.heap.size A A.drew) := below_drew0 A
  change wpAnyH Try.prog .any _ _ (fun V => Below A.heap.size A V) 8 (Array.replicate 8 false) _ A.drew
  obtain ⟨V0, hV0⟩ : ∃ V0, A.drew = V0 := ⟨_, rfl⟩
  rw [hV0]
  rw [hV0] at hS0
  clear hV0
  refine wpAnyH_take (i := 0) (oi := { dst := some 15, op := Op.fieldAddr 43 (Operand.tmp 2) 5, type := 0, pos := "ref.go:183", after := #[], guard := none }) (v := .pointer (some ⟨g, 36, none⟩)) rfl (by kernel_rfl) (by kernel_rfl) (by kernel_rfl) (fun _ _ _ h => h.elim) (Or.inl ⟨by rfl, ?y1⟩) hS0.out ?_
  case y1 =>
    intro V hV
    go_simp
  simp only [Act.put, List.setIfInBounds_toArray, List.set_cons_zero, List.set_cons_succ]
  refine wpAnyH_take (i := 1) (oi := { dst := some 16, op := Op.load 40 (Operand.tmp 15), type := 40, pos := "ref.go:183", after := #[{ on := 0, ground := Ground.data }], guard := none }) (v := .slice (some ⟨b, f, none⟩) n c) rfl (by kernel_rfl) (by kernel_rfl) (by kernel_rfl) (fun _ _ _ h => h.elim) (Or.inl ⟨by rfl, ?y2⟩) hS0.out ?_
  case y2 =>
    intro V hV
    have hc : V.cell? ⟨g, 36, none⟩ = some (.slice (some ⟨b, f, none⟩) n c) := ((show Below A.heap.size A V from hV).cell (p := ⟨g, 36, none⟩) HL.out.1).trans k36
    go_simp
  simp only [Act.put, List.setIfInBounds_toArray, List.set_cons_zero, List.set_cons_succ]
  refine wpAnyH_take (i := 2) (oi := { dst := some 17, op := Op.move (Operand.tmp 6), type := 3, pos := "ref.go:183", after := #[], guard := none }) (v := iv (i : Int)) rfl (by kernel_rfl) (by kernel_rfl) (by kernel_rfl) (fun _ _ _ h => h.elim) (Or.inl ⟨by rfl, ?y3⟩) hS0.out ?_
  case y3 =>
    intro V hV
    go_simp
  simp only [Act.put, List.setIfInBounds_toArray, List.set_cons_zero, List.set_cons_succ]
  refine wpAnyH_take (i := 3) (oi := { dst := some 18, op := Op.indexAddr 40 (Operand.tmp 16) (Operand.tmp 17), type := 0, pos := "ref.go:183", after := #[{ on := 1, ground := Ground.data }, { on := 2, ground := Ground.data }], guard := none }) (v := .pointer (some ⟨b, f + i, none⟩)) rfl (by kernel_rfl) (by kernel_rfl) (by kernel_rfl) (fun _ _ _ h => h.elim) (Or.inl ⟨by rfl, ?y4⟩) hS0.out ?_
  case y4 =>
    intro V hV
    have hcmp := q1
    have hcmp2 := q2
    go_simp
  simp only [Act.put, List.setIfInBounds_toArray, List.set_cons_zero, List.set_cons_succ]
  refine wpAnyH_take (i := 4) (oi := { dst := some 19, op := Op.load 9 (Operand.tmp 18), type := 9, pos := "ref.go:183", after := #[{ on := 3, ground := Ground.data }], guard := none }) (v := .string x) rfl (by kernel_rfl) (by kernel_rfl) (by kernel_rfl) (fun _ _ _ h => h.elim) (Or.inl ⟨by rfl, ?y5⟩) hS0.out ?_
  case y5 =>
    intro V hV
    have hc : V.cell? ⟨b, f + i, none⟩ = some (.string x) := ((show Below A.heap.size A V from hV).cell (p := ⟨b, f + i, none⟩) HL.out.2.1).trans k2
    go_simp
  simp only [Act.put, List.setIfInBounds_toArray, List.set_cons_zero, List.set_cons_succ]
  refine wpAnyH_take (i := 5) (oi := { dst := some 20, op := Op.fieldAddr 43 (Operand.tmp 2) 1, type := 0, pos := "ref.go:183", after := #[], guard := none }) (v := .pointer (some ⟨g, 1, none⟩)) rfl (by kernel_rfl) (by kernel_rfl) (by kernel_rfl) (fun _ _ _ h => h.elim) (Or.inl ⟨by rfl, ?y6⟩) hS0.out ?_
  case y6 =>
    intro V hV
    go_simp
  simp only [Act.put, List.setIfInBounds_toArray, List.set_cons_zero, List.set_cons_succ]
  refine wpAnyH_take (i := 6) (oi := { dst := some 21, op := Op.load 9 (Operand.tmp 20), type := 9, pos := "ref.go:183", after := #[{ on := 5, ground := Ground.data }], guard := none }) (v := .string au) rfl (by kernel_rfl) (by kernel_rfl) (by kernel_rfl) (fun _ _ _ h => h.elim) (Or.inl ⟨by rfl, ?y7⟩) hS0.out ?_
  case y7 =>
    intro V hV
    have hc : V.cell? ⟨g, 1, none⟩ = some (.string au) := ((show Below A.heap.size A V from hV).cell (p := ⟨g, 1, none⟩) HL.out.1).trans k1
    go_simp
  simp only [Act.put, List.setIfInBounds_toArray, List.set_cons_zero, List.set_cons_succ]
  refine wpAnyH_take (i := 7) (oi := { dst := some 22, op := Op.binOp BinOp.neq 9 (Operand.tmp 19) (Operand.tmp 21) 9, type := 4, pos := "ref.go:183", after := #[{ on := 4, ground := Ground.data }, { on := 6, ground := Ground.data }], guard := none }) (v := .bool r) rfl (by kernel_rfl) (by kernel_rfl) (by kernel_rfl) (fun _ _ _ h => h.elim) (Or.inl ⟨by rfl, ?y8⟩) hS0.out ?_
  case y8 =>
    intro V hV
    have hcmp : (x.toList == au.toList) = !r := by rw [← hr]; simp [bne]
    go_simp
  simp only [Act.put, List.setIfInBounds_toArray, List.set_cons_zero, List.set_cons_succ]
  refine wpAnyH_done (by kernel_rfl) ?_ _
  exact hQ V0 hS0.out
#print axioms refp5
set_option maxRecDepth 100000 in
set_option maxHeartbeats 4000000 in
theorem refp12f {Q : Exit → Act → World → Prop} {x0 x1 x4 x5 x6 x8 x9 x10 x11 x12 x13 x14 x15 x16 x17 x18 x19 x20 x21 x22 x23 x24 x25 x26 x27 x28 x29 x30 x31 x32 x33 x34 x35 x36 x37 x38 x39 x40 x41 x42 x43 x44 x45 x46 x47 x48 x49 x50 x51 x52 x53 x54 x55 x56 x57 x58 : Value} {ds : List Deferred} {A : World} {g b f n c i q : Nat} {x au : BA} {r : Bool}
    (HL : Hid (g < A.heap.size ∧ b < A.heap.size ∧ q < A.heap.size)) (k1 : A.cell? ⟨g, 1, none⟩ = some (.string au)) (k2 : A.cell? ⟨b, f + i, none⟩ = some (.string x)) (q1 : (i : Int) < (n : Int)) (q2 : i < n) (k37 : A.cell? ⟨g, 37, none⟩ = some (.slice (some ⟨b, f, none⟩) n c)) (kq : A.cell? ⟨q, 1, none⟩ = some (.bool false)) (hr : (x.toList != au.toList) = r)
    (hQ : ∀ V1, Below A.heap.size A V1 → Q .normal { tmps := #[x0, x1, .pointer (some ⟨g, 0, none⟩), .pointer (some ⟨q, 0, none⟩), x4, x5, x6, iv (i : Int), x8, x9, x10, x11, x12, x13, x14, x15, x16, x17, x18, x19, x20, x21, x22, x23, x24, x25, x26, x27, x28, x29, x30, x31, x32, x33, x34, x35, x36, x37, x38, x39, x40, x41, x42, x43, x44, x45, x46, .pointer (some ⟨q, 1, none⟩), .bool false, .bool false, undef, undef, undef, undef, undef, undef, undef, undef, .bool false], defers := ds } V1) :
    (Code.region 12 #[{ dst := some 47, op := Op.fieldAddr 52 (Operand.tmp 3) 1, type := 0, pos := "ref.go:191", after := #[], guard := none }, { dst := some 48, op := Op.load 4 (Operand.tmp 47), type := 4, pos := "ref.go:191", after := #[{ on := 0, ground := Ground.data }], guard := none }, { dst := some 49, op := Op.move (Operand.tmp 48), type := 4, pos := "ref.go:191", after := #[{ on := 1, ground := Ground.data }], guard := none }, { dst := some 50, op := Op.fieldAddr 43 (Operand.tmp 2) 6, type := 0, pos := "ref.go:191", after := #[{ on := 2, ground := Ground.guard }], guard := some (2, true) }, { dst := some 51, op := Op.load 40 (Operand.tmp 50), type := 40, pos := "ref.go:191", after := #[{ on := 3, ground := Ground.data }, { on := 2, ground := Ground.guard }], guard := some (2, true) }, { dst := some 52, op := Op.move (Operand.tmp 7), type := 3, pos := "ref.go:191", after := #[{ on := 2, ground := Ground.guard }], guard := some (2, true) }, { dst := some 53, op := Op.indexAddr 40 (Operand.tmp 51) (Operand.tmp 52), type := 0, pos := "ref.go:191", after := #[{ on := 4, ground := Ground.data }, { on := 5, ground := Ground.data }, { on := 2, ground := Ground.guard }], guard := some (2, true) }, { dst := some 54, op := Op.load 9 (Operand.tmp 53), type := 9, pos := "ref.go:191", after := #[{ on := 6, ground := Ground.data }, { on := 2, ground := Ground.guard }], guard := some (2, true) }, { dst := some 55, op := Op.fieldAddr 43 (Operand.tmp 2) 1, type := 0, pos := "ref.go:191", after := #[{ on := 2, ground := Ground.guard }], guard := some (2, true) }, { dst := some 56, op := Op.load 9 (Operand.tmp 55), type := 9, pos := "ref.go:191", after := #[{ on := 8, ground := Ground.data }, { on := 2, ground := Ground.guard }], guard := some (2, true) }, { dst := some 57, op := Op.binOp BinOp.neq 9 (Operand.tmp 54) (Operand.tmp 56) 9, type := 4, pos := "ref.go:191", after := #[{ on := 7, ground := Ground.data }, { on := 9, ground := Ground.data }, { on := 2, ground := Ground.guard }], guard := some (2, true) }, { dst := some 58, op := Op.pick (Operand.tmp 49) (Operand.tmp 57) (Operand.const (Value.bool false)), type := 4, pos := "ref.go:191", after := #[{ on := 2, ground := Ground.data }, { on := 10, ground := Ground.data }], guard := none }] true).wp Try.prog Q { tmps := #[x0, x1, .pointer (some ⟨g, 0, none⟩), .pointer (some ⟨q, 0, none⟩), x4, x5, x6, iv (i : Int), x8, x9, x10, x11, x12, x13, x14, x15, x16, x17, x18, x19, x20, x21, x22, x23, x24, x25, x26, x27, x28, x29, x30, x31, x32, x33, x34, x35, x36, x37, x38, x39, x40, x41, x42, x43, x44, x45, x46, x47, x48, x49, x50, x51, x52, x53, x54, x55, x56, x57, x58], defers := ds } A := by
  refine Code.wp_mono (Q := fun x a' w' => match x with | .normal => Q .normal a' w' | _ => False) (by intro x a' w' h; cases x <;> first | exact h | exact h.elim) ?_
  refine wp_region_held (S := fun V => Below A.heap.size A V) (by kernel_rfl) ?_
  have hS0 : Hid (Below A.heap.size A A.drew) := below_drew0 A
  change wpAnyH Try.prog .any _ _ (fun V => Below A.heap.size A V) 12 (Array.replicate 12 false) _ A.drew
  obtain ⟨V0, hV0⟩ : ∃ V0, A.drew = V0 := ⟨_, rfl⟩
  rw [hV0]
  rw [hV0] at hS0
  clear hV0
  refine wpAnyH_take (i := 0) (oi := { dst := some 47, op := Op.fieldAddr 52 (Operand.tmp 3) 1, type := 0, pos := "ref.go:191", after := #[], guard := none }) (v := .pointer (some ⟨q, 1, none⟩)) rfl (by kernel_rfl) (by kernel_rfl) (by kernel_rfl) (fun _ _ _ h => h.elim) (Or.inl ⟨by rfl, ?y1⟩) hS0.out ?_
  case y1 =>
    intro V hV
    go_simp
  simp only [Act.put, List.setIfInBounds_toArray, List.set_cons_zero, List.set_cons_succ]
  refine wpAnyH_take (i := 1) (oi := { dst := some 48, op := Op.load 4 (Operand.tmp 47), type := 4, pos := "ref.go:191", after := #[{ on := 0, ground := Ground.data }], guard := none }) (v := .bool false) rfl (by kernel_rfl) (by kernel_rfl) (by kernel_rfl) (fun _ _ _ h => h.elim) (Or.inl ⟨by rfl, ?y2⟩) hS0.out ?_
  case y2 =>
    intro V hV
    have hc : V.cell? ⟨q, 1, none⟩ = some (.bool false) := ((show Below A.heap.size A V from hV).cell (p := ⟨q, 1, none⟩) HL.out.2.2).trans kq
    go_simp
  simp only [Act.put, List.setIfInBounds_toArray, List.set_cons_zero, List.set_cons_succ]
  refine wpAnyH_take (i := 2) (oi := { dst := some 49, op := Op.move (Operand.tmp 48), type := 4, pos := "ref.go:191", after := #[{ on := 1, ground := Ground.data }], guard := none }) (v := .bool false) rfl (by kernel_rfl) (by kernel_rfl) (by kernel_rfl) (fun _ _ _ h => h.elim) (Or.inl ⟨by rfl, ?y3⟩) hS0.out ?_
  case y3 =>
    intro V hV
    go_simp
  simp only [Act.put, List.setIfInBounds_toArray, List.set_cons_zero, List.set_cons_succ]
  refine wpAnyH_take (i := 3) (oi := { dst := some 50, op := Op.fieldAddr 43 (Operand.tmp 2) 6, type := 0, pos := "ref.go:191", after := #[{ on := 2, ground := Ground.guard }], guard := some (2, true) }) (v := undef) rfl (by kernel_rfl) (by kernel_rfl) (by kernel_rfl) (fun _ _ _ h => h.elim) (Or.inr ⟨by rfl, rfl⟩) hS0.out ?_
  simp only [Act.put, List.setIfInBounds_toArray, List.set_cons_zero, List.set_cons_succ]
  refine wpAnyH_take (i := 4) (oi := { dst := some 51, op := Op.load 40 (Operand.tmp 50), type := 40, pos := "ref.go:191", after := #[{ on := 3, ground := Ground.data }, { on := 2, ground := Ground.guard }], guard := some (2, true) }) (v := undef) rfl (by kernel_rfl) (by kernel_rfl) (by kernel_rfl) (fun _ _ _ h => h.elim) (Or.inr ⟨by rfl, rfl⟩) hS0.out ?_
  simp only [Act.put, List.setIfInBounds_toArray, List.set_cons_zero, List.set_cons_succ]
  refine wpAnyH_take (i := 5) (oi := { dst := some 52, op := Op.move (Operand.tmp 7), type := 3, pos := "ref.go:191", after := #[{ on := 2, ground := Ground.guard }], guard := some (2, true) }) (v := undef) rfl (by kernel_rfl) (by kernel_rfl) (by kernel_rfl) (fun _ _ _ h => h.elim) (Or.inr ⟨by rfl, rfl⟩) hS0.out ?_
  simp only [Act.put, List.setIfInBounds_toArray, List.set_cons_zero, List.set_cons_succ]
  refine wpAnyH_take (i := 6) (oi := { dst := some 53, op := Op.indexAddr 40 (Operand.tmp 51) (Operand.tmp 52), type := 0, pos := "ref.go:191", after := #[{ on := 4, ground := Ground.data }, { on := 5, ground := Ground.data }, { on := 2, ground := Ground.guard }], guard := some (2, true) }) (v := undef) rfl (by kernel_rfl) (by kernel_rfl) (by kernel_rfl) (fun _ _ _ h => h.elim) (Or.inr ⟨by rfl, rfl⟩) hS0.out ?_
  simp only [Act.put, List.setIfInBounds_toArray, List.set_cons_zero, List.set_cons_succ]
  refine wpAnyH_take (i := 7) (oi := { dst := some 54, op := Op.load 9 (Operand.tmp 53), type := 9, pos := "ref.go:191", after := #[{ on := 6, ground := Ground.data }, { on := 2, ground := Ground.guard }], guard := some (2, true) }) (v := undef) rfl (by kernel_rfl) (by kernel_rfl) (by kernel_rfl) (fun _ _ _ h => h.elim) (Or.inr ⟨by rfl, rfl⟩) hS0.out ?_
  simp only [Act.put, List.setIfInBounds_toArray, List.set_cons_zero, List.set_cons_succ]
  refine wpAnyH_take (i := 8) (oi := { dst := some 55, op := Op.fieldAddr 43 (Operand.tmp 2) 1, type := 0, pos := "ref.go:191", after := #[{ on := 2, ground := Ground.guard }], guard := some (2, true) }) (v := undef) rfl (by kernel_rfl) (by kernel_rfl) (by kernel_rfl) (fun _ _ _ h => h.elim) (Or.inr ⟨by rfl, rfl⟩) hS0.out ?_
  simp only [Act.put, List.setIfInBounds_toArray, List.set_cons_zero, List.set_cons_succ]
  refine wpAnyH_take (i := 9) (oi := { dst := some 56, op := Op.load 9 (Operand.tmp 55), type := 9, pos := "ref.go:191", after := #[{ on := 8, ground := Ground.data }, { on := 2, ground := Ground.guard }], guard := some (2, true) }) (v := undef) rfl (by kernel_rfl) (by kernel_rfl) (by kernel_rfl) (fun _ _ _ h => h.elim) (Or.inr ⟨by rfl, rfl⟩) hS0.out ?_
  simp only [Act.put, List.setIfInBounds_toArray, List.set_cons_zero, List.set_cons_succ]
  refine wpAnyH_take (i := 10) (oi := { dst := some 57, op := Op.binOp BinOp.neq 9 (Operand.tmp 54) (Operand.tmp 56) 9, type := 4, pos := "ref.go:191", after := #[{ on := 7, ground := Ground.data }, { on := 9, ground := Ground.data }, { on := 2, ground := Ground.guard }], guard := some (2, true) }) (v := undef) rfl (by kernel_rfl) (by kernel_rfl) (by kernel_rfl) (fun _ _ _ h => h.elim) (Or.inr ⟨by rfl, rfl⟩) hS0.out ?_
  simp only [Act.put, List.setIfInBounds_toArray, List.set_cons_zero, List.set_cons_succ]
  refine wpAnyH_take (i := 11) (oi := { dst := some 58, op := Op.pick (Operand.tmp 49) (Operand.tmp 57) (Operand.const (Value.bool false)), type := 4, pos := "ref.go:191", after := #[{ on := 2, ground := Ground.data }, { on := 10, ground := Ground.data }], guard := none }) (v := .bool false) rfl (by kernel_rfl) (by kernel_rfl) (by kernel_rfl) (fun _ _ _ h => h.elim) (Or.inl ⟨by rfl, ?y4⟩) hS0.out ?_
  case y4 =>
    intro V hV
    go_simp
  simp only [Act.put, List.setIfInBounds_toArray, List.set_cons_zero, List.set_cons_succ]
  refine wpAnyH_done (by kernel_rfl) ?_ _
  exact hQ V0 hS0.out
#print axioms refp12f
set_option maxRecDepth 100000 in
set_option maxHeartbeats 4000000 in
theorem refp12t {Q : Exit → Act → World → Prop} {x0 x1 x4 x5 x6 x8 x9 x10 x11 x12 x13 x14 x15 x16 x17 x18 x19 x20 x21 x22 x23 x24 x25 x26 x27 x28 x29 x30 x31 x32 x33 x34 x35 x36 x37 x38 x39 x40 x41 x42 x43 x44 x45 x46 x47 x48 x49 x50 x51 x52 x53 x54 x55 x56 x57 x58 : Value} {ds : List Deferred} {A : World} {g b f n c i q : Nat} {x au : BA} {r : Bool}
    (HL : Hid (g < A.heap.size ∧ b < A.heap.size ∧ q < A.heap.size)) (k1 : A.cell? ⟨g, 1, none⟩ = some (.string au)) (k2 : A.cell? ⟨b, f + i, none⟩ = some (.string x)) (q1 : (i : Int) < (n : Int)) (q2 : i < n) (k37 : A.cell? ⟨g, 37, none⟩ = some (.slice (some ⟨b, f, none⟩) n c)) (kq : A.cell? ⟨q, 1, none⟩ = some (.bool true)) (hr : (x.toList != au.toList) = r)
    (hQ : ∀ V1, Below A.heap.size A V1 → Q .normal { tmps := #[x0, x1, .pointer (some ⟨g, 0, none⟩), .pointer (some ⟨q, 0, none⟩), x4, x5, x6, iv (i : Int), x8, x9, x10, x11, x12, x13, x14, x15, x16, x17, x18, x19, x20, x21, x22, x23, x24, x25, x26, x27, x28, x29, x30, x31, x32, x33, x34, x35, x36, x37, x38, x39, x40, x41, x42, x43, x44, x45, x46, .pointer (some ⟨q, 1, none⟩), .bool true, .bool true, .pointer (some ⟨g, 37, none⟩), .slice (some ⟨b, f, none⟩) n c, iv (i : Int), .pointer (some ⟨b, f + i, none⟩), .string x, .pointer (some ⟨g, 1, none⟩), .string au, .bool r, .bool r], defers := ds } V1) :
    (Code.region 12 #[{ dst := some 47, op := Op.fieldAddr 52 (Operand.tmp 3) 1, type := 0, pos := "ref.go:191", after := #[], guard := none }, { dst := some 48, op := Op.load 4 (Operand.tmp 47), type := 4, pos := "ref.go:191", after := #[{ on := 0, ground := Ground.data }], guard := none }, { dst := some 49, op := Op.move (Operand.tmp 48), type := 4, pos := "ref.go:191", after := #[{ on := 1, ground := Ground.data }], guard := none }, { dst := some 50, op := Op.fieldAddr 43 (Operand.tmp 2) 6, type := 0, pos := "ref.go:191", after := #[{ on := 2, ground := Ground.guard }], guard := some (2, true) }, { dst := some 51, op := Op.load 40 (Operand.tmp 50), type := 40, pos := "ref.go:191", after := #[{ on := 3, ground := Ground.data }, { on := 2, ground := Ground.guard }], guard := some (2, true) }, { dst := some 52, op := Op.move (Operand.tmp 7), type := 3, pos := "ref.go:191", after := #[{ on := 2, ground := Ground.guard }], guard := some (2, true) }, { dst := some 53, op := Op.indexAddr 40 (Operand.tmp 51) (Operand.tmp 52), type := 0, pos := "ref.go:191", after := #[{ on := 4, ground := Ground.data }, { on := 5, ground := Ground.data }, { on := 2, ground := Ground.guard }], guard := some (2, true) }, { dst := some 54, op := Op.load 9 (Operand.tmp 53), type := 9, pos := "ref.go:191", after := #[{ on := 6, ground := Ground.data }, { on := 2, ground := Ground.guard }], guard := some (2, true) }, { dst := some 55, op := Op.fieldAddr 43 (Operand.tmp 2) 1, type := 0, pos := "ref.go:191", after := #[{ on := 2, ground := Ground.guard }], guard := some (2, true) }, { dst := some 56, op := Op.load 9 (Operand.tmp 55), type := 9, pos := "ref.go:191", after := #[{ on := 8, ground := Ground.data }, { on := 2, ground := Ground.guard }], guard := some (2, true) }, { dst := some 57, op := Op.binOp BinOp.neq 9 (Operand.tmp 54) (Operand.tmp 56) 9, type := 4, pos := "ref.go:191", after := #[{ on := 7, ground := Ground.data }, { on := 9, ground := Ground.data }, { on := 2, ground := Ground.guard }], guard := some (2, true) }, { dst := some 58, op := Op.pick (Operand.tmp 49) (Operand.tmp 57) (Operand.const (Value.bool false)), type := 4, pos := "ref.go:191", after := #[{ on := 2, ground := Ground.data }, { on := 10, ground := Ground.data }], guard := none }] true).wp Try.prog Q { tmps := #[x0, x1, .pointer (some ⟨g, 0, none⟩), .pointer (some ⟨q, 0, none⟩), x4, x5, x6, iv (i : Int), x8, x9, x10, x11, x12, x13, x14, x15, x16, x17, x18, x19, x20, x21, x22, x23, x24, x25, x26, x27, x28, x29, x30, x31, x32, x33, x34, x35, x36, x37, x38, x39, x40, x41, x42, x43, x44, x45, x46, x47, x48, x49, x50, x51, x52, x53, x54, x55, x56, x57, x58], defers := ds } A := by
  refine Code.wp_mono (Q := fun x a' w' => match x with | .normal => Q .normal a' w' | _ => False) (by intro x a' w' h; cases x <;> first | exact h | exact h.elim) ?_
  refine wp_region_held (S := fun V => Below A.heap.size A V) (by kernel_rfl) ?_
  have hS0 : Hid (Below A.heap.size A A.drew) := below_drew0 A
  change wpAnyH Try.prog .any _ _ (fun V => Below A.heap.size A V) 12 (Array.replicate 12 false) _ A.drew
  obtain ⟨V0, hV0⟩ : ∃ V0, A.drew = V0 := ⟨_, rfl⟩
  rw [hV0]
  rw [hV0] at hS0
  clear hV0
  refine wpAnyH_take (i := 0) (oi := { dst := some 47, op := Op.fieldAddr 52 (Operand.tmp 3) 1, type := 0, pos := "ref.go:191", after := #[], guard := none }) (v := .pointer (some ⟨q, 1, none⟩)) rfl (by kernel_rfl) (by kernel_rfl) (by kernel_rfl) (fun _ _ _ h => h.elim) (Or.inl ⟨by rfl, ?y1⟩) hS0.out ?_
  case y1 =>
    intro V hV
    go_simp
  simp only [Act.put, List.setIfInBounds_toArray, List.set_cons_zero, List.set_cons_succ]
  refine wpAnyH_take (i := 1) (oi := { dst := some 48, op := Op.load 4 (Operand.tmp 47), type := 4, pos := "ref.go:191", after := #[{ on := 0, ground := Ground.data }], guard := none }) (v := .bool true) rfl (by kernel_rfl) (by kernel_rfl) (by kernel_rfl) (fun _ _ _ h => h.elim) (Or.inl ⟨by rfl, ?y2⟩) hS0.out ?_
  case y2 =>
    intro V hV
    have hc : V.cell? ⟨q, 1, none⟩ = some (.bool true) := ((show Below A.heap.size A V from hV).cell (p := ⟨q, 1, none⟩) HL.out.2.2).trans kq
    go_simp
  simp only [Act.put, List.setIfInBounds_toArray, List.set_cons_zero, List.set_cons_succ]
  refine wpAnyH_take (i := 2) (oi := { dst := some 49, op := Op.move (Operand.tmp 48), type := 4, pos := "ref.go:191", after := #[{ on := 1, ground := Ground.data }], guard := none }) (v := .bool true) rfl (by kernel_rfl) (by kernel_rfl) (by kernel_rfl) (fun _ _ _ h => h.elim) (Or.inl ⟨by rfl, ?y3⟩) hS0.out ?_
  case y3 =>
    intro V hV
    go_simp
  simp only [Act.put, List.setIfInBounds_toArray, List.set_cons_zero, List.set_cons_succ]
  refine wpAnyH_take (i := 3) (oi := { dst := some 50, op := Op.fieldAddr 43 (Operand.tmp 2) 6, type := 0, pos := "ref.go:191", after := #[{ on := 2, ground := Ground.guard }], guard := some (2, true) }) (v := .pointer (some ⟨g, 37, none⟩)) rfl (by kernel_rfl) (by kernel_rfl) (by kernel_rfl) (fun _ _ _ h => h.elim) (Or.inl ⟨by rfl, ?y4⟩) hS0.out ?_
  case y4 =>
    intro V hV
    go_simp
  simp only [Act.put, List.setIfInBounds_toArray, List.set_cons_zero, List.set_cons_succ]
  refine wpAnyH_take (i := 4) (oi := { dst := some 51, op := Op.load 40 (Operand.tmp 50), type := 40, pos := "ref.go:191", after := #[{ on := 3, ground := Ground.data }, { on := 2, ground := Ground.guard }], guard := some (2, true) }) (v := .slice (some ⟨b, f, none⟩) n c) rfl (by kernel_rfl) (by kernel_rfl) (by kernel_rfl) (fun _ _ _ h => h.elim) (Or.inl ⟨by rfl, ?y5⟩) hS0.out ?_
  case y5 =>
    intro V hV
    have hc : V.cell? ⟨g, 37, none⟩ = some (.slice (some ⟨b, f, none⟩) n c) := ((show Below A.heap.size A V from hV).cell (p := ⟨g, 37, none⟩) HL.out.1).trans k37
    go_simp
  simp only [Act.put, List.setIfInBounds_toArray, List.set_cons_zero, List.set_cons_succ]
  refine wpAnyH_take (i := 5) (oi := { dst := some 52, op := Op.move (Operand.tmp 7), type := 3, pos := "ref.go:191", after := #[{ on := 2, ground := Ground.guard }], guard := some (2, true) }) (v := iv (i : Int)) rfl (by kernel_rfl) (by kernel_rfl) (by kernel_rfl) (fun _ _ _ h => h.elim) (Or.inl ⟨by rfl, ?y6⟩) hS0.out ?_
  case y6 =>
    intro V hV
    go_simp
  simp only [Act.put, List.setIfInBounds_toArray, List.set_cons_zero, List.set_cons_succ]
  refine wpAnyH_take (i := 6) (oi := { dst := some 53, op := Op.indexAddr 40 (Operand.tmp 51) (Operand.tmp 52), type := 0, pos := "ref.go:191", after := #[{ on := 4, ground := Ground.data }, { on := 5, ground := Ground.data }, { on := 2, ground := Ground.guard }], guard := some (2, true) }) (v := .pointer (some ⟨b, f + i, none⟩)) rfl (by kernel_rfl) (by kernel_rfl) (by kernel_rfl) (fun _ _ _ h => h.elim) (Or.inl ⟨by rfl, ?y7⟩) hS0.out ?_
  case y7 =>
    intro V hV
    have hcmp := q1
    have hcmp2 := q2
    go_simp
  simp only [Act.put, List.setIfInBounds_toArray, List.set_cons_zero, List.set_cons_succ]
  refine wpAnyH_take (i := 7) (oi := { dst := some 54, op := Op.load 9 (Operand.tmp 53), type := 9, pos := "ref.go:191", after := #[{ on := 6, ground := Ground.data }, { on := 2, ground := Ground.guard }], guard := some (2, true) }) (v := .string x) rfl (by kernel_rfl) (by kernel_rfl) (by kernel_rfl) (fun _ _ _ h => h.elim) (Or.inl ⟨by rfl, ?y8⟩) hS0.out ?_
  case y8 =>
    intro V hV
    have hc : V.cell? ⟨b, f + i, none⟩ = some (.string x) := ((show Below A.heap.size A V from hV).cell (p := ⟨b, f + i, none⟩) HL.out.2.1).trans k2
    go_simp
  simp only [Act.put, List.setIfInBounds_toArray, List.set_cons_zero, List.set_cons_succ]
  refine wpAnyH_take (i := 8) (oi := { dst := some 55, op := Op.fieldAddr 43 (Operand.tmp 2) 1, type := 0, pos := "ref.go:191", after := #[{ on := 2, ground := Ground.guard }], guard := some (2, true) }) (v := .pointer (some ⟨g, 1, none⟩)) rfl (by kernel_rfl) (by kernel_rfl) (by kernel_rfl) (fun _ _ _ h => h.elim) (Or.inl ⟨by rfl, ?y9⟩) hS0.out ?_
  case y9 =>
    intro V hV
    go_simp
  simp only [Act.put, List.setIfInBounds_toArray, List.set_cons_zero, List.set_cons_succ]
  refine wpAnyH_take (i := 9) (oi := { dst := some 56, op := Op.load 9 (Operand.tmp 55), type := 9, pos := "ref.go:191", after := #[{ on := 8, ground := Ground.data }, { on := 2, ground := Ground.guard }], guard := some (2, true) }) (v := .string au) rfl (by kernel_rfl) (by kernel_rfl) (by kernel_rfl) (fun _ _ _ h => h.elim) (Or.inl ⟨by rfl, ?y10⟩) hS0.out ?_
  case y10 =>
    intro V hV
    have hc : V.cell? ⟨g, 1, none⟩ = some (.string au) := ((show Below A.heap.size A V from hV).cell (p := ⟨g, 1, none⟩) HL.out.1).trans k1
    go_simp
  simp only [Act.put, List.setIfInBounds_toArray, List.set_cons_zero, List.set_cons_succ]
  refine wpAnyH_take (i := 10) (oi := { dst := some 57, op := Op.binOp BinOp.neq 9 (Operand.tmp 54) (Operand.tmp 56) 9, type := 4, pos := "ref.go:191", after := #[{ on := 7, ground := Ground.data }, { on := 9, ground := Ground.data }, { on := 2, ground := Ground.guard }], guard := some (2, true) }) (v := .bool r) rfl (by kernel_rfl) (by kernel_rfl) (by kernel_rfl) (fun _ _ _ h => h.elim) (Or.inl ⟨by rfl, ?y11⟩) hS0.out ?_
  case y11 =>
    intro V hV
    have hcmp : (x.toList == au.toList) = !r := by rw [← hr]; simp [bne]
    go_simp
  simp only [Act.put, List.setIfInBounds_toArray, List.set_cons_zero, List.set_cons_succ]
  refine wpAnyH_take (i := 11) (oi := { dst := some 58, op := Op.pick (Operand.tmp 49) (Operand.tmp 57) (Operand.const (Value.bool false)), type := 4, pos := "ref.go:191", after := #[{ on := 2, ground := Ground.data }, { on := 10, ground := Ground.data }], guard := none }) (v := .bool r) rfl (by kernel_rfl) (by kernel_rfl) (by kernel_rfl) (fun _ _ _ h => h.elim) (Or.inl ⟨by rfl, ?y12⟩) hS0.out ?_
  case y12 =>
    intro V hV
    go_simp
  simp only [Act.put, List.setIfInBounds_toArray, List.set_cons_zero, List.set_cons_succ]
  refine wpAnyH_done (by kernel_rfl) ?_ _
  exact hQ V0 hS0.out
#print axioms refp12t
/-- who stands in a list, as the reference has it -/
def refY (au : BA) : List BA → List BA
  | [] => []
  | s :: l => if s = au then refY au l else withB s (refY au l)
def refYL (au : BA) (l : List BA) : List BA := refY au l.reverse
theorem refYL_snoc (au s : BA) (l : List BA) : refYL au (l ++ [s]) = if s = au then refYL au l else withB s (refYL au l) := by
  unfold refYL
  rw [List.reverse_append]
  rfl
theorem refY_rise (au : BA) : ∀ l, Rise ((refY au l).map bk) ∧ ∀ x, x ∈ (refY au l).map bk ↔ x ∈ oths au l
  | [] => ⟨by simp [refY, Rise], by simp [refY, oths]⟩
  | s :: l => by
    obtain ⟨h1, h2⟩ := refY_rise au l
    unfold refY oths
    split
    · exact ⟨h1, h2⟩
    · rw [withB_bk]
      refine ⟨rise_with _ h1, fun x => ?_⟩
      rw [mem_with, h2]
      unfold addK
      split
      · rename_i hm
        constructor
        · rintro (rfl | h)
          · exact hm
          · exact h
        · exact .inr
      · rw [List.mem_append, List.mem_singleton]
        exact or_comm
theorem oths_nodup (au : BA) : ∀ l, (oths au l).Nodup
  | [] => by simp [oths]
  | s :: l => by
    have h := oths_nodup au l
    unfold oths
    split
    · exact h
    · unfold addK
      split
      · exact h
      · rename_i hm
        rw [List.nodup_append]
        exact ⟨h, by simp, fun a ha b hb e => by simp at hb; subst hb; subst e; exact hm ha⟩
theorem refY_len (au : BA) (l : List BA) : (refYL au l).length = (othsL au l).length := by
  have h := refY_rise au l.reverse
  have := len_eq h.1.nodup (oths_nodup au l.reverse) h.2
  simpa [refYL, othsL] using this
theorem oths_zero (au : BA) : ∀ l, (oths au l).length = 0 ↔ ∀ s ∈ l, s = au
  | [] => by simp [oths]
  | s :: l => by
    have ih := oths_zero au l
    unfold oths
    split
    · rename_i e
      rw [ih]
      simp [e]
    · rename_i e
      constructor
      · intro h
        exfalso
        unfold addK at h
        split at h
        · rename_i hm
          have : oths au l = [] := List.eq_nil_of_length_eq_zero h
          rw [this] at hm; cases hm
        · simp at h
      · intro h
        exact absurd (h s (by simp)) e
theorem othsL_zero (au : BA) (l : List BA) : ((othsL au l).length == 0) = l.all fun s => decide (s = au) := by
  have := oths_zero au l.reverse
  rw [Bool.eq_iff_iff, beq_iff_eq, List.all_eq_true]
  show (oths au l.reverse).length = 0 ↔ _
  rw [this]
  simp
set_option maxRecDepth 100000 in
set_option maxHeartbeats 4000000 in
theorem refPasses_is (p : Pp) (q : Po) (yes no : List BA) (w : World) (hl : p.patch.length = 32) (hy : Txt w p.y yes) (hn : Txt w p.n no) (hy3 : p.y.n ≤ 1000) :
    Calls Try.prog 21 #[.agg p.cells.toArray, .agg q.cells.toArray] w fun e w' => e = .returned (.bool (passB yes no p.author p.opn q)) ∧ Below w.heap.size w w' := by
  obtain ⟨b0, hb0⟩ : ∃ b, passB yes no p.author p.opn q = b := ⟨_, rfl⟩
  rw [hb0]
  obtain ⟨ap, veto⟩ := q
  obtain ⟨cp, hcp⟩ : ∃ cp, p.cells = cp := ⟨_, rfl⟩
  obtain ⟨W1, hW1⟩ : ∃ W1, w.alloc (.cells cp.toArray 43) = W1 := ⟨_, rfl⟩
  obtain ⟨W2, hW2⟩ : ∃ W2, W1.alloc (.cells #[iv ap, .bool veto] 52) = W2 := ⟨_, rfl⟩
  have hB1 : Below w.heap.size w W1 := by rw [← hW1]; exact below_al _ _
  have hB2 : Below W1.heap.size W1 W2 := by rw [← hW2]; exact below_al _ _
  have HB : Hid (Below w.heap.size w W2) := below_tr hB1 hB2
  obtain ⟨g, hg⟩ : ∃ g, w.heap.size = g := ⟨_, rfl⟩
  obtain ⟨q, hq⟩ : ∃ q, W1.heap.size = q := ⟨_, rfl⟩
  have hr1 : W1.rangeAt g 0 p.cells := by rw [← hg, ← hW1, hcp]; exact range_new _ _ _
  have hgl : g < W1.heap.size := by rw [← hg, ← hW1]; simp
  have hr2 : W2.rangeAt g 0 p.cells := rangeAt_same hr1 (hB2.block g hgl)
  have hbq : Blk W2 q 52 [iv ap, .bool veto] := by rw [← hq, ← hW2]; exact Blk.new _ _ _
  obtain ⟨_, g1, _, _, g35, g36, g37, _⟩ := Pp.cell hl hr2
  have HG : Hid (g < W2.heap.size ∧ q < W2.heap.size ∧ W2.cell? ⟨g, 1, none⟩ = some (.string p.author) ∧ W2.cell? ⟨g, 35, none⟩ = some (.bool p.opn) ∧ W2.cell? ⟨g, 36, none⟩ = some (.slice p.y.a p.y.n p.y.c) ∧ W2.cell? ⟨g, 37, none⟩ = some (.slice p.n.a p.n.n p.n.c) ∧ W2.cell? ⟨q, 0, none⟩ = some (iv ap) ∧ W2.cell? ⟨q, 1, none⟩ = some (.bool veto)) :=
    ⟨Nat.lt_of_lt_of_le hgl hB2.size, hbq.lt, g1, g35, g36, g37, hbq.cell rfl, hbq.cell rfl⟩
  have HY : Hid (Txt W2 p.y yes) := hy.below HB.out
  have HN : Hid (Txt W2 p.n no) := hn.below HB.out
  have HPB : Hid ((p.opn && decide (ap ≤ ((refYL p.author yes).length : Int)) && (!veto || no.all fun s => decide (s = p.author))) = b0) := by
    show _ = _
    rw [← hb0]
    unfold passB
    rw [refY_len, othsL_zero]
  rw [show Po.cells ⟨ap, veto⟩ = [iv ap, .bool veto] from rfl, hcp]
  have qy : (p.y.n : Int) ≤ 1000 := by omega
  have qn : (p.n.n : Int) ≤ 140737488355328 := by have := hn.2.1; omega
  have HYL : Hid (yes.length = p.y.n ∧ no.length = p.n.n ∧ p.y.n ≤ 1000) := ⟨hy.1.1, hn.1.1, hy3⟩
  clear hl hy hn hB1 hB2 hr1 hr2 hgl hbq hb0 hcp g1 g35 g36 g37 hy3
  obtain ⟨yn, hyn⟩ : ∃ n, p.y.n = n := ⟨_, rfl⟩
  obtain ⟨nn, hnn⟩ : ∃ n, p.n.n = n := ⟨_, rfl⟩
  obtain ⟨au, hau⟩ : ∃ a, p.author = a := ⟨_, rfl⟩
  obtain ⟨opn, hop⟩ : ∃ a, p.opn = a := ⟨_, rfl⟩
  have HYT : Hid (Strs W2 p.y.a yn yes ∧ (∀ x ∈ yes, x.size ≤ 140737488355328)) := by rw [← hyn]; exact ⟨HY.out.1, HY.out.2.2⟩
  have HNT : Hid (Strs W2 p.n.a nn no) := by rw [← hnn]; exact HN.out.1
  clear HY HN
  rw [hyn, hnn, hau, hop] at HG
  rw [hau, hop] at HPB
  rw [hyn, hnn] at HYL
  rw [hyn] at qy
  rw [hnn] at qn
  generalize p.y.a = ya at *
  generalize p.y.c = yc at *
  generalize p.n.a = na at *
  generalize p.n.c = nc at *
  clear hyn hnn hau hop
  go_enter Try.func21, Try.ntmps21
  go_wp2
  go_loopw [6, 5] (fun u v wr => ∃ i : Nat, u = iv i ∧ Hid (i ≤ yn ∧ Below W2.heap.size W2 wr ∧ TS wr v (refYL au (yes.take i)))) (fun u _ _ => yn - (intOf u).toNat)
  case atStart => exact ⟨0, rfl, Nat.zero_le _, Below.refl _ _, .inl ⟨rfl, rfl⟩⟩
  case round =>
    obtain ⟨i, rfl, HI⟩ := hrel
    have k36 : wr.cell? ⟨g, 36, none⟩ = some (.slice ya yn yc) := (HI.out.2.1.cell (p := ⟨g, 36, none⟩) HG.out.1).trans HG.out.2.2.2.2.1
    by_cases hi : i = yn
    · have q1 : (yn : Int) ≤ (i : Int) := by omega
      have k35 : wr.cell? ⟨g, 35, none⟩ = some (.bool opn) := (HI.out.2.1.cell (p := ⟨g, 35, none⟩) HG.out.1).trans HG.out.2.2.2.1
      have k0 : wr.cell? ⟨q, 0, none⟩ = some (iv ap) := (HI.out.2.1.cell (p := ⟨q, 0, none⟩) HG.out.2.1).trans HG.out.2.2.2.2.2.2.1
      have HT : Hid (yes.take i = yes) := by show _ = _; rw [hi, ← HYL.out.1, List.take_length]
      obtain ⟨sy, hsy, hst, hsn, _⟩ := (HT.out ▸ HI.out.2.2 : TS wr u5 (refYL au yes)).sl
      subst hsy
      have HSN : Hid (sy.n = (refYL au yes).length ∧ sy.n ≤ 1000) := ⟨hsn, by
        rw [hsn]
        have h1 := refY_len au yes
        have h2 := oths_len au yes.reverse
        have h3 : (othsL au yes).length ≤ yes.length := by simpa [othsL] using h2
        have := HYL.out.1; have := HYL.out.2.2
        omega⟩
      obtain ⟨m, hm⟩ : ∃ m, sy.n = m := ⟨_, rfl⟩
      rw [hm] at HSN
      have HBW := HI.out.2.1
      rw [hm]
      clear hst hsn hi hm HI
      cases opn with
      | false =>
        have HR : Hid (b0 = false) := by show _ = _; rw [← HPB.out]; rfl
        go_wp2
        go_ret
        exact ⟨by rw [HR.out]; rfl, below_tr HB.out HBW⟩
      | true =>
        by_cases hen : (m : Int) < ap
        · have HR : Hid (b0 = false) := by
            show _ = _
            rw [← HPB.out, ← HSN.out.1]
            have : ¬ ap ≤ (m : Int) := by omega
            simp [this]
          go_wp2
          go_ret
          exact ⟨by rw [HR.out]; rfl, below_tr HB.out HBW⟩
        · have hen2 : ap ≤ (m : Int) := by omega
          have HPB2 : Hid ((!veto || no.all fun s => decide (s = au)) = b0) := by
            show _ = _
            rw [← HPB.out, ← HSN.out.1]
            simp [hen2]
          clear hen
          go_wp2
          obtain ⟨W7, hW7⟩ : ∃ W7, wr = W7 := ⟨_, rfl⟩
          rw [hW7] at HBW k35 k36 k0 ⊢
          have HB7 : Hid (Below W2.heap.size W2 W7) := HBW
          have hd1 : decide (i < yn) = false := by simp; omega
          have hd2 : decide ((m : Int) < ap) = false := by simp; omega
          simp only [hd1, hd2]
          clear HBW k36 k35 k0 hW7 hd1 hd2
          go_loopw [7] (fun u wr => ∃ j : Nat, u = iv j ∧ Hid (j ≤ nn ∧ Below W2.heap.size W2 wr ∧ (veto = false ∨ (no.take j).all (fun s => decide (s = au)) = true))) (fun u _ => nn - (intOf u).toNat)
          case atStart => exact ⟨0, rfl, Nat.zero_le _, HB7.out, .inr rfl⟩
          case round =>
            obtain ⟨j, rfl, HJ⟩ := hrel
            have k37 : wr.cell? ⟨g, 37, none⟩ = some (.slice na nn nc) := (HJ.out.2.1.cell (p := ⟨g, 37, none⟩) HG.out.1).trans HG.out.2.2.2.2.2.1
            by_cases hj : j = nn
            · have q3 : (nn : Int) ≤ (j : Int) := by omega
              have HR : Hid (b0 = true) := by
                show _ = _
                rw [← HPB2.out]
                rcases HJ.out.2.2 with h0 | h0
                · simp [h0]
                · rw [hj, ← HYL.out.2.1, List.take_length] at h0
                  simp [h0]
              have HBJ := HJ.out.2.1
              clear HJ hj
              go_wp2
              go_ret
              exact ⟨by rw [HR.out]; rfl, below_tr HB.out HBJ⟩
            · have q4 : j < nn := by have := HJ.out.1; omega
              have q3 : (j : Int) < (nn : Int) := by omega
              obtain ⟨b, f, ha, hbl, hc⟩ := HNT.out.2 (by omega)
              subst ha
              obtain ⟨x, hx⟩ : ∃ x, no[j]? = some x := ⟨_, List.getElem?_eq_getElem (by rw [HYL.out.2.1]; exact q4)⟩
              have k1 : wr.cell? ⟨g, 1, none⟩ = some (.string au) := (HJ.out.2.1.cell (p := ⟨g, 1, none⟩) HG.out.1).trans HG.out.2.2.1
              have k2 : wr.cell? ⟨b, f + j, none⟩ = some (.string x) := (HJ.out.2.1.cell (p := ⟨b, f + j, none⟩) hbl).trans (hc j x hx)
              have kq : wr.cell? ⟨q, 1, none⟩ = some (.bool veto) := (HJ.out.2.1.cell (p := ⟨q, 1, none⟩) HG.out.2.1).trans HG.out.2.2.2.2.2.2.2
              have HLb : Hid (g < wr.heap.size ∧ b < wr.heap.size ∧ q < wr.heap.size) := ⟨Nat.lt_of_lt_of_le HG.out.1 HJ.out.2.1.size, Nat.lt_of_lt_of_le hbl HJ.out.2.1.size, Nat.lt_of_lt_of_le HG.out.2.1 HJ.out.2.1.size⟩
              have HX : Hid (no[j]? = some x) := hx
              have HQ4 : Hid (j < nn) := q4
              clear hj hc hx hbl
              cases veto with
              | false =>
                go_wp2_with fail
                refine refp12f (x := x) (au := au) HLb k1 k2 q3 q4 k37 kq rfl ?_
                intro V hV
                have HV : Hid (Below W2.heap.size W2 V) := below_tr HJ.out.2.1 hV
                clear hV k1 k2 kq k37
                go_wp2
                go_roundw
                case rel => exact ⟨j + 1, by simp, HQ4.out, HV.out, .inl (by first | rfl | trivial)⟩
                case measure =>
                  have := HQ4.out
                  simp only [intOf]
                  omega
              | true =>
                by_cases hxa : x = au
                · have hr : (x.toList != au.toList) = false := by rw [bne, eq_iff]; simp [hxa]
                  have HN2 : Hid ((no.take (j + 1)).all (fun s => decide (s = au)) = true) := by
                    show _ = _
                    rw [List.take_add_one, HX.out, List.all_append]
                    rcases HJ.out.2.2 with h0 | h0
                    · cases h0
                    · rw [h0]; simp [hxa]
                  clear hxa
                  go_wp2_with fail
                  refine refp12t (x := x) (au := au) HLb k1 k2 q3 q4 k37 kq hr ?_
                  intro V hV
                  have HV : Hid (Below W2.heap.size W2 V) := below_tr HJ.out.2.1 hV
                  clear hV k1 k2 kq k37
                  go_wp2
                  refine ⟨⟨j + 1, by simp, HQ4.out, HV.out, .inr HN2.out⟩, ?_⟩
                  have := HQ4.out
                  simp only [intOf]
                  omega
                · have hr : (x.toList != au.toList) = true := by rw [bne, eq_iff]; simp [hxa]
                  have HR : Hid (b0 = false) := by
                    show _ = _
                    rw [← HPB2.out]
                    have h0 : (no.all fun s => decide (s = au)) = false := by
                      rw [List.all_eq_false]
                      exact ⟨x, List.mem_of_getElem? HX.out, by simpa using hxa⟩
                    rw [h0]; rfl
                  clear hxa
                  go_wp2_with fail
                  refine refp12t (x := x) (au := au) HLb k1 k2 q3 q4 k37 kq hr ?_
                  intro V hV
                  have HV : Hid (Below W2.heap.size W2 V) := below_tr HJ.out.2.1 hV
                  clear hV k1 k2 kq k37
                  go_wp2
                  go_ret
                  exact ⟨by rw [HR.out]; rfl, below_tr HB.out HV.out⟩
    · have q2 : i < yn := by have := HI.out.1; omega
      have q1 : (i : Int) < (yn : Int) := by omega
      obtain ⟨b, f, ha, hbl, hc⟩ := HYT.out.1.2 (by omega)
      subst ha
      obtain ⟨x, hx⟩ : ∃ x, yes[i]? = some x := ⟨_, List.getElem?_eq_getElem (by rw [HYL.out.1]; exact q2)⟩
      have k1 : wr.cell? ⟨g, 1, none⟩ = some (.string au) := (HI.out.2.1.cell (p := ⟨g, 1, none⟩) HG.out.1).trans HG.out.2.2.1
      have k2 : wr.cell? ⟨b, f + i, none⟩ = some (.string x) := (HI.out.2.1.cell (p := ⟨b, f + i, none⟩) hbl).trans (hc i x hx)
      have HLb : Hid (g < wr.heap.size ∧ b < wr.heap.size ∧ q < wr.heap.size) := ⟨Nat.lt_of_lt_of_le HG.out.1 HI.out.2.1.size, Nat.lt_of_lt_of_le hbl HI.out.2.1.size, Nat.lt_of_lt_of_le HG.out.2.1 HI.out.2.1.size⟩
      have HX : Hid (yes[i]? = some x) := hx
      have HQ2 : Hid (i < yn) := q2
      have HTK : Hid (refYL au (yes.take (i + 1)) = if x = au then refYL au (yes.take i) else withB x (refYL au (yes.take i))) := by
        show _ = _
        rw [List.take_add_one, HX.out]
        exact refYL_snoc au x _
      have HBB : Hid (b < W2.heap.size ∧ W2.cell? ⟨b, f + i, none⟩ = some (.string x)) := ⟨hbl, hc i x hx⟩
      clear hi hc hx hbl
      by_cases hxa : x = au
      · have hr : (x.toList != au.toList) = false := by rw [bne, eq_iff]; simp [hxa]
        have HN2 : Hid (refYL au (yes.take (i + 1)) = refYL au (yes.take i)) := by show _ = _; rw [HTK.out, if_pos hxa]
        clear hxa
        go_wp2_with fail
        refine refp5 (x := x) (au := au) HLb k1 k2 q1 q2 k36 hr ?_
        intro V hV
        have HV : Hid (Below W2.heap.size W2 V ∧ TS V u5 (refYL au (yes.take i))) := ⟨below_tr HI.out.2.1 hV, HI.out.2.2.below hV⟩
        clear hV k1 k2 k36
        go_wp2
        refine ⟨⟨i + 1, by simp, HQ2.out, HV.out.1, by rw [HN2.out]; exact HV.out.2⟩, ?_⟩
        have := HQ2.out
        simp only [intOf]
        omega
      · have hr : (x.toList != au.toList) = true := by rw [bne, eq_iff]; simp [hxa]
        have HN2 : Hid (refYL au (yes.take (i + 1)) = withB x (refYL au (yes.take i))) := by show _ = _; rw [HTK.out, if_neg hxa]
        clear hxa
        go_wp2_with fail
        refine refp5 (x := x) (au := au) HLb k1 k2 q1 q2 k36 hr ?_
        intro V hV
        have HV : Hid (Below W2.heap.size W2 V ∧ TS V u5 (refYL au (yes.take i))) := ⟨below_tr HI.out.2.1 hV, HI.out.2.2.below hV⟩
        have m36 : V.cell? ⟨g, 36, none⟩ = some (.slice (some ⟨b, f, none⟩) yn yc) := (HV.out.1.cell (p := ⟨g, 36, none⟩) HG.out.1).trans HG.out.2.2.2.2.1
        have m2 : V.cell? ⟨b, f + i, none⟩ = some (.string x) := (HV.out.1.cell (p := ⟨b, f + i, none⟩) HBB.out.1).trans HBB.out.2
        have HWI := with_is x (refYL au (yes.take i)) u5 V HV.out.2 (by
          rw [refY_len]
          have h2 := oths_len au (yes.take i).reverse
          have h3 : (othsL au (yes.take i)).length ≤ (yes.take i).length := by simpa [othsL] using h2
          rw [List.length_take] at h3
          have := HYL.out.1; have := HYL.out.2.2
          omega)
        clear hV k1 k2 k36
        go_wp2_with fail
        refine HWI.mono ?_
        rintro e V2 ⟨v', rfl, hts, hb2⟩
        have HV2 : Hid (Below W2.heap.size W2 V2 ∧ TS V2 v' (withB x (refYL au (yes.take i)))) := ⟨below_tr HV.out.1 hb2, hts⟩
        clear HWI hts hb2 m36 m2
        go_wp2
        refine ⟨⟨i + 1, by simp, HQ2.out, HV2.out.1, by rw [HN2.out]; exact HV2.out.2⟩, ?_⟩
        have := HQ2.out
        simp only [intOf]
        omega
#print axioms refPasses_is
end Go.Proofs.Ytaecigpjcbjcbaa.Oct
