/-
  Layer 22 (fields): digitBehind, escaped.
-/
import Derived.Test.YtlbcpbibcfolkaaDoorRds
namespace Go.Proofs.YtlbcpbibcfolkaaDoor.Oct
open Go.RowKit
set_option linter.unusedSimpArgs false
set_option linter.unusedVariables false

set_option maxRecDepth 100000 in
set_option maxHeartbeats 4000000 in
theorem db1t {Q : Exit → Act → World → Prop} {x2 x3 x4 x5 x6 x7 x8 x9 x10 x11 x12 x13 x14 x15 x16 x17 x18 x19 x20 x21 x22 x23 x24 x25 x26 x27 x28 x29 x30 x31 x32 x33 x34 x35 x36 x37 x38 x39 x40 : Value} {ds : List Deferred} {A : World} {g p : Nat} {s : BA} {f r : Nat}
    (HL : Hid (g < A.heap.size)) (c0 : A.cell? ⟨g, 0, none⟩ = some (.string s)) (c1 : A.cell? ⟨g, 1, none⟩ = some (iv (p : Int))) (HW : Hid (IntKind.i64.wrap ((s.size : Int) - (p : Int)) = (r : Int))) (q1 : (r : Int) ≤ (f : Int))
    (hQ : ∀ V1, Below A.heap.size A V1 → Q .normal { tmps := #[.pointer (some ⟨g, 0, none⟩), iv (f : Int), x2, x3, x4, x5, x6, iv (f : Int), .pointer (some ⟨g, 0, none⟩), .pointer (some ⟨g, 0, none⟩), .pointer (some ⟨g, 0, none⟩), .string s, iv (s.size : Int), .pointer (some ⟨g, 0, none⟩), .pointer (some ⟨g, 0, none⟩), .pointer (some ⟨g, 1, none⟩), iv (p : Int), iv (r : Int), .bool true, x19, x20, x21, x22, x23, x24, x25, x26, x27, x28, x29, x30, x31, x32, x33, x34, x35, x36, x37, x38, x39, x40], defers := ds } V1) :
    (Code.region 1 #[{ dst := some 7, op := Op.move (Operand.tmp 1), type := 3, pos := "reader.go:94", after := #[], guard := none }, { dst := some 8, op := Op.move (Operand.tmp 0), type := 72, pos := "reader.go:94", after := #[], guard := none }, { dst := some 9, op := Op.nilCheck (Operand.tmp 8), type := 0, pos := "reader.go:94", after := #[{ on := 1, ground := Ground.data }], guard := none }, { dst := some 10, op := Op.fieldAddr 55 (Operand.tmp 9) 0, type := 0, pos := "reader.go:94", after := #[{ on := 2, ground := Ground.data }], guard := none }, { dst := some 11, op := Op.load 9 (Operand.tmp 10), type := 9, pos := "reader.go:94", after := #[{ on := 3, ground := Ground.data }], guard := none }, { dst := some 12, op := Op.call { callee := Callee.builtin Builtin.len, args := #[Operand.tmp 11], argTypes := #[9] }, type := 3, pos := "reader.go:94", after := #[{ on := 4, ground := Ground.data }], guard := none }, { dst := some 13, op := Op.move (Operand.tmp 0), type := 72, pos := "reader.go:94", after := #[], guard := none }, { dst := some 14, op := Op.nilCheck (Operand.tmp 13), type := 0, pos := "reader.go:94", after := #[{ on := 6, ground := Ground.data }], guard := none }, { dst := some 15, op := Op.fieldAddr 55 (Operand.tmp 14) 1, type := 0, pos := "reader.go:94", after := #[{ on := 7, ground := Ground.data }], guard := none }, { dst := some 16, op := Op.load 3 (Operand.tmp 15), type := 3, pos := "reader.go:94", after := #[{ on := 8, ground := Ground.data }], guard := none }, { dst := some 17, op := Op.binOp BinOp.sub 3 (Operand.tmp 12) (Operand.tmp 16) 3, type := 3, pos := "reader.go:94", after := #[{ on := 5, ground := Ground.data }, { on := 9, ground := Ground.data }], guard := none }, { dst := some 18, op := Op.binOp BinOp.geq 3 (Operand.tmp 7) (Operand.tmp 17) 3, type := 4, pos := "reader.go:94", after := #[{ on := 0, ground := Ground.data }, { on := 10, ground := Ground.data }], guard := none }] true).wp Tryd.prog Q { tmps := #[.pointer (some ⟨g, 0, none⟩), iv (f : Int), x2, x3, x4, x5, x6, x7, x8, x9, x10, x11, x12, x13, x14, x15, x16, x17, x18, x19, x20, x21, x22, x23, x24, x25, x26, x27, x28, x29, x30, x31, x32, x33, x34, x35, x36, x37, x38, x39, x40], defers := ds } A := by
  refine Code.wp_mono (Q := fun x a' w' => match x with | .normal => Q .normal a' w' | _ => False) (by intro x a' w' h; cases x <;> first | exact h | exact h.elim) ?_
  refine wp_region_held (S := fun V => Below A.heap.size A V) (by kernel_rfl) ?_
  have hS0 : Hid (Below A.heap.size A A.drew) := below_drew0 A
  change wpAnyH Tryd.prog .any _ _ (fun V => Below A.heap.size A V) 12 (Array.replicate 12 false) _ A.drew
  obtain ⟨V0, hV0⟩ : ∃ V0, A.drew = V0 := ⟨_, rfl⟩
  rw [hV0]
  rw [hV0] at hS0
  clear hV0
  refine wpAnyH_take (i := 0) (oi := { dst := some 7, op := Op.move (Operand.tmp 1), type := 3, pos := "reader.go:94", after := #[], guard := none }) (v := iv (f : Int)) rfl (by kernel_rfl) (by kernel_rfl) (by kernel_rfl) (fun _ _ _ h => h.elim) (Or.inl ⟨by rfl, ?y1⟩) hS0.out ?_
  case y1 =>
    intro V hV
    go_simp
  simp only [Act.put, List.setIfInBounds_toArray, List.set_cons_zero, List.set_cons_succ]
  refine wpAnyH_take (i := 1) (oi := { dst := some 8, op := Op.move (Operand.tmp 0), type := 72, pos := "reader.go:94", after := #[], guard := none }) (v := .pointer (some ⟨g, 0, none⟩)) rfl (by kernel_rfl) (by kernel_rfl) (by kernel_rfl) (fun _ _ _ h => h.elim) (Or.inl ⟨by rfl, ?y2⟩) hS0.out ?_
  case y2 =>
    intro V hV
    go_simp
  simp only [Act.put, List.setIfInBounds_toArray, List.set_cons_zero, List.set_cons_succ]
  refine wpAnyH_take (i := 2) (oi := { dst := some 9, op := Op.nilCheck (Operand.tmp 8), type := 0, pos := "reader.go:94", after := #[{ on := 1, ground := Ground.data }], guard := none }) (v := .pointer (some ⟨g, 0, none⟩)) rfl (by kernel_rfl) (by kernel_rfl) (by kernel_rfl) (fun _ _ _ h => h.elim) (Or.inl ⟨by rfl, ?y3⟩) hS0.out ?_
  case y3 =>
    intro V hV
    go_simp
  simp only [Act.put, List.setIfInBounds_toArray, List.set_cons_zero, List.set_cons_succ]
  refine wpAnyH_take (i := 3) (oi := { dst := some 10, op := Op.fieldAddr 55 (Operand.tmp 9) 0, type := 0, pos := "reader.go:94", after := #[{ on := 2, ground := Ground.data }], guard := none }) (v := .pointer (some ⟨g, 0, none⟩)) rfl (by kernel_rfl) (by kernel_rfl) (by kernel_rfl) (fun _ _ _ h => h.elim) (Or.inl ⟨by rfl, ?y4⟩) hS0.out ?_
  case y4 =>
    intro V hV
    go_simp
  simp only [Act.put, List.setIfInBounds_toArray, List.set_cons_zero, List.set_cons_succ]
  refine wpAnyH_take (i := 4) (oi := { dst := some 11, op := Op.load 9 (Operand.tmp 10), type := 9, pos := "reader.go:94", after := #[{ on := 3, ground := Ground.data }], guard := none }) (v := .string s) rfl (by kernel_rfl) (by kernel_rfl) (by kernel_rfl) (fun _ _ _ h => h.elim) (Or.inl ⟨by rfl, ?y5⟩) hS0.out ?_
  case y5 =>
    intro V hV
    have hc : V.cell? ⟨g, 0, none⟩ = some (.string s) := ((show Below A.heap.size A V from hV).cell (p := ⟨g, 0, none⟩) HL.out).trans c0
    go_simp
  simp only [Act.put, List.setIfInBounds_toArray, List.set_cons_zero, List.set_cons_succ]
  refine wpAnyH_take (i := 5) (oi := { dst := some 12, op := Op.call { callee := Callee.builtin Builtin.len, args := #[Operand.tmp 11], argTypes := #[9] }, type := 3, pos := "reader.go:94", after := #[{ on := 4, ground := Ground.data }], guard := none }) (v := iv (s.size : Int)) rfl (by kernel_rfl) (by kernel_rfl) (by kernel_rfl) (fun _ _ _ h => h.elim) (Or.inl ⟨by rfl, ?y6⟩) hS0.out ?_
  case y6 =>
    intro V hV
    go_simp
  simp only [Act.put, List.setIfInBounds_toArray, List.set_cons_zero, List.set_cons_succ]
  refine wpAnyH_take (i := 6) (oi := { dst := some 13, op := Op.move (Operand.tmp 0), type := 72, pos := "reader.go:94", after := #[], guard := none }) (v := .pointer (some ⟨g, 0, none⟩)) rfl (by kernel_rfl) (by kernel_rfl) (by kernel_rfl) (fun _ _ _ h => h.elim) (Or.inl ⟨by rfl, ?y7⟩) hS0.out ?_
  case y7 =>
    intro V hV
    go_simp
  simp only [Act.put, List.setIfInBounds_toArray, List.set_cons_zero, List.set_cons_succ]
  refine wpAnyH_take (i := 7) (oi := { dst := some 14, op := Op.nilCheck (Operand.tmp 13), type := 0, pos := "reader.go:94", after := #[{ on := 6, ground := Ground.data }], guard := none }) (v := .pointer (some ⟨g, 0, none⟩)) rfl (by kernel_rfl) (by kernel_rfl) (by kernel_rfl) (fun _ _ _ h => h.elim) (Or.inl ⟨by rfl, ?y8⟩) hS0.out ?_
  case y8 =>
    intro V hV
    go_simp
  simp only [Act.put, List.setIfInBounds_toArray, List.set_cons_zero, List.set_cons_succ]
  refine wpAnyH_take (i := 8) (oi := { dst := some 15, op := Op.fieldAddr 55 (Operand.tmp 14) 1, type := 0, pos := "reader.go:94", after := #[{ on := 7, ground := Ground.data }], guard := none }) (v := .pointer (some ⟨g, 1, none⟩)) rfl (by kernel_rfl) (by kernel_rfl) (by kernel_rfl) (fun _ _ _ h => h.elim) (Or.inl ⟨by rfl, ?y9⟩) hS0.out ?_
  case y9 =>
    intro V hV
    go_simp
  simp only [Act.put, List.setIfInBounds_toArray, List.set_cons_zero, List.set_cons_succ]
  refine wpAnyH_take (i := 9) (oi := { dst := some 16, op := Op.load 3 (Operand.tmp 15), type := 3, pos := "reader.go:94", after := #[{ on := 8, ground := Ground.data }], guard := none }) (v := iv (p : Int)) rfl (by kernel_rfl) (by kernel_rfl) (by kernel_rfl) (fun _ _ _ h => h.elim) (Or.inl ⟨by rfl, ?y10⟩) hS0.out ?_
  case y10 =>
    intro V hV
    have hc : V.cell? ⟨g, 1, none⟩ = some (iv (p : Int)) := ((show Below A.heap.size A V from hV).cell (p := ⟨g, 1, none⟩) HL.out).trans c1
    go_simp
  simp only [Act.put, List.setIfInBounds_toArray, List.set_cons_zero, List.set_cons_succ]
  refine wpAnyH_take (i := 10) (oi := { dst := some 17, op := Op.binOp BinOp.sub 3 (Operand.tmp 12) (Operand.tmp 16) 3, type := 3, pos := "reader.go:94", after := #[{ on := 5, ground := Ground.data }, { on := 9, ground := Ground.data }], guard := none }) (v := iv (r : Int)) rfl (by kernel_rfl) (by kernel_rfl) (by kernel_rfl) (fun _ _ _ h => h.elim) (Or.inl ⟨by rfl, ?y11⟩) hS0.out ?_
  case y11 =>
    intro V hV
    have qx : IntKind.i64.wrap ((s.size : Int) - (p : Int)) = (r : Int) := HW.out
    go_simp
  simp only [Act.put, List.setIfInBounds_toArray, List.set_cons_zero, List.set_cons_succ]
  refine wpAnyH_take (i := 11) (oi := { dst := some 18, op := Op.binOp BinOp.geq 3 (Operand.tmp 7) (Operand.tmp 17) 3, type := 4, pos := "reader.go:94", after := #[{ on := 0, ground := Ground.data }, { on := 10, ground := Ground.data }], guard := none }) (v := .bool true) rfl (by kernel_rfl) (by kernel_rfl) (by kernel_rfl) (fun _ _ _ h => h.elim) (Or.inl ⟨by rfl, ?y12⟩) hS0.out ?_
  case y12 =>
    intro V hV
    have hcmp := q1
    go_simp <;> omega
  simp only [Act.put, List.setIfInBounds_toArray, List.set_cons_zero, List.set_cons_succ]
  refine wpAnyH_done (by kernel_rfl) ?_ _
  exact hQ V0 hS0.out
#print axioms db1t
set_option maxRecDepth 100000 in
set_option maxHeartbeats 4000000 in
theorem db1f {Q : Exit → Act → World → Prop} {x2 x3 x4 x5 x6 x7 x8 x9 x10 x11 x12 x13 x14 x15 x16 x17 x18 x19 x20 x21 x22 x23 x24 x25 x26 x27 x28 x29 x30 x31 x32 x33 x34 x35 x36 x37 x38 x39 x40 : Value} {ds : List Deferred} {A : World} {g p : Nat} {s : BA} {f r : Nat}
    (HL : Hid (g < A.heap.size)) (c0 : A.cell? ⟨g, 0, none⟩ = some (.string s)) (c1 : A.cell? ⟨g, 1, none⟩ = some (iv (p : Int))) (HW : Hid (IntKind.i64.wrap ((s.size : Int) - (p : Int)) = (r : Int))) (q1 : (f : Int) < (r : Int))
    (hQ : ∀ V1, Below A.heap.size A V1 → Q .normal { tmps := #[.pointer (some ⟨g, 0, none⟩), iv (f : Int), x2, x3, x4, x5, x6, iv (f : Int), .pointer (some ⟨g, 0, none⟩), .pointer (some ⟨g, 0, none⟩), .pointer (some ⟨g, 0, none⟩), .string s, iv (s.size : Int), .pointer (some ⟨g, 0, none⟩), .pointer (some ⟨g, 0, none⟩), .pointer (some ⟨g, 1, none⟩), iv (p : Int), iv (r : Int), .bool false, x19, x20, x21, x22, x23, x24, x25, x26, x27, x28, x29, x30, x31, x32, x33, x34, x35, x36, x37, x38, x39, x40], defers := ds } V1) :
    (Code.region 1 #[{ dst := some 7, op := Op.move (Operand.tmp 1), type := 3, pos := "reader.go:94", after := #[], guard := none }, { dst := some 8, op := Op.move (Operand.tmp 0), type := 72, pos := "reader.go:94", after := #[], guard := none }, { dst := some 9, op := Op.nilCheck (Operand.tmp 8), type := 0, pos := "reader.go:94", after := #[{ on := 1, ground := Ground.data }], guard := none }, { dst := some 10, op := Op.fieldAddr 55 (Operand.tmp 9) 0, type := 0, pos := "reader.go:94", after := #[{ on := 2, ground := Ground.data }], guard := none }, { dst := some 11, op := Op.load 9 (Operand.tmp 10), type := 9, pos := "reader.go:94", after := #[{ on := 3, ground := Ground.data }], guard := none }, { dst := some 12, op := Op.call { callee := Callee.builtin Builtin.len, args := #[Operand.tmp 11], argTypes := #[9] }, type := 3, pos := "reader.go:94", after := #[{ on := 4, ground := Ground.data }], guard := none }, { dst := some 13, op := Op.move (Operand.tmp 0), type := 72, pos := "reader.go:94", after := #[], guard := none }, { dst := some 14, op := Op.nilCheck (Operand.tmp 13), type := 0, pos := "reader.go:94", after := #[{ on := 6, ground := Ground.data }], guard := none }, { dst := some 15, op := Op.fieldAddr 55 (Operand.tmp 14) 1, type := 0, pos := "reader.go:94", after := #[{ on := 7, ground := Ground.data }], guard := none }, { dst := some 16, op := Op.load 3 (Operand.tmp 15), type := 3, pos := "reader.go:94", after := #[{ on := 8, ground := Ground.data }], guard := none }, { dst := some 17, op := Op.binOp BinOp.sub 3 (Operand.tmp 12) (Operand.tmp 16) 3, type := 3, pos := "reader.go:94", after := #[{ on := 5, ground := Ground.data }, { on := 9, ground := Ground.data }], guard := none }, { dst := some 18, op := Op.binOp BinOp.geq 3 (Operand.tmp 7) (Operand.tmp 17) 3, type := 4, pos := "reader.go:94", after := #[{ on := 0, ground := Ground.data }, { on := 10, ground := Ground.data }], guard := none }] true).wp Tryd.prog Q { tmps := #[.pointer (some ⟨g, 0, none⟩), iv (f : Int), x2, x3, x4, x5, x6, x7, x8, x9, x10, x11, x12, x13, x14, x15, x16, x17, x18, x19, x20, x21, x22, x23, x24, x25, x26, x27, x28, x29, x30, x31, x32, x33, x34, x35, x36, x37, x38, x39, x40], defers := ds } A := by
  refine Code.wp_mono (Q := fun x a' w' => match x with | .normal => Q .normal a' w' | _ => False) (by intro x a' w' h; cases x <;> first | exact h | exact h.elim) ?_
  refine wp_region_held (S := fun V => Below A.heap.size A V) (by kernel_rfl) ?_
  have hS0 : Hid (Below A.heap.size A A.drew) := below_drew0 A
  change wpAnyH Tryd.prog .any _ _ (fun V => Below A.heap.size A V) 12 (Array.replicate 12 false) _ A.drew
  obtain ⟨V0, hV0⟩ : ∃ V0, A.drew = V0 := ⟨_, rfl⟩
  rw [hV0]
  rw [hV0] at hS0
  clear hV0
  refine wpAnyH_take (i := 0) (oi := { dst := some 7, op := Op.move (Operand.tmp 1), type := 3, pos := "reader.go:94", after := #[], guard := none }) (v := iv (f : Int)) rfl (by kernel_rfl) (by kernel_rfl) (by kernel_rfl) (fun _ _ _ h => h.elim) (Or.inl ⟨by rfl, ?y1⟩) hS0.out ?_
  case y1 =>
    intro V hV
    go_simp
  simp only [Act.put, List.setIfInBounds_toArray, List.set_cons_zero, List.set_cons_succ]
  refine wpAnyH_take (i := 1) (oi := { dst := some 8, op := Op.move (Operand.tmp 0), type := 72, pos := "reader.go:94", after := #[], guard := none }) (v := .pointer (some ⟨g, 0, none⟩)) rfl (by kernel_rfl) (by kernel_rfl) (by kernel_rfl) (fun _ _ _ h => h.elim) (Or.inl ⟨by rfl, ?y2⟩) hS0.out ?_
  case y2 =>
    intro V hV
    go_simp
  simp only [Act.put, List.setIfInBounds_toArray, List.set_cons_zero, List.set_cons_succ]
  refine wpAnyH_take (i := 2) (oi := { dst := some 9, op := Op.nilCheck (Operand.tmp 8), type := 0, pos := "reader.go:94", after := #[{ on := 1, ground := Ground.data }], guard := none }) (v := .pointer (some ⟨g, 0, none⟩)) rfl (by kernel_rfl) (by kernel_rfl) (by kernel_rfl) (fun _ _ _ h => h.elim) (Or.inl ⟨by rfl, ?y3⟩) hS0.out ?_
  case y3 =>
    intro V hV
    go_simp
  simp only [Act.put, List.setIfInBounds_toArray, List.set_cons_zero, List.set_cons_succ]
  refine wpAnyH_take (i := 3) (oi := { dst := some 10, op := Op.fieldAddr 55 (Operand.tmp 9) 0, type := 0, pos := "reader.go:94", after := #[{ on := 2, ground := Ground.data }], guard := none }) (v := .pointer (some ⟨g, 0, none⟩)) rfl (by kernel_rfl) (by kernel_rfl) (by kernel_rfl) (fun _ _ _ h => h.elim) (Or.inl ⟨by rfl, ?y4⟩) hS0.out ?_
  case y4 =>
    intro V hV
    go_simp
  simp only [Act.put, List.setIfInBounds_toArray, List.set_cons_zero, List.set_cons_succ]
  refine wpAnyH_take (i := 4) (oi := { dst := some 11, op := Op.load 9 (Operand.tmp 10), type := 9, pos := "reader.go:94", after := #[{ on := 3, ground := Ground.data }], guard := none }) (v := .string s) rfl (by kernel_rfl) (by kernel_rfl) (by kernel_rfl) (fun _ _ _ h => h.elim) (Or.inl ⟨by rfl, ?y5⟩) hS0.out ?_
  case y5 =>
    intro V hV
    have hc : V.cell? ⟨g, 0, none⟩ = some (.string s) := ((show Below A.heap.size A V from hV).cell (p := ⟨g, 0, none⟩) HL.out).trans c0
    go_simp
  simp only [Act.put, List.setIfInBounds_toArray, List.set_cons_zero, List.set_cons_succ]
  refine wpAnyH_take (i := 5) (oi := { dst := some 12, op := Op.call { callee := Callee.builtin Builtin.len, args := #[Operand.tmp 11], argTypes := #[9] }, type := 3, pos := "reader.go:94", after := #[{ on := 4, ground := Ground.data }], guard := none }) (v := iv (s.size : Int)) rfl (by kernel_rfl) (by kernel_rfl) (by kernel_rfl) (fun _ _ _ h => h.elim) (Or.inl ⟨by rfl, ?y6⟩) hS0.out ?_
  case y6 =>
    intro V hV
    go_simp
  simp only [Act.put, List.setIfInBounds_toArray, List.set_cons_zero, List.set_cons_succ]
  refine wpAnyH_take (i := 6) (oi := { dst := some 13, op := Op.move (Operand.tmp 0), type := 72, pos := "reader.go:94", after := #[], guard := none }) (v := .pointer (some ⟨g, 0, none⟩)) rfl (by kernel_rfl) (by kernel_rfl) (by kernel_rfl) (fun _ _ _ h => h.elim) (Or.inl ⟨by rfl, ?y7⟩) hS0.out ?_
  case y7 =>
    intro V hV
    go_simp
  simp only [Act.put, List.setIfInBounds_toArray, List.set_cons_zero, List.set_cons_succ]
  refine wpAnyH_take (i := 7) (oi := { dst := some 14, op := Op.nilCheck (Operand.tmp 13), type := 0, pos := "reader.go:94", after := #[{ on := 6, ground := Ground.data }], guard := none }) (v := .pointer (some ⟨g, 0, none⟩)) rfl (by kernel_rfl) (by kernel_rfl) (by kernel_rfl) (fun _ _ _ h => h.elim) (Or.inl ⟨by rfl, ?y8⟩) hS0.out ?_
  case y8 =>
    intro V hV
    go_simp
  simp only [Act.put, List.setIfInBounds_toArray, List.set_cons_zero, List.set_cons_succ]
  refine wpAnyH_take (i := 8) (oi := { dst := some 15, op := Op.fieldAddr 55 (Operand.tmp 14) 1, type := 0, pos := "reader.go:94", after := #[{ on := 7, ground := Ground.data }], guard := none }) (v := .pointer (some ⟨g, 1, none⟩)) rfl (by kernel_rfl) (by kernel_rfl) (by kernel_rfl) (fun _ _ _ h => h.elim) (Or.inl ⟨by rfl, ?y9⟩) hS0.out ?_
  case y9 =>
    intro V hV
    go_simp
  simp only [Act.put, List.setIfInBounds_toArray, List.set_cons_zero, List.set_cons_succ]
  refine wpAnyH_take (i := 9) (oi := { dst := some 16, op := Op.load 3 (Operand.tmp 15), type := 3, pos := "reader.go:94", after := #[{ on := 8, ground := Ground.data }], guard := none }) (v := iv (p : Int)) rfl (by kernel_rfl) (by kernel_rfl) (by kernel_rfl) (fun _ _ _ h => h.elim) (Or.inl ⟨by rfl, ?y10⟩) hS0.out ?_
  case y10 =>
    intro V hV
    have hc : V.cell? ⟨g, 1, none⟩ = some (iv (p : Int)) := ((show Below A.heap.size A V from hV).cell (p := ⟨g, 1, none⟩) HL.out).trans c1
    go_simp
  simp only [Act.put, List.setIfInBounds_toArray, List.set_cons_zero, List.set_cons_succ]
  refine wpAnyH_take (i := 10) (oi := { dst := some 17, op := Op.binOp BinOp.sub 3 (Operand.tmp 12) (Operand.tmp 16) 3, type := 3, pos := "reader.go:94", after := #[{ on := 5, ground := Ground.data }, { on := 9, ground := Ground.data }], guard := none }) (v := iv (r : Int)) rfl (by kernel_rfl) (by kernel_rfl) (by kernel_rfl) (fun _ _ _ h => h.elim) (Or.inl ⟨by rfl, ?y11⟩) hS0.out ?_
  case y11 =>
    intro V hV
    have qx : IntKind.i64.wrap ((s.size : Int) - (p : Int)) = (r : Int) := HW.out
    go_simp
  simp only [Act.put, List.setIfInBounds_toArray, List.set_cons_zero, List.set_cons_succ]
  refine wpAnyH_take (i := 11) (oi := { dst := some 18, op := Op.binOp BinOp.geq 3 (Operand.tmp 7) (Operand.tmp 17) 3, type := 4, pos := "reader.go:94", after := #[{ on := 0, ground := Ground.data }, { on := 10, ground := Ground.data }], guard := none }) (v := .bool false) rfl (by kernel_rfl) (by kernel_rfl) (by kernel_rfl) (fun _ _ _ h => h.elim) (Or.inl ⟨by rfl, ?y12⟩) hS0.out ?_
  case y12 =>
    intro V hV
    have hcmp := q1
    go_simp <;> omega
  simp only [Act.put, List.setIfInBounds_toArray, List.set_cons_zero, List.set_cons_succ]
  refine wpAnyH_done (by kernel_rfl) ?_ _
  exact hQ V0 hS0.out
#print axioms db1f
set_option maxRecDepth 100000 in
set_option maxHeartbeats 4000000 in
theorem db3 {Q : Exit → Act → World → Prop} {x2 x3 x4 x5 x6 x7 x8 x9 x10 x11 x12 x13 x14 x15 x16 x17 x18 x19 x20 x21 x22 x23 x24 x25 x26 x27 x28 x29 x30 x31 x32 x33 x34 x35 x36 x37 x38 x39 x40 : Value} {ds : List Deferred} {A : World} {g p : Nat} {s : BA} {f k : Nat} {c : UInt8} {d : Int} {E : Bool}
    (HL : Hid (g < A.heap.size)) (c0 : A.cell? ⟨g, 0, none⟩ = some (.string s)) (c1 : A.cell? ⟨g, 1, none⟩ = some (iv (p : Int))) (HW : Hid (IntKind.i64.wrap ((p : Int) + (f : Int)) = (k : Int))) (HC : Hid (s.data.toList[k]? = some c)) (H54 : Hid (∀ V, Below A.heap.size A V → Calls Tryd.prog 54 #[bv (c.toNat : Int)] V fun e V2 => e = .returned (.tuple #[bv d, .bool E]) ∧ Below V.heap.size V V2))
    (hQ : ∀ V1, Below A.heap.size A V1 → Q .normal { tmps := #[.pointer (some ⟨g, 0, none⟩), iv (f : Int), x2, x3, x4, bv d, .bool E, x7, x8, x9, x10, x11, x12, x13, x14, x15, x16, x17, x18, x19, x20, .tuple #[bv d, .bool E], .pointer (some ⟨g, 0, none⟩), .pointer (some ⟨g, 0, none⟩), .pointer (some ⟨g, 0, none⟩), .string s, .pointer (some ⟨g, 0, none⟩), .pointer (some ⟨g, 0, none⟩), .pointer (some ⟨g, 1, none⟩), iv (p : Int), iv (f : Int), iv (k : Int), bv (c.toNat : Int), .tuple #[bv d, .bool E], bv d, .bool E, x36, x37, x38, x39, x40], defers := ds } V1) :
    (Code.region 3 #[{ dst := some 22, op := Op.move (Operand.tmp 0), type := 72, pos := "reader.go:97", after := #[], guard := none }, { dst := some 23, op := Op.nilCheck (Operand.tmp 22), type := 0, pos := "reader.go:97", after := #[{ on := 0, ground := Ground.data }], guard := none }, { dst := some 24, op := Op.fieldAddr 55 (Operand.tmp 23) 0, type := 0, pos := "reader.go:97", after := #[{ on := 1, ground := Ground.data }], guard := none }, { dst := some 25, op := Op.load 9 (Operand.tmp 24), type := 9, pos := "reader.go:97", after := #[{ on := 2, ground := Ground.data }], guard := none }, { dst := some 26, op := Op.move (Operand.tmp 0), type := 72, pos := "reader.go:97", after := #[], guard := none }, { dst := some 27, op := Op.nilCheck (Operand.tmp 26), type := 0, pos := "reader.go:97", after := #[{ on := 4, ground := Ground.data }], guard := none }, { dst := some 28, op := Op.fieldAddr 55 (Operand.tmp 27) 1, type := 0, pos := "reader.go:97", after := #[{ on := 5, ground := Ground.data }], guard := none }, { dst := some 29, op := Op.load 3 (Operand.tmp 28), type := 3, pos := "reader.go:97", after := #[{ on := 6, ground := Ground.data }], guard := none }, { dst := some 30, op := Op.move (Operand.tmp 1), type := 3, pos := "reader.go:97", after := #[], guard := none }, { dst := some 31, op := Op.binOp BinOp.add 3 (Operand.tmp 29) (Operand.tmp 30) 3, type := 3, pos := "reader.go:97", after := #[{ on := 7, ground := Ground.data }, { on := 8, ground := Ground.data }], guard := none }, { dst := some 32, op := Op.index 9 (Operand.tmp 25) (Operand.tmp 31), type := 5, pos := "reader.go:97", after := #[{ on := 3, ground := Ground.data }, { on := 9, ground := Ground.data }], guard := none }, { dst := some 33, op := Op.call { callee := Callee.value (Operand.func 54), args := #[Operand.tmp 32], argTypes := #[5] }, type := 107, pos := "reader.go:97", after := #[{ on := 10, ground := Ground.data }], guard := none }, { dst := some 21, op := Op.move (Operand.tmp 33), type := 107, pos := "reader.go:97", after := #[{ on := 11, ground := Ground.data }], guard := none }, { dst := some 34, op := Op.extract (Operand.tmp 21) 0, type := 5, pos := "reader.go:97", after := #[{ on := 12, ground := Ground.data }], guard := none }, { dst := some 35, op := Op.extract (Operand.tmp 21) 1, type := 4, pos := "reader.go:97", after := #[{ on := 12, ground := Ground.data }, { on := 15, ground := Ground.gcOnly Departure.lateStores }], guard := none }, { dst := some 5, op := Op.assign (Operand.tmp 34), type := 5, pos := "reader.go:97", after := #[{ on := 13, ground := Ground.data }, { on := 11, ground := Ground.chain }, { on := 0, ground := Ground.phase }, { on := 1, ground := Ground.phase }, { on := 2, ground := Ground.phase }, { on := 3, ground := Ground.phase }, { on := 4, ground := Ground.phase }, { on := 5, ground := Ground.phase }, { on := 6, ground := Ground.phase }, { on := 7, ground := Ground.phase }, { on := 8, ground := Ground.phase }, { on := 9, ground := Ground.phase }, { on := 10, ground := Ground.phase }, { on := 11, ground := Ground.phase }, { on := 12, ground := Ground.phase }, { on := 13, ground := Ground.phase }, { on := 14, ground := Ground.textOnly Departure.lateStores }], guard := none }, { dst := some 6, op := Op.assign (Operand.tmp 35), type := 4, pos := "reader.go:97", after := #[{ on := 14, ground := Ground.data }, { on := 15, ground := Ground.chain }, { on := 0, ground := Ground.phase }, { on := 1, ground := Ground.phase }, { on := 2, ground := Ground.phase }, { on := 3, ground := Ground.phase }, { on := 4, ground := Ground.phase }, { on := 5, ground := Ground.phase }, { on := 6, ground := Ground.phase }, { on := 7, ground := Ground.phase }, { on := 8, ground := Ground.phase }, { on := 9, ground := Ground.phase }, { on := 10, ground := Ground.phase }, { on := 11, ground := Ground.phase }, { on := 12, ground := Ground.phase }, { on := 13, ground := Ground.phase }, { on := 14, ground := Ground.phase }, { on := 15, ground := Ground.phase }], guard := none }] true).wp Tryd.prog Q { tmps := #[.pointer (some ⟨g, 0, none⟩), iv (f : Int), x2, x3, x4, x5, x6, x7, x8, x9, x10, x11, x12, x13, x14, x15, x16, x17, x18, x19, x20, x21, x22, x23, x24, x25, x26, x27, x28, x29, x30, x31, x32, x33, x34, x35, x36, x37, x38, x39, x40], defers := ds } A := by
  refine Code.wp_mono (Q := fun x a' w' => match x with | .normal => Q .normal a' w' | _ => False) (by intro x a' w' h; cases x <;> first | exact h | exact h.elim) ?_
  refine wp_region_held (S := fun V => Below A.heap.size A V) (by kernel_rfl) ?_
  have hS0 : Hid (Below A.heap.size A A.drew) := below_drew0 A
  change wpAnyH Tryd.prog .any _ _ (fun V => Below A.heap.size A V) 17 (Array.replicate 17 false) _ A.drew
  obtain ⟨V0, hV0⟩ : ∃ V0, A.drew = V0 := ⟨_, rfl⟩
  rw [hV0]
  rw [hV0] at hS0
  clear hV0
  refine wpAnyH_take (i := 0) (oi := { dst := some 22, op := Op.move (Operand.tmp 0), type := 72, pos := "reader.go:97", after := #[], guard := none }) (v := .pointer (some ⟨g, 0, none⟩)) rfl (by kernel_rfl) (by kernel_rfl) (by kernel_rfl) (fun _ _ _ h => h.elim) (Or.inl ⟨by rfl, ?y1⟩) hS0.out ?_
  case y1 =>
    intro V hV
    go_simp
  simp only [Act.put, List.setIfInBounds_toArray, List.set_cons_zero, List.set_cons_succ]
  refine wpAnyH_take (i := 1) (oi := { dst := some 23, op := Op.nilCheck (Operand.tmp 22), type := 0, pos := "reader.go:97", after := #[{ on := 0, ground := Ground.data }], guard := none }) (v := .pointer (some ⟨g, 0, none⟩)) rfl (by kernel_rfl) (by kernel_rfl) (by kernel_rfl) (fun _ _ _ h => h.elim) (Or.inl ⟨by rfl, ?y2⟩) hS0.out ?_
  case y2 =>
    intro V hV
    go_simp
  simp only [Act.put, List.setIfInBounds_toArray, List.set_cons_zero, List.set_cons_succ]
  refine wpAnyH_take (i := 2) (oi := { dst := some 24, op := Op.fieldAddr 55 (Operand.tmp 23) 0, type := 0, pos := "reader.go:97", after := #[{ on := 1, ground := Ground.data }], guard := none }) (v := .pointer (some ⟨g, 0, none⟩)) rfl (by kernel_rfl) (by kernel_rfl) (by kernel_rfl) (fun _ _ _ h => h.elim) (Or.inl ⟨by rfl, ?y3⟩) hS0.out ?_
  case y3 =>
    intro V hV
    go_simp
  simp only [Act.put, List.setIfInBounds_toArray, List.set_cons_zero, List.set_cons_succ]
  refine wpAnyH_take (i := 3) (oi := { dst := some 25, op := Op.load 9 (Operand.tmp 24), type := 9, pos := "reader.go:97", after := #[{ on := 2, ground := Ground.data }], guard := none }) (v := .string s) rfl (by kernel_rfl) (by kernel_rfl) (by kernel_rfl) (fun _ _ _ h => h.elim) (Or.inl ⟨by rfl, ?y4⟩) hS0.out ?_
  case y4 =>
    intro V hV
    have hc : V.cell? ⟨g, 0, none⟩ = some (.string s) := ((show Below A.heap.size A V from hV).cell (p := ⟨g, 0, none⟩) HL.out).trans c0
    go_simp
  simp only [Act.put, List.setIfInBounds_toArray, List.set_cons_zero, List.set_cons_succ]
  refine wpAnyH_take (i := 4) (oi := { dst := some 26, op := Op.move (Operand.tmp 0), type := 72, pos := "reader.go:97", after := #[], guard := none }) (v := .pointer (some ⟨g, 0, none⟩)) rfl (by kernel_rfl) (by kernel_rfl) (by kernel_rfl) (fun _ _ _ h => h.elim) (Or.inl ⟨by rfl, ?y5⟩) hS0.out ?_
  case y5 =>
    intro V hV
    go_simp
  simp only [Act.put, List.setIfInBounds_toArray, List.set_cons_zero, List.set_cons_succ]
  refine wpAnyH_take (i := 5) (oi := { dst := some 27, op := Op.nilCheck (Operand.tmp 26), type := 0, pos := "reader.go:97", after := #[{ on := 4, ground := Ground.data }], guard := none }) (v := .pointer (some ⟨g, 0, none⟩)) rfl (by kernel_rfl) (by kernel_rfl) (by kernel_rfl) (fun _ _ _ h => h.elim) (Or.inl ⟨by rfl, ?y6⟩) hS0.out ?_
  case y6 =>
    intro V hV
    go_simp
  simp only [Act.put, List.setIfInBounds_toArray, List.set_cons_zero, List.set_cons_succ]
  refine wpAnyH_take (i := 6) (oi := { dst := some 28, op := Op.fieldAddr 55 (Operand.tmp 27) 1, type := 0, pos := "reader.go:97", after := #[{ on := 5, ground := Ground.data }], guard := none }) (v := .pointer (some ⟨g, 1, none⟩)) rfl (by kernel_rfl) (by kernel_rfl) (by kernel_rfl) (fun _ _ _ h => h.elim) (Or.inl ⟨by rfl, ?y7⟩) hS0.out ?_
  case y7 =>
    intro V hV
    go_simp
  simp only [Act.put, List.setIfInBounds_toArray, List.set_cons_zero, List.set_cons_succ]
  refine wpAnyH_take (i := 7) (oi := { dst := some 29, op := Op.load 3 (Operand.tmp 28), type := 3, pos := "reader.go:97", after := #[{ on := 6, ground := Ground.data }], guard := none }) (v := iv (p : Int)) rfl (by kernel_rfl) (by kernel_rfl) (by kernel_rfl) (fun _ _ _ h => h.elim) (Or.inl ⟨by rfl, ?y8⟩) hS0.out ?_
  case y8 =>
    intro V hV
    have hc : V.cell? ⟨g, 1, none⟩ = some (iv (p : Int)) := ((show Below A.heap.size A V from hV).cell (p := ⟨g, 1, none⟩) HL.out).trans c1
    go_simp
  simp only [Act.put, List.setIfInBounds_toArray, List.set_cons_zero, List.set_cons_succ]
  refine wpAnyH_take (i := 8) (oi := { dst := some 30, op := Op.move (Operand.tmp 1), type := 3, pos := "reader.go:97", after := #[], guard := none }) (v := iv (f : Int)) rfl (by kernel_rfl) (by kernel_rfl) (by kernel_rfl) (fun _ _ _ h => h.elim) (Or.inl ⟨by rfl, ?y9⟩) hS0.out ?_
  case y9 =>
    intro V hV
    go_simp
  simp only [Act.put, List.setIfInBounds_toArray, List.set_cons_zero, List.set_cons_succ]
  refine wpAnyH_take (i := 9) (oi := { dst := some 31, op := Op.binOp BinOp.add 3 (Operand.tmp 29) (Operand.tmp 30) 3, type := 3, pos := "reader.go:97", after := #[{ on := 7, ground := Ground.data }, { on := 8, ground := Ground.data }], guard := none }) (v := iv (k : Int)) rfl (by kernel_rfl) (by kernel_rfl) (by kernel_rfl) (fun _ _ _ h => h.elim) (Or.inl ⟨by rfl, ?y10⟩) hS0.out ?_
  case y10 =>
    intro V hV
    have qx : IntKind.i64.wrap ((p : Int) + (f : Int)) = (k : Int) := HW.out
    go_simp
  simp only [Act.put, List.setIfInBounds_toArray, List.set_cons_zero, List.set_cons_succ]
  refine wpAnyH_take (i := 10) (oi := { dst := some 32, op := Op.index 9 (Operand.tmp 25) (Operand.tmp 31), type := 5, pos := "reader.go:97", after := #[{ on := 3, ground := Ground.data }, { on := 9, ground := Ground.data }], guard := none }) (v := bv (c.toNat : Int)) rfl (by kernel_rfl) (by kernel_rfl) (by kernel_rfl) (fun _ _ _ h => h.elim) (Or.inl ⟨by rfl, ?y11⟩) hS0.out ?_
  case y11 =>
    intro V hV
    exact yl_idx V _ _ s k c rfl rfl rfl HC.out
  simp only [Act.put, List.setIfInBounds_toArray, List.set_cons_zero, List.set_cons_succ]
  refine wpAnyH_ready (rs := [11]) (by kernel_rfl) (by simp) (AllReadyH.cons (i := 11) (o := { dst := some 33, op := Op.call { callee := Callee.value (Operand.func 54), args := #[Operand.tmp 32], argTypes := #[5] }, type := 107, pos := "reader.go:97", after := #[{ on := 10, ground := Ground.data }], guard := none }) rfl ?_ AllReadyH.nil)
  · intro K1 hK1
    rw [if_pos (by rfl)]
    have HC1 := H54.out V0 hS0.out
    go_wp2_with fail
    refine HC1.mono ?_
    rintro e V1 ⟨rfl, hb1⟩
    dsimp only
    clear HC1
    have hS1 : Hid (Below A.heap.size A V1) := hS0.out.trans (hb1.mono hS0.out.size)
    clear hb1
    refine hK1.out _ _ hS1.out ?_
    clear hK1
    intro _
    try simp only [Act.put, List.setIfInBounds_toArray, List.set_cons_zero, List.set_cons_succ]
    refine wpAnyH_take (i := 12) (oi := { dst := some 21, op := Op.move (Operand.tmp 33), type := 107, pos := "reader.go:97", after := #[{ on := 11, ground := Ground.data }], guard := none }) (v := .tuple #[bv d, .bool E]) rfl (by kernel_rfl) (by kernel_rfl) (by kernel_rfl) (fun _ _ _ h => h.elim) (Or.inl ⟨by rfl, ?y12⟩) hS1.out ?_
    case y12 =>
      intro V hV
      go_simp
    simp only [Act.put, List.setIfInBounds_toArray, List.set_cons_zero, List.set_cons_succ]
    refine wpAnyH_take (i := 13) (oi := { dst := some 34, op := Op.extract (Operand.tmp 21) 0, type := 5, pos := "reader.go:97", after := #[{ on := 12, ground := Ground.data }], guard := none }) (v := bv d) rfl (by kernel_rfl) (by kernel_rfl) (by kernel_rfl) (fun _ _ _ h => h.elim) (Or.inl ⟨by rfl, ?y13⟩) hS1.out ?_
    case y13 =>
      intro V hV
      go_simp
    simp only [Act.put, List.setIfInBounds_toArray, List.set_cons_zero, List.set_cons_succ]
    refine wpAnyH_take (i := 14) (oi := { dst := some 35, op := Op.extract (Operand.tmp 21) 1, type := 4, pos := "reader.go:97", after := #[{ on := 12, ground := Ground.data }, { on := 15, ground := Ground.gcOnly Departure.lateStores }], guard := none }) (v := .bool E) rfl (by kernel_rfl) (by kernel_rfl) (by kernel_rfl) (fun _ _ _ h => h.elim) (Or.inl ⟨by rfl, ?y14⟩) hS1.out ?_
    case y14 =>
      intro V hV
      go_simp
    simp only [Act.put, List.setIfInBounds_toArray, List.set_cons_zero, List.set_cons_succ]
    refine wpAnyH_take (i := 15) (oi := { dst := some 5, op := Op.assign (Operand.tmp 34), type := 5, pos := "reader.go:97", after := #[{ on := 13, ground := Ground.data }, { on := 11, ground := Ground.chain }, { on := 0, ground := Ground.phase }, { on := 1, ground := Ground.phase }, { on := 2, ground := Ground.phase }, { on := 3, ground := Ground.phase }, { on := 4, ground := Ground.phase }, { on := 5, ground := Ground.phase }, { on := 6, ground := Ground.phase }, { on := 7, ground := Ground.phase }, { on := 8, ground := Ground.phase }, { on := 9, ground := Ground.phase }, { on := 10, ground := Ground.phase }, { on := 11, ground := Ground.phase }, { on := 12, ground := Ground.phase }, { on := 13, ground := Ground.phase }, { on := 14, ground := Ground.textOnly Departure.lateStores }], guard := none }) (v := bv d) rfl (by kernel_rfl) (by kernel_rfl) (by kernel_rfl) (fun _ _ _ h => h.elim) (Or.inl ⟨by rfl, ?y15⟩) hS1.out ?_
    case y15 =>
      intro V hV
      go_simp
    simp only [Act.put, List.setIfInBounds_toArray, List.set_cons_zero, List.set_cons_succ]
    refine wpAnyH_take (i := 16) (oi := { dst := some 6, op := Op.assign (Operand.tmp 35), type := 4, pos := "reader.go:97", after := #[{ on := 14, ground := Ground.data }, { on := 15, ground := Ground.chain }, { on := 0, ground := Ground.phase }, { on := 1, ground := Ground.phase }, { on := 2, ground := Ground.phase }, { on := 3, ground := Ground.phase }, { on := 4, ground := Ground.phase }, { on := 5, ground := Ground.phase }, { on := 6, ground := Ground.phase }, { on := 7, ground := Ground.phase }, { on := 8, ground := Ground.phase }, { on := 9, ground := Ground.phase }, { on := 10, ground := Ground.phase }, { on := 11, ground := Ground.phase }, { on := 12, ground := Ground.phase }, { on := 13, ground := Ground.phase }, { on := 14, ground := Ground.phase }, { on := 15, ground := Ground.phase }], guard := none }) (v := .bool E) rfl (by kernel_rfl) (by kernel_rfl) (by kernel_rfl) (fun _ _ _ h => h.elim) (Or.inl ⟨by rfl, ?y16⟩) hS1.out ?_
    case y16 =>
      intro V hV
      go_simp
    simp only [Act.put, List.setIfInBounds_toArray, List.set_cons_zero, List.set_cons_succ]
    refine wpAnyH_done (by kernel_rfl) ?_ _
    exact hQ V1 hS1.out
#print axioms db3
theorem byte_lt (c : UInt8) : (c.toNat : Int) ≤ 255 := by have := c.toNat_lt; omega
def dg (c : UInt8) : Int := dgtI (c.toNat : Int)
theorem dg_bd (c : UInt8) : -1 ≤ dg c ∧ dg c ≤ 15 := by
  unfold dg dgtI
  have := byte_lt c
  split
  · omega
  · split
    · omega
    · split <;> omega
theorem dg_no {c : UInt8} (h : ¬ 0 ≤ dg c) : dg c = -1 := by have := (dg_bd c).1; omega
theorem digit_ok (c : UInt8) (h : 0 ≤ dg c) (V : World) : Calls Tryd.prog 54 #[bv (c.toNat : Int)] V fun e V2 => e = .returned (.tuple #[bv (dg c), .bool true]) ∧ Below V.heap.size V V2 := by
  refine (digit_is (c.toNat : Int) (by omega) (byte_lt c) V).mono fun e V2 h2 => ?_
  obtain ⟨h2, rfl⟩ := h2
  rcases h2 with ⟨_, h3⟩ | ⟨h3, _⟩
  · exact ⟨h3, Below.refl _ _⟩
  · exact absurd h3 (by unfold dg at h; omega)
theorem digit_no (c : UInt8) (h : dg c = -1) (V : World) : Calls Tryd.prog 54 #[bv (c.toNat : Int)] V fun e V2 => e = .returned (.tuple #[bv 0, .bool false]) ∧ Below V.heap.size V V2 := by
  refine (digit_is (c.toNat : Int) (by omega) (byte_lt c) V).mono fun e V2 h2 => ?_
  obtain ⟨h2, rfl⟩ := h2
  rcases h2 with ⟨h3, _⟩ | ⟨_, h3⟩
  · exact absurd h3 (by unfold dg at h; omega)
  · exact ⟨h3, Below.refl _ _⟩
set_option maxRecDepth 100000 in
theorem behind_ok {w : World} {g p f : Nat} {s : BA} (h : Rd w g s p) (hf : f ≤ 2) {c : UInt8} (hc : s.data.toList[p + f]? = some c) (hd : 0 ≤ dg c) : Calls Tryd.prog 50 #[.pointer (some ⟨g, 0, none⟩), iv (f : Int)] w fun e w' => e = .returned (bv (dg c)) ∧ Below w.heap.size w w' := by
  have HR : Hid (Rd w g s p) := h
  have hl := (List.getElem?_eq_some_iff.1 hc).1
  have hl2 : s.data.toList.length = s.size := rfl
  have hz := h.2.1
  obtain ⟨r, hr⟩ : ∃ r, s.size - p = r := ⟨_, rfl⟩
  obtain ⟨k, hk⟩ : ∃ k, p + f = k := ⟨_, rfl⟩
  rw [hk] at hc
  have HW : Hid (IntKind.i64.wrap ((s.size : Int) - (p : Int)) = (r : Int) ∧ IntKind.i64.wrap ((p : Int) + (f : Int)) = (k : Int) ∧ s.data.toList[k]? = some c ∧ 0 ≤ dg c) := ⟨by rw [IntKind.wrap_i64]; omega, by rw [IntKind.wrap_i64]; omega, hc, hd⟩
  have q1 : (f : Int) < (r : Int) := by omega
  obtain ⟨d, hD⟩ : ∃ d, dg c = d := ⟨_, rfl⟩
  have HD : Hid (dg c = d) := hD
  rw [hD]
  clear h hf hc hl hl2 hz hr hk hd hD
  go_enter Tryd.func50, Tryd.ntmps50
  go_wp2_with fail
  refine db1f HR.out.1.lt HR.out.c0 HR.out.c1 HW.out.1 q1 ?_
  intro V hV
  have HV : Hid (Below w.heap.size w V) := hV
  clear hV
  go_wp2_with fail
  refine db3 (d := d) (E := true) (HR.out.below HV.out).1.lt (HR.out.below HV.out).c0 (HR.out.below HV.out).c1 HW.out.2.1 HW.out.2.2.1 (fun V2 _ => by rw [← HD.out]; exact digit_ok c HW.out.2.2.2 V2) ?_
  intro V2 hV2
  have HF : Hid (Below w.heap.size w V2) := below_tr HV.out hV2
  clear hV2
  go_wp2
  go_ret
  exact ⟨rfl, HF.out⟩
#print axioms behind_ok
set_option maxRecDepth 100000 in
theorem behind_short {w : World} {g p f : Nat} {s : BA} (h : Rd w g s p) (hf : f ≤ 2) (hc : s.size ≤ p + f) : Calls Tryd.prog 50 #[.pointer (some ⟨g, 0, none⟩), iv (f : Int)] w fun e w' => e = gvP p 220 ∧ Below w.heap.size w w' := by
  have HR : Hid (Rd w g s p) := h
  have hz := h.2
  obtain ⟨r, hr⟩ : ∃ r, s.size - p = r := ⟨_, rfl⟩
  have HW : Hid (IntKind.i64.wrap ((s.size : Int) - (p : Int)) = (r : Int)) := by show _ = _; rw [IntKind.wrap_i64]; omega
  have q1 : (r : Int) ≤ (f : Int) := by omega
  clear h hf hc hz hr
  go_enter Tryd.func50, Tryd.ntmps50
  go_wp2_with fail
  refine db1t HR.out.1.lt HR.out.c0 HR.out.c1 HW.out q1 ?_
  intro V hV
  have HV : Hid (Below w.heap.size w V) := hV
  clear hV
  go_wp2_with fail
  refine (giveUp_is (HR.out.below HV.out) 220).mono ?_
  rintro e W ⟨he, rfl⟩
  rw [gvP] at he
  subst he
  go_wp2
  exact ⟨rfl, rfl, HV.out⟩
#print axioms behind_short
set_option maxRecDepth 100000 in
theorem behind_no {w : World} {g p f : Nat} {s : BA} (h : Rd w g s p) (hf : f ≤ 2) {c : UInt8} (hc : s.data.toList[p + f]? = some c) (hd : dg c = -1) : Calls Tryd.prog 50 #[.pointer (some ⟨g, 0, none⟩), iv (f : Int)] w fun e w' => e = gvP p 220 ∧ Below w.heap.size w w' := by
  have HR : Hid (Rd w g s p) := h
  have hl := (List.getElem?_eq_some_iff.1 hc).1
  have hl2 : s.data.toList.length = s.size := rfl
  have hz := h.2.1
  obtain ⟨r, hr⟩ : ∃ r, s.size - p = r := ⟨_, rfl⟩
  obtain ⟨k, hk⟩ : ∃ k, p + f = k := ⟨_, rfl⟩
  rw [hk] at hc
  have HW : Hid (IntKind.i64.wrap ((s.size : Int) - (p : Int)) = (r : Int) ∧ IntKind.i64.wrap ((p : Int) + (f : Int)) = (k : Int) ∧ s.data.toList[k]? = some c ∧ dg c = -1) := ⟨by rw [IntKind.wrap_i64]; omega, by rw [IntKind.wrap_i64]; omega, hc, hd⟩
  have q1 : (f : Int) < (r : Int) := by omega
  clear h hf hc hl hl2 hz hr hk hd
  go_enter Tryd.func50, Tryd.ntmps50
  go_wp2_with fail
  refine db1f HR.out.1.lt HR.out.c0 HR.out.c1 HW.out.1 q1 ?_
  intro V hV
  have HV : Hid (Below w.heap.size w V) := hV
  clear hV
  go_wp2_with fail
  refine db3 (d := 0) (E := false) (HR.out.below HV.out).1.lt (HR.out.below HV.out).c0 (HR.out.below HV.out).c1 HW.out.2.1 HW.out.2.2.1 (fun V2 _ => digit_no c HW.out.2.2.2 V2) ?_
  intro V2 hV2
  have HF : Hid (Below w.heap.size w V2) := below_tr HV.out hV2
  clear hV2
  go_wp2_with fail
  refine (giveUp_is (HR.out.below HF.out) 220).mono ?_
  rintro e W ⟨he, rfl⟩
  rw [gvP] at he
  subst he
  go_wp2
  exact ⟨rfl, rfl, HF.out⟩
#print axioms behind_no
set_option maxRecDepth 100000 in
set_option maxHeartbeats 4000000 in
theorem es1 {Q : Exit → Act → World → Prop} {x1 x2 x3 x4 x5 x6 x7 x8 x9 x10 x11 x12 x13 x14 x15 x16 x17 x18 x19 x20 x21 x22 x23 x24 x25 x26 x27 x28 x29 x30 x31 x32 x33 x34 x35 x36 x37 x38 x39 x40 : Value} {ds : List Deferred} {A : World} {g p : Nat} {s : BA} {b : UInt8}
    (HL : Hid (g < A.heap.size)) (c0 : A.cell? ⟨g, 0, none⟩ = some (.string s)) (c1 : A.cell? ⟨g, 1, none⟩ = some (iv (p : Int))) (HB : Hid (s.data.toList[p]? = some b))
    (hQ : ∀ V1, Below A.heap.size A V1 → Q .normal { tmps := #[.pointer (some ⟨g, 0, none⟩), x1, x2, bv (b.toNat : Int), iv 1, .pointer (some ⟨g, 0, none⟩), .pointer (some ⟨g, 0, none⟩), .pointer (some ⟨g, 0, none⟩), .string s, .pointer (some ⟨g, 0, none⟩), .pointer (some ⟨g, 0, none⟩), .pointer (some ⟨g, 1, none⟩), iv (p : Int), bv (b.toNat : Int), x14, x15, x16, x17, x18, x19, x20, x21, x22, x23, x24, x25, x26, x27, x28, x29, x30, x31, x32, x33, x34, x35, x36, x37, x38, x39, x40], defers := ds } V1) :
    (Code.region 1 #[{ dst := some 5, op := Op.move (Operand.tmp 0), type := 72, pos := "reader.go:79", after := #[], guard := none }, { dst := some 6, op := Op.nilCheck (Operand.tmp 5), type := 0, pos := "reader.go:79", after := #[{ on := 0, ground := Ground.data }], guard := none }, { dst := some 7, op := Op.fieldAddr 55 (Operand.tmp 6) 0, type := 0, pos := "reader.go:79", after := #[{ on := 1, ground := Ground.data }], guard := none }, { dst := some 8, op := Op.load 9 (Operand.tmp 7), type := 9, pos := "reader.go:79", after := #[{ on := 2, ground := Ground.data }], guard := none }, { dst := some 9, op := Op.move (Operand.tmp 0), type := 72, pos := "reader.go:79", after := #[], guard := none }, { dst := some 10, op := Op.nilCheck (Operand.tmp 9), type := 0, pos := "reader.go:79", after := #[{ on := 4, ground := Ground.data }], guard := none }, { dst := some 11, op := Op.fieldAddr 55 (Operand.tmp 10) 1, type := 0, pos := "reader.go:79", after := #[{ on := 5, ground := Ground.data }], guard := none }, { dst := some 12, op := Op.load 3 (Operand.tmp 11), type := 3, pos := "reader.go:79", after := #[{ on := 6, ground := Ground.data }], guard := none }, { dst := some 13, op := Op.index 9 (Operand.tmp 8) (Operand.tmp 12), type := 5, pos := "reader.go:79", after := #[{ on := 3, ground := Ground.data }, { on := 7, ground := Ground.data }], guard := none }, { dst := some 3, op := Op.assign (Operand.tmp 13), type := 5, pos := "reader.go:79", after := #[{ on := 8, ground := Ground.data }, { on := 0, ground := Ground.phase }, { on := 1, ground := Ground.phase }, { on := 2, ground := Ground.phase }, { on := 3, ground := Ground.phase }, { on := 4, ground := Ground.phase }, { on := 5, ground := Ground.phase }, { on := 6, ground := Ground.phase }, { on := 7, ground := Ground.phase }, { on := 8, ground := Ground.phase }], guard := none }, { dst := some 4, op := Op.assign (Operand.const (Value.int IntKind.i64 1)), type := 3, pos := "reader.go:79", after := #[{ on := 9, ground := Ground.chain }, { on := 0, ground := Ground.phase }, { on := 1, ground := Ground.phase }, { on := 2, ground := Ground.phase }, { on := 3, ground := Ground.phase }, { on := 4, ground := Ground.phase }, { on := 5, ground := Ground.phase }, { on := 6, ground := Ground.phase }, { on := 7, ground := Ground.phase }, { on := 8, ground := Ground.phase }, { on := 9, ground := Ground.phase }], guard := none }] true).wp Tryd.prog Q { tmps := #[.pointer (some ⟨g, 0, none⟩), x1, x2, x3, x4, x5, x6, x7, x8, x9, x10, x11, x12, x13, x14, x15, x16, x17, x18, x19, x20, x21, x22, x23, x24, x25, x26, x27, x28, x29, x30, x31, x32, x33, x34, x35, x36, x37, x38, x39, x40], defers := ds } A := by
  refine Code.wp_mono (Q := fun x a' w' => match x with | .normal => Q .normal a' w' | _ => False) (by intro x a' w' h; cases x <;> first | exact h | exact h.elim) ?_
  refine wp_region_held (S := fun V => Below A.heap.size A V) (by kernel_rfl) ?_
  have hS0 : Hid (Below A.heap.size A A.drew) := below_drew0 A
  change wpAnyH Tryd.prog .any _ _ (fun V => Below A.heap.size A V) 11 (Array.replicate 11 false) _ A.drew
  obtain ⟨V0, hV0⟩ : ∃ V0, A.drew = V0 := ⟨_, rfl⟩
  rw [hV0]
  rw [hV0] at hS0
  clear hV0
  refine wpAnyH_take (i := 0) (oi := { dst := some 5, op := Op.move (Operand.tmp 0), type := 72, pos := "reader.go:79", after := #[], guard := none }) (v := .pointer (some ⟨g, 0, none⟩)) rfl (by kernel_rfl) (by kernel_rfl) (by kernel_rfl) (fun _ _ _ h => h.elim) (Or.inl ⟨by rfl, ?y1⟩) hS0.out ?_
  case y1 =>
    intro V hV
    go_simp
  simp only [Act.put, List.setIfInBounds_toArray, List.set_cons_zero, List.set_cons_succ]
  refine wpAnyH_take (i := 1) (oi := { dst := some 6, op := Op.nilCheck (Operand.tmp 5), type := 0, pos := "reader.go:79", after := #[{ on := 0, ground := Ground.data }], guard := none }) (v := .pointer (some ⟨g, 0, none⟩)) rfl (by kernel_rfl) (by kernel_rfl) (by kernel_rfl) (fun _ _ _ h => h.elim) (Or.inl ⟨by rfl, ?y2⟩) hS0.out ?_
  case y2 =>
    intro V hV
    go_simp
  simp only [Act.put, List.setIfInBounds_toArray, List.set_cons_zero, List.set_cons_succ]
  refine wpAnyH_take (i := 2) (oi := { dst := some 7, op := Op.fieldAddr 55 (Operand.tmp 6) 0, type := 0, pos := "reader.go:79", after := #[{ on := 1, ground := Ground.data }], guard := none }) (v := .pointer (some ⟨g, 0, none⟩)) rfl (by kernel_rfl) (by kernel_rfl) (by kernel_rfl) (fun _ _ _ h => h.elim) (Or.inl ⟨by rfl, ?y3⟩) hS0.out ?_
  case y3 =>
    intro V hV
    go_simp
  simp only [Act.put, List.setIfInBounds_toArray, List.set_cons_zero, List.set_cons_succ]
  refine wpAnyH_take (i := 3) (oi := { dst := some 8, op := Op.load 9 (Operand.tmp 7), type := 9, pos := "reader.go:79", after := #[{ on := 2, ground := Ground.data }], guard := none }) (v := .string s) rfl (by kernel_rfl) (by kernel_rfl) (by kernel_rfl) (fun _ _ _ h => h.elim) (Or.inl ⟨by rfl, ?y4⟩) hS0.out ?_
  case y4 =>
    intro V hV
    have hc : V.cell? ⟨g, 0, none⟩ = some (.string s) := ((show Below A.heap.size A V from hV).cell (p := ⟨g, 0, none⟩) HL.out).trans c0
    go_simp
  simp only [Act.put, List.setIfInBounds_toArray, List.set_cons_zero, List.set_cons_succ]
  refine wpAnyH_take (i := 4) (oi := { dst := some 9, op := Op.move (Operand.tmp 0), type := 72, pos := "reader.go:79", after := #[], guard := none }) (v := .pointer (some ⟨g, 0, none⟩)) rfl (by kernel_rfl) (by kernel_rfl) (by kernel_rfl) (fun _ _ _ h => h.elim) (Or.inl ⟨by rfl, ?y5⟩) hS0.out ?_
  case y5 =>
    intro V hV
    go_simp
  simp only [Act.put, List.setIfInBounds_toArray, List.set_cons_zero, List.set_cons_succ]
  refine wpAnyH_take (i := 5) (oi := { dst := some 10, op := Op.nilCheck (Operand.tmp 9), type := 0, pos := "reader.go:79", after := #[{ on := 4, ground := Ground.data }], guard := none }) (v := .pointer (some ⟨g, 0, none⟩)) rfl (by kernel_rfl) (by kernel_rfl) (by kernel_rfl) (fun _ _ _ h => h.elim) (Or.inl ⟨by rfl, ?y6⟩) hS0.out ?_
  case y6 =>
    intro V hV
    go_simp
  simp only [Act.put, List.setIfInBounds_toArray, List.set_cons_zero, List.set_cons_succ]
  refine wpAnyH_take (i := 6) (oi := { dst := some 11, op := Op.fieldAddr 55 (Operand.tmp 10) 1, type := 0, pos := "reader.go:79", after := #[{ on := 5, ground := Ground.data }], guard := none }) (v := .pointer (some ⟨g, 1, none⟩)) rfl (by kernel_rfl) (by kernel_rfl) (by kernel_rfl) (fun _ _ _ h => h.elim) (Or.inl ⟨by rfl, ?y7⟩) hS0.out ?_
  case y7 =>
    intro V hV
    go_simp
  simp only [Act.put, List.setIfInBounds_toArray, List.set_cons_zero, List.set_cons_succ]
  refine wpAnyH_take (i := 7) (oi := { dst := some 12, op := Op.load 3 (Operand.tmp 11), type := 3, pos := "reader.go:79", after := #[{ on := 6, ground := Ground.data }], guard := none }) (v := iv (p : Int)) rfl (by kernel_rfl) (by kernel_rfl) (by kernel_rfl) (fun _ _ _ h => h.elim) (Or.inl ⟨by rfl, ?y8⟩) hS0.out ?_
  case y8 =>
    intro V hV
    have hc : V.cell? ⟨g, 1, none⟩ = some (iv (p : Int)) := ((show Below A.heap.size A V from hV).cell (p := ⟨g, 1, none⟩) HL.out).trans c1
    go_simp
  simp only [Act.put, List.setIfInBounds_toArray, List.set_cons_zero, List.set_cons_succ]
  refine wpAnyH_take (i := 8) (oi := { dst := some 13, op := Op.index 9 (Operand.tmp 8) (Operand.tmp 12), type := 5, pos := "reader.go:79", after := #[{ on := 3, ground := Ground.data }, { on := 7, ground := Ground.data }], guard := none }) (v := bv (b.toNat : Int)) rfl (by kernel_rfl) (by kernel_rfl) (by kernel_rfl) (fun _ _ _ h => h.elim) (Or.inl ⟨by rfl, ?y9⟩) hS0.out ?_
  case y9 =>
    intro V hV
    exact yl_idx V _ _ s p b rfl rfl rfl HB.out
  simp only [Act.put, List.setIfInBounds_toArray, List.set_cons_zero, List.set_cons_succ]
  refine wpAnyH_take (i := 9) (oi := { dst := some 3, op := Op.assign (Operand.tmp 13), type := 5, pos := "reader.go:79", after := #[{ on := 8, ground := Ground.data }, { on := 0, ground := Ground.phase }, { on := 1, ground := Ground.phase }, { on := 2, ground := Ground.phase }, { on := 3, ground := Ground.phase }, { on := 4, ground := Ground.phase }, { on := 5, ground := Ground.phase }, { on := 6, ground := Ground.phase }, { on := 7, ground := Ground.phase }, { on := 8, ground := Ground.phase }], guard := none }) (v := bv (b.toNat : Int)) rfl (by kernel_rfl) (by kernel_rfl) (by kernel_rfl) (fun _ _ _ h => h.elim) (Or.inl ⟨by rfl, ?y10⟩) hS0.out ?_
  case y10 =>
    intro V hV
    go_simp
  simp only [Act.put, List.setIfInBounds_toArray, List.set_cons_zero, List.set_cons_succ]
  refine wpAnyH_take (i := 10) (oi := { dst := some 4, op := Op.assign (Operand.const (Value.int IntKind.i64 1)), type := 3, pos := "reader.go:79", after := #[{ on := 9, ground := Ground.chain }, { on := 0, ground := Ground.phase }, { on := 1, ground := Ground.phase }, { on := 2, ground := Ground.phase }, { on := 3, ground := Ground.phase }, { on := 4, ground := Ground.phase }, { on := 5, ground := Ground.phase }, { on := 6, ground := Ground.phase }, { on := 7, ground := Ground.phase }, { on := 8, ground := Ground.phase }, { on := 9, ground := Ground.phase }], guard := none }) (v := iv 1) rfl (by kernel_rfl) (by kernel_rfl) (by kernel_rfl) (fun _ _ _ h => h.elim) (Or.inl ⟨by rfl, ?y11⟩) hS0.out ?_
  case y11 =>
    intro V hV
    go_simp
  simp only [Act.put, List.setIfInBounds_toArray, List.set_cons_zero, List.set_cons_succ]
  refine wpAnyH_done (by kernel_rfl) ?_ _
  exact hQ V0 hS0.out
#print axioms es1
end Go.Proofs.YtlbcpbibcfolkaaDoor.Oct
