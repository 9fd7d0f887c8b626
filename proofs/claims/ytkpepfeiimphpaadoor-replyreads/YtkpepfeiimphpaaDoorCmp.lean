/-
  Layer 24 (reply): compare of the program; errors.Is.
-/
import Derived.Test.YtkpepfeiimphpaaDoorBdy
import Derived.Test.YtkpepfeiimphpaaDoorPrw
import Derived.Lib.IfaceEq
import Derived.LaidEql
import Derived.Stop.Asserts
import Derived.RowKitTokens
namespace Go.Proofs.YtkpepfeiimphpaaDoor.Oct
open Go.RowKit
set_option linter.unusedSimpArgs false
set_option linter.unusedVariables false

theorem yl_to {o : Oper} {a : Act} (V : World) (x y : Operand) (s : BA) (k : Nat) (hop : o.op = .slice 9 x none (some y) none) (hx : a.eval x = .string s) (hy : a.eval y = iv (k : Int)) (hk : k ≤ s.size) (hs : s.size ≤ 140737488355328) : (execOp a.eval o).run Tryd.prog V = .ok (.value (.string (s.extract 0 k))) V := by
  have q1 : (k : Int) ≤ (s.size : Int) := by omega
  have q2 : (s.size : Int) ≤ 140737488355328 := by omega
  unfold execOp
  simp only [hop, hx, Option.map_some, hy]
  go_simp
set_option maxRecDepth 100000 in
set_option maxHeartbeats 4000000 in
theorem cp2y {Q : Exit → Act → World → Prop} {x1 x2 x5 x6 x7 x8 x9 x10 x11 x12 x13 x14 x15 x16 x17 x18 x19 x20 x21 x22 x23 x24 x25 x26 x27 x28 x29 : Value} {ds : List Deferred} {A : World} {g a : Nat} {s u : BA} {D : Bool}
    (HL : Hid (g < A.heap.size)) (c0 : A.cell? ⟨g, 0, none⟩ = some (.string s)) (c1 : A.cell? ⟨g, 1, none⟩ = some (iv (a : Int))) (HZ : Hid (a ≤ s.size ∧ s.size ≤ 140737488355328)) (HCM : Hid ((u.toList != (s.extract 0 a).toList) = D))
    (hQ : ∀ V1, Below A.heap.size A V1 → Q .normal { tmps := #[.pointer (some ⟨g, 0, none⟩), x1, x2, .string u, iv 0, x5, x6, x7, x8, x9, x10, x11, x12, iv 0, .bool false, .bool false, .string u, .pointer (some ⟨g, 0, none⟩), .pointer (some ⟨g, 0, none⟩), .pointer (some ⟨g, 0, none⟩), .string s, .pointer (some ⟨g, 0, none⟩), .pointer (some ⟨g, 0, none⟩), .pointer (some ⟨g, 1, none⟩), iv (a : Int), .string (s.extract 0 a), .bool D, .bool D, x28, x29], defers := ds } V1) :
    (Code.region 2 #[{ dst := some 13, op := Op.move (Operand.tmp 4), type := 25, pos := "read.go:121", after := #[], guard := none }, { dst := some 14, op := Op.binOp BinOp.neq 25 (Operand.tmp 13) (Operand.const (Value.int IntKind.i64 0)) 25, type := 4, pos := "read.go:121", after := #[{ on := 0, ground := Ground.data }], guard := none }, { dst := some 15, op := Op.move (Operand.tmp 14), type := 4, pos := "read.go:121", after := #[{ on := 1, ground := Ground.data }], guard := none }, { dst := some 16, op := Op.move (Operand.tmp 3), type := 9, pos := "read.go:121", after := #[{ on := 2, ground := Ground.guard }], guard := some (2, false) }, { dst := some 17, op := Op.move (Operand.tmp 0), type := 54, pos := "read.go:121", after := #[{ on := 2, ground := Ground.guard }], guard := some (2, false) }, { dst := some 18, op := Op.nilCheck (Operand.tmp 17), type := 0, pos := "read.go:121", after := #[{ on := 4, ground := Ground.data }, { on := 2, ground := Ground.guard }], guard := some (2, false) }, { dst := some 19, op := Op.fieldAddr 44 (Operand.tmp 18) 0, type := 0, pos := "read.go:121", after := #[{ on := 5, ground := Ground.data }, { on := 2, ground := Ground.guard }], guard := some (2, false) }, { dst := some 20, op := Op.load 9 (Operand.tmp 19), type := 9, pos := "read.go:121", after := #[{ on := 6, ground := Ground.data }, { on := 2, ground := Ground.guard }], guard := some (2, false) }, { dst := some 21, op := Op.move (Operand.tmp 0), type := 54, pos := "read.go:121", after := #[{ on := 2, ground := Ground.guard }], guard := some (2, false) }, { dst := some 22, op := Op.nilCheck (Operand.tmp 21), type := 0, pos := "read.go:121", after := #[{ on := 8, ground := Ground.data }, { on := 2, ground := Ground.guard }], guard := some (2, false) }, { dst := some 23, op := Op.fieldAddr 44 (Operand.tmp 22) 1, type := 0, pos := "read.go:121", after := #[{ on := 9, ground := Ground.data }, { on := 2, ground := Ground.guard }], guard := some (2, false) }, { dst := some 24, op := Op.load 3 (Operand.tmp 23), type := 3, pos := "read.go:121", after := #[{ on := 10, ground := Ground.data }, { on := 2, ground := Ground.guard }], guard := some (2, false) }, { dst := some 25, op := Op.slice 9 (Operand.tmp 20) none (some (Operand.tmp 24)) none, type := 9, pos := "read.go:121", after := #[{ on := 7, ground := Ground.data }, { on := 11, ground := Ground.data }, { on := 2, ground := Ground.guard }], guard := some (2, false) }, { dst := some 26, op := Op.binOp BinOp.neq 9 (Operand.tmp 16) (Operand.tmp 25) 9, type := 4, pos := "read.go:121", after := #[{ on := 3, ground := Ground.data }, { on := 12, ground := Ground.data }, { on := 2, ground := Ground.guard }], guard := some (2, false) }, { dst := some 27, op := Op.pick (Operand.tmp 15) (Operand.const (Value.bool true)) (Operand.tmp 26), type := 4, pos := "read.go:121", after := #[{ on := 2, ground := Ground.data }, { on := 13, ground := Ground.data }], guard := none }] true).wp Tryd.prog Q { tmps := #[.pointer (some ⟨g, 0, none⟩), x1, x2, .string u, iv 0, x5, x6, x7, x8, x9, x10, x11, x12, x13, x14, x15, x16, x17, x18, x19, x20, x21, x22, x23, x24, x25, x26, x27, x28, x29], defers := ds } A := by
  refine Code.wp_mono (Q := fun x a' w' => match x with | .normal => Q .normal a' w' | _ => False) (by intro x a' w' h; cases x <;> first | exact h | exact h.elim) ?_
  refine wp_region_held (S := fun V => Below A.heap.size A V) (by kernel_rfl) ?_
  have hS0 : Hid (Below A.heap.size A A.drew) := below_drew0 A
  change wpAnyH Tryd.prog .any _ _ (fun V => Below A.heap.size A V) 15 (Array.replicate 15 false) _ A.drew
  obtain ⟨V0, hV0⟩ : ∃ V0, A.drew = V0 := ⟨_, rfl⟩
  rw [hV0]
  rw [hV0] at hS0
  clear hV0
  refine wpAnyH_take (i := 0) (oi := { dst := some 13, op := Op.move (Operand.tmp 4), type := 25, pos := "read.go:121", after := #[], guard := none }) (v := iv 0) rfl (by kernel_rfl) (by kernel_rfl) (by kernel_rfl) (fun _ _ _ h => h.elim) (Or.inl ⟨by rfl, ?y1⟩) hS0.out ?_
  case y1 =>
    intro V hV
    go_simp
  simp only [Act.put, List.setIfInBounds_toArray, List.set_cons_zero, List.set_cons_succ]
  refine wpAnyH_take (i := 1) (oi := { dst := some 14, op := Op.binOp BinOp.neq 25 (Operand.tmp 13) (Operand.const (Value.int IntKind.i64 0)) 25, type := 4, pos := "read.go:121", after := #[{ on := 0, ground := Ground.data }], guard := none }) (v := .bool false) rfl (by kernel_rfl) (by kernel_rfl) (by kernel_rfl) (fun _ _ _ h => h.elim) (Or.inl ⟨by rfl, ?y2⟩) hS0.out ?_
  case y2 =>
    intro V hV
    go_simp
  simp only [Act.put, List.setIfInBounds_toArray, List.set_cons_zero, List.set_cons_succ]
  refine wpAnyH_take (i := 2) (oi := { dst := some 15, op := Op.move (Operand.tmp 14), type := 4, pos := "read.go:121", after := #[{ on := 1, ground := Ground.data }], guard := none }) (v := .bool false) rfl (by kernel_rfl) (by kernel_rfl) (by kernel_rfl) (fun _ _ _ h => h.elim) (Or.inl ⟨by rfl, ?y3⟩) hS0.out ?_
  case y3 =>
    intro V hV
    go_simp
  simp only [Act.put, List.setIfInBounds_toArray, List.set_cons_zero, List.set_cons_succ]
  refine wpAnyH_take (i := 3) (oi := { dst := some 16, op := Op.move (Operand.tmp 3), type := 9, pos := "read.go:121", after := #[{ on := 2, ground := Ground.guard }], guard := some (2, false) }) (v := .string u) rfl (by kernel_rfl) (by kernel_rfl) (by kernel_rfl) (fun _ _ _ h => h.elim) (Or.inl ⟨by rfl, ?y4⟩) hS0.out ?_
  case y4 =>
    intro V hV
    go_simp
  simp only [Act.put, List.setIfInBounds_toArray, List.set_cons_zero, List.set_cons_succ]
  refine wpAnyH_take (i := 4) (oi := { dst := some 17, op := Op.move (Operand.tmp 0), type := 54, pos := "read.go:121", after := #[{ on := 2, ground := Ground.guard }], guard := some (2, false) }) (v := .pointer (some ⟨g, 0, none⟩)) rfl (by kernel_rfl) (by kernel_rfl) (by kernel_rfl) (fun _ _ _ h => h.elim) (Or.inl ⟨by rfl, ?y5⟩) hS0.out ?_
  case y5 =>
    intro V hV
    go_simp
  simp only [Act.put, List.setIfInBounds_toArray, List.set_cons_zero, List.set_cons_succ]
  refine wpAnyH_take (i := 5) (oi := { dst := some 18, op := Op.nilCheck (Operand.tmp 17), type := 0, pos := "read.go:121", after := #[{ on := 4, ground := Ground.data }, { on := 2, ground := Ground.guard }], guard := some (2, false) }) (v := .pointer (some ⟨g, 0, none⟩)) rfl (by kernel_rfl) (by kernel_rfl) (by kernel_rfl) (fun _ _ _ h => h.elim) (Or.inl ⟨by rfl, ?y6⟩) hS0.out ?_
  case y6 =>
    intro V hV
    go_simp
  simp only [Act.put, List.setIfInBounds_toArray, List.set_cons_zero, List.set_cons_succ]
  refine wpAnyH_take (i := 6) (oi := { dst := some 19, op := Op.fieldAddr 44 (Operand.tmp 18) 0, type := 0, pos := "read.go:121", after := #[{ on := 5, ground := Ground.data }, { on := 2, ground := Ground.guard }], guard := some (2, false) }) (v := .pointer (some ⟨g, 0, none⟩)) rfl (by kernel_rfl) (by kernel_rfl) (by kernel_rfl) (fun _ _ _ h => h.elim) (Or.inl ⟨by rfl, ?y7⟩) hS0.out ?_
  case y7 =>
    intro V hV
    go_simp
  simp only [Act.put, List.setIfInBounds_toArray, List.set_cons_zero, List.set_cons_succ]
  refine wpAnyH_take (i := 7) (oi := { dst := some 20, op := Op.load 9 (Operand.tmp 19), type := 9, pos := "read.go:121", after := #[{ on := 6, ground := Ground.data }, { on := 2, ground := Ground.guard }], guard := some (2, false) }) (v := .string s) rfl (by kernel_rfl) (by kernel_rfl) (by kernel_rfl) (fun _ _ _ h => h.elim) (Or.inl ⟨by rfl, ?y8⟩) hS0.out ?_
  case y8 =>
    intro V hV
    have hc : V.cell? ⟨g, 0, none⟩ = some (.string s) := ((show Below A.heap.size A V from hV).cell (p := ⟨g, 0, none⟩) (HL.out)).trans c0
    go_simp
  simp only [Act.put, List.setIfInBounds_toArray, List.set_cons_zero, List.set_cons_succ]
  refine wpAnyH_take (i := 8) (oi := { dst := some 21, op := Op.move (Operand.tmp 0), type := 54, pos := "read.go:121", after := #[{ on := 2, ground := Ground.guard }], guard := some (2, false) }) (v := .pointer (some ⟨g, 0, none⟩)) rfl (by kernel_rfl) (by kernel_rfl) (by kernel_rfl) (fun _ _ _ h => h.elim) (Or.inl ⟨by rfl, ?y9⟩) hS0.out ?_
  case y9 =>
    intro V hV
    go_simp
  simp only [Act.put, List.setIfInBounds_toArray, List.set_cons_zero, List.set_cons_succ]
  refine wpAnyH_take (i := 9) (oi := { dst := some 22, op := Op.nilCheck (Operand.tmp 21), type := 0, pos := "read.go:121", after := #[{ on := 8, ground := Ground.data }, { on := 2, ground := Ground.guard }], guard := some (2, false) }) (v := .pointer (some ⟨g, 0, none⟩)) rfl (by kernel_rfl) (by kernel_rfl) (by kernel_rfl) (fun _ _ _ h => h.elim) (Or.inl ⟨by rfl, ?y10⟩) hS0.out ?_
  case y10 =>
    intro V hV
    go_simp
  simp only [Act.put, List.setIfInBounds_toArray, List.set_cons_zero, List.set_cons_succ]
  refine wpAnyH_take (i := 10) (oi := { dst := some 23, op := Op.fieldAddr 44 (Operand.tmp 22) 1, type := 0, pos := "read.go:121", after := #[{ on := 9, ground := Ground.data }, { on := 2, ground := Ground.guard }], guard := some (2, false) }) (v := .pointer (some ⟨g, 1, none⟩)) rfl (by kernel_rfl) (by kernel_rfl) (by kernel_rfl) (fun _ _ _ h => h.elim) (Or.inl ⟨by rfl, ?y11⟩) hS0.out ?_
  case y11 =>
    intro V hV
    go_simp
  simp only [Act.put, List.setIfInBounds_toArray, List.set_cons_zero, List.set_cons_succ]
  refine wpAnyH_take (i := 11) (oi := { dst := some 24, op := Op.load 3 (Operand.tmp 23), type := 3, pos := "read.go:121", after := #[{ on := 10, ground := Ground.data }, { on := 2, ground := Ground.guard }], guard := some (2, false) }) (v := iv (a : Int)) rfl (by kernel_rfl) (by kernel_rfl) (by kernel_rfl) (fun _ _ _ h => h.elim) (Or.inl ⟨by rfl, ?y12⟩) hS0.out ?_
  case y12 =>
    intro V hV
    have hc : V.cell? ⟨g, 1, none⟩ = some (iv (a : Int)) := ((show Below A.heap.size A V from hV).cell (p := ⟨g, 1, none⟩) (HL.out)).trans c1
    go_simp
  simp only [Act.put, List.setIfInBounds_toArray, List.set_cons_zero, List.set_cons_succ]
  refine wpAnyH_take (i := 12) (oi := { dst := some 25, op := Op.slice 9 (Operand.tmp 20) none (some (Operand.tmp 24)) none, type := 9, pos := "read.go:121", after := #[{ on := 7, ground := Ground.data }, { on := 11, ground := Ground.data }, { on := 2, ground := Ground.guard }], guard := some (2, false) }) (v := .string (s.extract 0 a)) rfl (by kernel_rfl) (by kernel_rfl) (by kernel_rfl) (fun _ _ _ h => h.elim) (Or.inl ⟨by rfl, ?y13⟩) hS0.out ?_
  case y13 =>
    intro V hV
    exact yl_to V _ _ _ _ rfl rfl rfl HZ.out.1 HZ.out.2
  simp only [Act.put, List.setIfInBounds_toArray, List.set_cons_zero, List.set_cons_succ]
  refine wpAnyH_take (i := 13) (oi := { dst := some 26, op := Op.binOp BinOp.neq 9 (Operand.tmp 16) (Operand.tmp 25) 9, type := 4, pos := "read.go:121", after := #[{ on := 3, ground := Ground.data }, { on := 12, ground := Ground.data }, { on := 2, ground := Ground.guard }], guard := some (2, false) }) (v := .bool D) rfl (by kernel_rfl) (by kernel_rfl) (by kernel_rfl) (fun _ _ _ h => h.elim) (Or.inl ⟨by rfl, ?y14⟩) hS0.out ?_
  case y14 =>
    intro V hV
    have hcm := HCM.out
    go_simp; rw [← hcm, bne, Bool.not_not]
  simp only [Act.put, List.setIfInBounds_toArray, List.set_cons_zero, List.set_cons_succ]
  refine wpAnyH_take (i := 14) (oi := { dst := some 27, op := Op.pick (Operand.tmp 15) (Operand.const (Value.bool true)) (Operand.tmp 26), type := 4, pos := "read.go:121", after := #[{ on := 2, ground := Ground.data }, { on := 13, ground := Ground.data }], guard := none }) (v := .bool D) rfl (by kernel_rfl) (by kernel_rfl) (by kernel_rfl) (fun _ _ _ h => h.elim) (Or.inl ⟨by rfl, ?y15⟩) hS0.out ?_
  case y15 =>
    intro V hV
    go_simp
  simp only [Act.put, List.setIfInBounds_toArray, List.set_cons_zero, List.set_cons_succ]
  refine wpAnyH_done (by kernel_rfl) ?_ _
  exact hQ V0 hS0.out
#print axioms cp2y
set_option maxRecDepth 100000 in
set_option maxHeartbeats 4000000 in
theorem cp2n {Q : Exit → Act → World → Prop} {x1 x2 x5 x6 x7 x8 x9 x10 x11 x12 x13 x14 x15 x16 x17 x18 x19 x20 x21 x22 x23 x24 x25 x26 x27 x28 x29 : Value} {ds : List Deferred} {A : World} {g : Nat} {u : BA} {k : Int}
    (hk : (k != 0) = true)
    (hQ : ∀ V1, Below A.heap.size A V1 → Q .normal { tmps := #[.pointer (some ⟨g, 0, none⟩), x1, x2, .string u, iv k, x5, x6, x7, x8, x9, x10, x11, x12, iv k, .bool true, .bool true, undef, undef, undef, undef, undef, undef, undef, undef, undef, undef, undef, .bool true, x28, x29], defers := ds } V1) :
    (Code.region 2 #[{ dst := some 13, op := Op.move (Operand.tmp 4), type := 25, pos := "read.go:121", after := #[], guard := none }, { dst := some 14, op := Op.binOp BinOp.neq 25 (Operand.tmp 13) (Operand.const (Value.int IntKind.i64 0)) 25, type := 4, pos := "read.go:121", after := #[{ on := 0, ground := Ground.data }], guard := none }, { dst := some 15, op := Op.move (Operand.tmp 14), type := 4, pos := "read.go:121", after := #[{ on := 1, ground := Ground.data }], guard := none }, { dst := some 16, op := Op.move (Operand.tmp 3), type := 9, pos := "read.go:121", after := #[{ on := 2, ground := Ground.guard }], guard := some (2, false) }, { dst := some 17, op := Op.move (Operand.tmp 0), type := 54, pos := "read.go:121", after := #[{ on := 2, ground := Ground.guard }], guard := some (2, false) }, { dst := some 18, op := Op.nilCheck (Operand.tmp 17), type := 0, pos := "read.go:121", after := #[{ on := 4, ground := Ground.data }, { on := 2, ground := Ground.guard }], guard := some (2, false) }, { dst := some 19, op := Op.fieldAddr 44 (Operand.tmp 18) 0, type := 0, pos := "read.go:121", after := #[{ on := 5, ground := Ground.data }, { on := 2, ground := Ground.guard }], guard := some (2, false) }, { dst := some 20, op := Op.load 9 (Operand.tmp 19), type := 9, pos := "read.go:121", after := #[{ on := 6, ground := Ground.data }, { on := 2, ground := Ground.guard }], guard := some (2, false) }, { dst := some 21, op := Op.move (Operand.tmp 0), type := 54, pos := "read.go:121", after := #[{ on := 2, ground := Ground.guard }], guard := some (2, false) }, { dst := some 22, op := Op.nilCheck (Operand.tmp 21), type := 0, pos := "read.go:121", after := #[{ on := 8, ground := Ground.data }, { on := 2, ground := Ground.guard }], guard := some (2, false) }, { dst := some 23, op := Op.fieldAddr 44 (Operand.tmp 22) 1, type := 0, pos := "read.go:121", after := #[{ on := 9, ground := Ground.data }, { on := 2, ground := Ground.guard }], guard := some (2, false) }, { dst := some 24, op := Op.load 3 (Operand.tmp 23), type := 3, pos := "read.go:121", after := #[{ on := 10, ground := Ground.data }, { on := 2, ground := Ground.guard }], guard := some (2, false) }, { dst := some 25, op := Op.slice 9 (Operand.tmp 20) none (some (Operand.tmp 24)) none, type := 9, pos := "read.go:121", after := #[{ on := 7, ground := Ground.data }, { on := 11, ground := Ground.data }, { on := 2, ground := Ground.guard }], guard := some (2, false) }, { dst := some 26, op := Op.binOp BinOp.neq 9 (Operand.tmp 16) (Operand.tmp 25) 9, type := 4, pos := "read.go:121", after := #[{ on := 3, ground := Ground.data }, { on := 12, ground := Ground.data }, { on := 2, ground := Ground.guard }], guard := some (2, false) }, { dst := some 27, op := Op.pick (Operand.tmp 15) (Operand.const (Value.bool true)) (Operand.tmp 26), type := 4, pos := "read.go:121", after := #[{ on := 2, ground := Ground.data }, { on := 13, ground := Ground.data }], guard := none }] true).wp Tryd.prog Q { tmps := #[.pointer (some ⟨g, 0, none⟩), x1, x2, .string u, iv k, x5, x6, x7, x8, x9, x10, x11, x12, x13, x14, x15, x16, x17, x18, x19, x20, x21, x22, x23, x24, x25, x26, x27, x28, x29], defers := ds } A := by
  refine Code.wp_mono (Q := fun x a' w' => match x with | .normal => Q .normal a' w' | _ => False) (by intro x a' w' h; cases x <;> first | exact h | exact h.elim) ?_
  refine wp_region_held (S := fun V => Below A.heap.size A V) (by kernel_rfl) ?_
  have hS0 : Hid (Below A.heap.size A A.drew) := below_drew0 A
  change wpAnyH Tryd.prog .any _ _ (fun V => Below A.heap.size A V) 15 (Array.replicate 15 false) _ A.drew
  obtain ⟨V0, hV0⟩ : ∃ V0, A.drew = V0 := ⟨_, rfl⟩
  rw [hV0]
  rw [hV0] at hS0
  clear hV0
  refine wpAnyH_take (i := 0) (oi := { dst := some 13, op := Op.move (Operand.tmp 4), type := 25, pos := "read.go:121", after := #[], guard := none }) (v := iv k) rfl (by kernel_rfl) (by kernel_rfl) (by kernel_rfl) (fun _ _ _ h => h.elim) (Or.inl ⟨by rfl, ?y1⟩) hS0.out ?_
  case y1 =>
    intro V hV
    go_simp
  simp only [Act.put, List.setIfInBounds_toArray, List.set_cons_zero, List.set_cons_succ]
  refine wpAnyH_take (i := 1) (oi := { dst := some 14, op := Op.binOp BinOp.neq 25 (Operand.tmp 13) (Operand.const (Value.int IntKind.i64 0)) 25, type := 4, pos := "read.go:121", after := #[{ on := 0, ground := Ground.data }], guard := none }) (v := .bool true) rfl (by kernel_rfl) (by kernel_rfl) (by kernel_rfl) (fun _ _ _ h => h.elim) (Or.inl ⟨by rfl, ?y2⟩) hS0.out ?_
  case y2 =>
    intro V hV
    go_simp
  simp only [Act.put, List.setIfInBounds_toArray, List.set_cons_zero, List.set_cons_succ]
  refine wpAnyH_take (i := 2) (oi := { dst := some 15, op := Op.move (Operand.tmp 14), type := 4, pos := "read.go:121", after := #[{ on := 1, ground := Ground.data }], guard := none }) (v := .bool true) rfl (by kernel_rfl) (by kernel_rfl) (by kernel_rfl) (fun _ _ _ h => h.elim) (Or.inl ⟨by rfl, ?y3⟩) hS0.out ?_
  case y3 =>
    intro V hV
    go_simp
  simp only [Act.put, List.setIfInBounds_toArray, List.set_cons_zero, List.set_cons_succ]
  refine wpAnyH_take (i := 3) (oi := { dst := some 16, op := Op.move (Operand.tmp 3), type := 9, pos := "read.go:121", after := #[{ on := 2, ground := Ground.guard }], guard := some (2, false) }) (v := undef) rfl (by kernel_rfl) (by kernel_rfl) (by kernel_rfl) (fun _ _ _ h => h.elim) (Or.inr ⟨by rfl, rfl⟩) hS0.out ?_
  simp only [Act.put, List.setIfInBounds_toArray, List.set_cons_zero, List.set_cons_succ]
  refine wpAnyH_take (i := 4) (oi := { dst := some 17, op := Op.move (Operand.tmp 0), type := 54, pos := "read.go:121", after := #[{ on := 2, ground := Ground.guard }], guard := some (2, false) }) (v := undef) rfl (by kernel_rfl) (by kernel_rfl) (by kernel_rfl) (fun _ _ _ h => h.elim) (Or.inr ⟨by rfl, rfl⟩) hS0.out ?_
  simp only [Act.put, List.setIfInBounds_toArray, List.set_cons_zero, List.set_cons_succ]
  refine wpAnyH_take (i := 5) (oi := { dst := some 18, op := Op.nilCheck (Operand.tmp 17), type := 0, pos := "read.go:121", after := #[{ on := 4, ground := Ground.data }, { on := 2, ground := Ground.guard }], guard := some (2, false) }) (v := undef) rfl (by kernel_rfl) (by kernel_rfl) (by kernel_rfl) (fun _ _ _ h => h.elim) (Or.inr ⟨by rfl, rfl⟩) hS0.out ?_
  simp only [Act.put, List.setIfInBounds_toArray, List.set_cons_zero, List.set_cons_succ]
  refine wpAnyH_take (i := 6) (oi := { dst := some 19, op := Op.fieldAddr 44 (Operand.tmp 18) 0, type := 0, pos := "read.go:121", after := #[{ on := 5, ground := Ground.data }, { on := 2, ground := Ground.guard }], guard := some (2, false) }) (v := undef) rfl (by kernel_rfl) (by kernel_rfl) (by kernel_rfl) (fun _ _ _ h => h.elim) (Or.inr ⟨by rfl, rfl⟩) hS0.out ?_
  simp only [Act.put, List.setIfInBounds_toArray, List.set_cons_zero, List.set_cons_succ]
  refine wpAnyH_take (i := 7) (oi := { dst := some 20, op := Op.load 9 (Operand.tmp 19), type := 9, pos := "read.go:121", after := #[{ on := 6, ground := Ground.data }, { on := 2, ground := Ground.guard }], guard := some (2, false) }) (v := undef) rfl (by kernel_rfl) (by kernel_rfl) (by kernel_rfl) (fun _ _ _ h => h.elim) (Or.inr ⟨by rfl, rfl⟩) hS0.out ?_
  simp only [Act.put, List.setIfInBounds_toArray, List.set_cons_zero, List.set_cons_succ]
  refine wpAnyH_take (i := 8) (oi := { dst := some 21, op := Op.move (Operand.tmp 0), type := 54, pos := "read.go:121", after := #[{ on := 2, ground := Ground.guard }], guard := some (2, false) }) (v := undef) rfl (by kernel_rfl) (by kernel_rfl) (by kernel_rfl) (fun _ _ _ h => h.elim) (Or.inr ⟨by rfl, rfl⟩) hS0.out ?_
  simp only [Act.put, List.setIfInBounds_toArray, List.set_cons_zero, List.set_cons_succ]
  refine wpAnyH_take (i := 9) (oi := { dst := some 22, op := Op.nilCheck (Operand.tmp 21), type := 0, pos := "read.go:121", after := #[{ on := 8, ground := Ground.data }, { on := 2, ground := Ground.guard }], guard := some (2, false) }) (v := undef) rfl (by kernel_rfl) (by kernel_rfl) (by kernel_rfl) (fun _ _ _ h => h.elim) (Or.inr ⟨by rfl, rfl⟩) hS0.out ?_
  simp only [Act.put, List.setIfInBounds_toArray, List.set_cons_zero, List.set_cons_succ]
  refine wpAnyH_take (i := 10) (oi := { dst := some 23, op := Op.fieldAddr 44 (Operand.tmp 22) 1, type := 0, pos := "read.go:121", after := #[{ on := 9, ground := Ground.data }, { on := 2, ground := Ground.guard }], guard := some (2, false) }) (v := undef) rfl (by kernel_rfl) (by kernel_rfl) (by kernel_rfl) (fun _ _ _ h => h.elim) (Or.inr ⟨by rfl, rfl⟩) hS0.out ?_
  simp only [Act.put, List.setIfInBounds_toArray, List.set_cons_zero, List.set_cons_succ]
  refine wpAnyH_take (i := 11) (oi := { dst := some 24, op := Op.load 3 (Operand.tmp 23), type := 3, pos := "read.go:121", after := #[{ on := 10, ground := Ground.data }, { on := 2, ground := Ground.guard }], guard := some (2, false) }) (v := undef) rfl (by kernel_rfl) (by kernel_rfl) (by kernel_rfl) (fun _ _ _ h => h.elim) (Or.inr ⟨by rfl, rfl⟩) hS0.out ?_
  simp only [Act.put, List.setIfInBounds_toArray, List.set_cons_zero, List.set_cons_succ]
  refine wpAnyH_take (i := 12) (oi := { dst := some 25, op := Op.slice 9 (Operand.tmp 20) none (some (Operand.tmp 24)) none, type := 9, pos := "read.go:121", after := #[{ on := 7, ground := Ground.data }, { on := 11, ground := Ground.data }, { on := 2, ground := Ground.guard }], guard := some (2, false) }) (v := undef) rfl (by kernel_rfl) (by kernel_rfl) (by kernel_rfl) (fun _ _ _ h => h.elim) (Or.inr ⟨by rfl, rfl⟩) hS0.out ?_
  simp only [Act.put, List.setIfInBounds_toArray, List.set_cons_zero, List.set_cons_succ]
  refine wpAnyH_take (i := 13) (oi := { dst := some 26, op := Op.binOp BinOp.neq 9 (Operand.tmp 16) (Operand.tmp 25) 9, type := 4, pos := "read.go:121", after := #[{ on := 3, ground := Ground.data }, { on := 12, ground := Ground.data }, { on := 2, ground := Ground.guard }], guard := some (2, false) }) (v := undef) rfl (by kernel_rfl) (by kernel_rfl) (by kernel_rfl) (fun _ _ _ h => h.elim) (Or.inr ⟨by rfl, rfl⟩) hS0.out ?_
  simp only [Act.put, List.setIfInBounds_toArray, List.set_cons_zero, List.set_cons_succ]
  refine wpAnyH_take (i := 14) (oi := { dst := some 27, op := Op.pick (Operand.tmp 15) (Operand.const (Value.bool true)) (Operand.tmp 26), type := 4, pos := "read.go:121", after := #[{ on := 2, ground := Ground.data }, { on := 13, ground := Ground.data }], guard := none }) (v := .bool true) rfl (by kernel_rfl) (by kernel_rfl) (by kernel_rfl) (fun _ _ _ h => h.elim) (Or.inl ⟨by rfl, ?y4⟩) hS0.out ?_
  case y4 =>
    intro V hV
    go_simp
  simp only [Act.put, List.setIfInBounds_toArray, List.set_cons_zero, List.set_cons_succ]
  refine wpAnyH_done (by kernel_rfl) ?_ _
  exact hQ V0 hS0.out
#print axioms cp2n
def CoP (w : World) (g a : Nat) (s ty bo : BA) (st : Int) (cl : Bool) (e : Ending) (w' : World) : Prop :=
  RQ w w' g (rdc s (a : Int) st ty bo cl) ∧ (((prL st ty bo cl).2 = 0 ∧ (prL st ty bo cl).1 = s.data.toList.take a ∧ e = .returned .nilIface) ∨ (¬ ((prL st ty bo cl).2 = 0 ∧ (prL st ty bo cl).1 = s.data.toList.take a) ∧ e = .returned (gvE (a : Int))))
set_option maxRecDepth 100000 in
set_option maxHeartbeats 1000000 in
theorem compare_is {w W : World} {g a : Nat} {s ty bo : BA} {st : Int} {cl : Bool} (h : RQ w W g (rdc s (a : Int) st ty bo cl)) (ha : a ≤ s.size) (hs : s.size ≤ 140000) (hty : ty.size ≤ 140737488355328) (hbo : bo.size ≤ 140737488355328) : Calls Tryd.prog 29 #[.pointer (some ⟨g, 0, none⟩)] W (CoP w g a s ty bo st cl) := by
  have HR : Hid (RQ w W g (rdc s (a : Int) st ty bo cl)) := h
  have HZ : Hid (a ≤ s.size ∧ s.size ≤ 140000) := ⟨ha, hs⟩
  have HY : Hid (ty.size ≤ 140737488355328 ∧ bo.size ≤ 140737488355328) := ⟨hty, hbo⟩
  clear h ha hs hty hbo
  go_enter Tryd.func29, Tryd.ntmps29
  go_wp2_with (with_reducible change wpList _ _ _ ({ dst := some 9, op := _, type := _, pos := _, after := _, guard := _ } :: _) _ _; refine Hid.out ?_)
  show wpList _ _ _ _ _ _
  refine wpList_load_mid rfl 23 (.tmp 8) rfl g 2 rfl (rpc st ty bo cl) _ (by have := HR.out.x.range 2 4; simpa using this) Tryd.underlying23 rfl size23 ?_
  go_wp2_with fail
  refine (print_w st ty bo cl W HR.out.pt HY.out.1 HY.out.2).mono ?_
  rintro e W1 ⟨u, rfl, hu, hb⟩
  have HR1 : Hid (RQ w W1 g (rdc s (a : Int) st ty bo cl)) := HR.out.below hb
  obtain ⟨p, hp⟩ : ∃ p, prL st ty bo cl = p := ⟨_, rfl⟩
  have HP : Hid (prL st ty bo cl = p ∧ u.data.toList = p.1) := ⟨hp, by rw [← hp]; exact hu.out⟩
  rw [hp]
  obtain ⟨k, hk⟩ : ∃ k, p.2 = k := ⟨_, rfl⟩
  have HK : Hid (p.2 = k) := hk
  rw [hk]
  clear hp hu hb HR hk
  by_cases h0 : k = 0
  · subst h0
    obtain ⟨D, hD⟩ : ∃ D, (u.toList != (s.extract 0 a).toList) = D := ⟨_, rfl⟩
    have HCM : Hid ((u.toList != (s.extract 0 a).toList) = D) := hD
    have HE : Hid (D = false ↔ p.1 = s.data.toList.take a) := by
      show _ ↔ _
      rw [← hD, toList_d, ext_to, HP.out.2]
      simp
    clear hD
    go_wp2_with fail
    refine cp2y HR1.out.x.lt (HR1.out.x.cell rfl) (HR1.out.x.cell rfl) ⟨HZ.out.1, Nat.le_trans HZ.out.2 (by decide)⟩ HCM ?_
    intro W2 hb
    have HR2 : Hid (RQ w W2 g (rdc s (a : Int) st ty bo cl)) := HR1.out.below hb
    clear hb HR1 HCM
    cases D
    · go_wp2
      go_ret
      exact ⟨HR2.out, .inl ⟨by rw [HP.out.1]; exact HK.out, by rw [HP.out.1]; exact HE.out.1 (by first | rfl | trivial), rfl⟩⟩
    · go_wp2_with fail
      refine (giveUp_is HR2.out.x).mono ?_
      rintro e X ⟨rfl, rfl⟩
      go_wp2
      go_ret
      exact ⟨HR2.out, .inr ⟨fun k => (by have := HE.out.2 (by rw [← HP.out.1]; exact k.2); cases this), rfl⟩⟩
  · have hk : (k != 0) = true := by simpa using h0
    have H0 : Hid (k ≠ 0) := h0
    clear h0
    go_wp2_with fail
    refine cp2n hk ?_
    intro W2 hb
    have HR2 : Hid (RQ w W2 g (rdc s (a : Int) st ty bo cl)) := HR1.out.below hb
    clear hb HR1 hk
    go_wp2_with fail
    refine (giveUp_is HR2.out.x).mono ?_
    rintro e X ⟨rfl, rfl⟩
    go_wp2
    go_ret
    exact ⟨HR2.out, .inr ⟨fun k => H0.out (by rw [← HK.out, ← HP.out.1]; exact k.1), rfl⟩⟩
#print axioms compare_is
end Go.Proofs.YtkpepfeiimphpaaDoor.Oct
