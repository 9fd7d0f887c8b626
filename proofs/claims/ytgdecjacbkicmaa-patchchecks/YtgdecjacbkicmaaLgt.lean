/-
  Layer 10 (patch): light.
-/
import Derived.Test.YtgdecjacbkicmaaTwn
import Derived.Deep.MidRow
namespace Go.Proofs.Ytgdecjacbkicmaa.Oct
open Go.RowKit
set_option maxRecDepth 100000
set_option linter.unusedSimpArgs false
set_option linter.unusedVariables false

theorem yl_quoI {o : Oper} {a : Act} (V : World) (p q : Operand) (x y r : Int) (hy : y ≠ 0) (hr : IntKind.i64.wrap (x.tdiv y) = r) (hop : o.op = .binOp .quo 3 p q 3) (h1 : a.eval p = iv x) (h2 : a.eval q = iv y) : (execOp a.eval o).run Try.prog V = .ok (.value (iv r)) V := by
  subst hr
  unfold execOp
  simp only [hop, h1, h2, Sem.run_bind, Sem.run_pure]
  first
  | (simp [eqGuard, go_sem, Try.underlying3, hy]; done)
  | (go_simp; done)
theorem yl_addI {o : Oper} {a : Act} (V : World) (p q : Operand) (x y r : Int) (hr : IntKind.i64.wrap (x + y) = r) (hop : o.op = .binOp .add 3 p q 3) (h1 : a.eval p = iv x) (h2 : a.eval q = iv y) : (execOp a.eval o).run Try.prog V = .ok (.value (iv r)) V := by
  subst hr
  unfold execOp
  simp only [hop, h1, h2, Sem.run_bind, Sem.run_pure]
  first
  | (simp [eqGuard, go_sem, Try.underlying3]; done)
  | (go_simp; done)
set_option maxRecDepth 100000 in
set_option maxHeartbeats 4000000 in
theorem lg5 {Q : Exit → Act → World → Prop} {x0 x2 x5 x6 x7 x8 x9 x10 x11 x12 x13 x14 x15 x16 x17 x18 x19 x20 x21 x22 x23 x24 x25 x26 x27 x28 x29 x30 x31 x32 x33 x34 x35 x36 x37 x38 x39 x40 x41 x42 x43 x44 x45 x46 x47 x48 x49 x50 x51 x52 x53 x54 x55 x56 x57 x58 x59 x60 x61 x62 x63 x64 x65 x66 x67 x68 x69 x70 x71 x72 x73 x74 x75 x76 x77 x78 x79 x80 x81 : Value} {ds : List Deferred} {A : World} {g off n c i d ln lc : Nat} {la : Option Addr} {ps : BA} {nn r0 r1 r2 : Int}
    (HL : Hid (d < A.heap.size ∧ g < A.heap.size)) (c4 : A.cell? ⟨d, 4, none⟩ = some (.slice (some ⟨g, off, none⟩) n c)) (k68 : A.cell? ⟨g, off + i * 69 + 68, none⟩ = some (.slice la ln lc)) (k1 : A.cell? ⟨g, off + i * 69 + 1, none⟩ = some (.string ps)) (H0 : Hid (IntKind.i64.wrap ((ps.size : Int).tdiv 100) = r0)) (H1 : Hid (IntKind.i64.wrap ((ln : Int) + r0) = r1)) (H2 : Hid (IntKind.i64.wrap (nn + r1) = r2)) (q1 : (i : Int) < (n : Int)) (q2 : i < n)
    (hQ : ∀ V1, Below A.heap.size A V1 → Q .normal { tmps := #[x0, .pointer (some ⟨d, 0, none⟩), x2, iv r2, iv (i : Int), x5, x6, x7, x8, x9, x10, x11, x12, x13, x14, x15, x16, x17, x18, x19, x20, x21, x22, x23, x24, x25, x26, x27, x28, x29, x30, x31, x32, x33, iv nn, .pointer (some ⟨d, 4, none⟩), .slice (some ⟨g, off, none⟩) n c, iv (i : Int), .pointer (some ⟨g, off + i * 69, none⟩), .pointer (some ⟨g, off + i * 69 + 68, none⟩), .slice la ln lc, iv (ln : Int), .pointer (some ⟨d, 4, none⟩), .slice (some ⟨g, off, none⟩) n c, iv (i : Int), .pointer (some ⟨g, off + i * 69, none⟩), .pointer (some ⟨g, off + i * 69 + 1, none⟩), .string ps, iv (ps.size : Int), iv r0, iv r1, iv r2, x52, x53, x54, x55, x56, x57, x58, x59, x60, x61, x62, x63, x64, x65, x66, x67, x68, x69, x70, x71, x72, x73, x74, x75, x76, x77, x78, x79, x80, x81], defers := ds } V1) :
    (Code.region 5 #[{ dst := some 34, op := Op.move (Operand.tmp 3), type := 3, pos := "law.go:21", after := #[], guard := none }, { dst := some 35, op := Op.fieldAddr 25 (Operand.tmp 1) 4, type := 0, pos := "law.go:21", after := #[], guard := none }, { dst := some 36, op := Op.load 23 (Operand.tmp 35), type := 23, pos := "law.go:21", after := #[{ on := 1, ground := Ground.data }], guard := none }, { dst := some 37, op := Op.move (Operand.tmp 4), type := 3, pos := "law.go:21", after := #[], guard := none }, { dst := some 38, op := Op.indexAddr 23 (Operand.tmp 36) (Operand.tmp 37), type := 0, pos := "law.go:21", after := #[{ on := 2, ground := Ground.data }, { on := 3, ground := Ground.data }], guard := none }, { dst := some 39, op := Op.fieldAddr 51 (Operand.tmp 38) 4, type := 0, pos := "law.go:21", after := #[{ on := 4, ground := Ground.data }], guard := none }, { dst := some 40, op := Op.load 31 (Operand.tmp 39), type := 31, pos := "law.go:21", after := #[{ on := 5, ground := Ground.data }], guard := none }, { dst := some 41, op := Op.call { callee := Callee.builtin Builtin.len, args := #[Operand.tmp 40], argTypes := #[31] }, type := 3, pos := "law.go:21", after := #[{ on := 6, ground := Ground.data }], guard := none }, { dst := some 42, op := Op.fieldAddr 25 (Operand.tmp 1) 4, type := 0, pos := "law.go:21", after := #[], guard := none }, { dst := some 43, op := Op.load 23 (Operand.tmp 42), type := 23, pos := "law.go:21", after := #[{ on := 8, ground := Ground.data }], guard := none }, { dst := some 44, op := Op.move (Operand.tmp 4), type := 3, pos := "law.go:21", after := #[], guard := none }, { dst := some 45, op := Op.indexAddr 23 (Operand.tmp 43) (Operand.tmp 44), type := 0, pos := "law.go:21", after := #[{ on := 9, ground := Ground.data }, { on := 10, ground := Ground.data }], guard := none }, { dst := some 46, op := Op.fieldAddr 51 (Operand.tmp 45) 1, type := 0, pos := "law.go:21", after := #[{ on := 11, ground := Ground.data }], guard := none }, { dst := some 47, op := Op.load 9 (Operand.tmp 46), type := 9, pos := "law.go:21", after := #[{ on := 12, ground := Ground.data }], guard := none }, { dst := some 48, op := Op.call { callee := Callee.builtin Builtin.len, args := #[Operand.tmp 47], argTypes := #[9] }, type := 3, pos := "law.go:21", after := #[{ on := 13, ground := Ground.data }], guard := none }, { dst := some 49, op := Op.binOp BinOp.quo 3 (Operand.tmp 48) (Operand.const (Value.int IntKind.i64 100)) 3, type := 3, pos := "law.go:21", after := #[{ on := 14, ground := Ground.data }], guard := none }, { dst := some 50, op := Op.binOp BinOp.add 3 (Operand.tmp 41) (Operand.tmp 49) 3, type := 3, pos := "law.go:21", after := #[{ on := 7, ground := Ground.data }, { on := 15, ground := Ground.data }], guard := none }, { dst := some 51, op := Op.binOp BinOp.add 3 (Operand.tmp 34) (Operand.tmp 50) 3, type := 3, pos := "law.go:21", after := #[{ on := 0, ground := Ground.data }, { on := 16, ground := Ground.data }], guard := none }, { dst := some 3, op := Op.assign (Operand.tmp 51), type := 3, pos := "law.go:21", after := #[{ on := 17, ground := Ground.data }, { on := 0, ground := Ground.phase }, { on := 1, ground := Ground.phase }, { on := 2, ground := Ground.phase }, { on := 3, ground := Ground.phase }, { on := 4, ground := Ground.phase }, { on := 5, ground := Ground.phase }, { on := 6, ground := Ground.phase }, { on := 7, ground := Ground.phase }, { on := 8, ground := Ground.phase }, { on := 9, ground := Ground.phase }, { on := 10, ground := Ground.phase }, { on := 11, ground := Ground.phase }, { on := 12, ground := Ground.phase }, { on := 13, ground := Ground.phase }, { on := 14, ground := Ground.phase }, { on := 15, ground := Ground.phase }, { on := 16, ground := Ground.phase }, { on := 17, ground := Ground.phase }], guard := none }] true).wp Try.prog Q { tmps := #[x0, .pointer (some ⟨d, 0, none⟩), x2, iv nn, iv (i : Int), x5, x6, x7, x8, x9, x10, x11, x12, x13, x14, x15, x16, x17, x18, x19, x20, x21, x22, x23, x24, x25, x26, x27, x28, x29, x30, x31, x32, x33, x34, x35, x36, x37, x38, x39, x40, x41, x42, x43, x44, x45, x46, x47, x48, x49, x50, x51, x52, x53, x54, x55, x56, x57, x58, x59, x60, x61, x62, x63, x64, x65, x66, x67, x68, x69, x70, x71, x72, x73, x74, x75, x76, x77, x78, x79, x80, x81], defers := ds } A := by
  refine Code.wp_mono (Q := fun x a' w' => match x with | .normal => Q .normal a' w' | _ => False) (by intro x a' w' h; cases x <;> first | exact h | exact h.elim) ?_
  refine wp_region_held (S := fun V => Below A.heap.size A V) (by kernel_rfl) ?_
  have hS0 : Hid (Below A.heap.size A A.drew) := below_drew0 A
  change wpAnyH Try.prog .any _ _ (fun V => Below A.heap.size A V) 19 (Array.replicate 19 false) _ A.drew
  obtain ⟨V0, hV0⟩ : ∃ V0, A.drew = V0 := ⟨_, rfl⟩
  rw [hV0]
  rw [hV0] at hS0
  clear hV0
  refine wpAnyH_take (i := 0) (oi := { dst := some 34, op := Op.move (Operand.tmp 3), type := 3, pos := "law.go:21", after := #[], guard := none }) (v := iv nn) rfl (by kernel_rfl) (by kernel_rfl) (by kernel_rfl) (fun _ _ _ h => h.elim) (Or.inl ⟨by rfl, ?y1⟩) hS0.out ?_
  case y1 =>
    intro V hV
    go_simp
  simp only [Act.put, List.setIfInBounds_toArray, List.set_cons_zero, List.set_cons_succ]
  refine wpAnyH_take (i := 1) (oi := { dst := some 35, op := Op.fieldAddr 25 (Operand.tmp 1) 4, type := 0, pos := "law.go:21", after := #[], guard := none }) (v := .pointer (some ⟨d, 4, none⟩)) rfl (by kernel_rfl) (by kernel_rfl) (by kernel_rfl) (fun _ _ _ h => h.elim) (Or.inl ⟨by rfl, ?y2⟩) hS0.out ?_
  case y2 =>
    intro V hV
    go_simp
  simp only [Act.put, List.setIfInBounds_toArray, List.set_cons_zero, List.set_cons_succ]
  refine wpAnyH_take (i := 2) (oi := { dst := some 36, op := Op.load 23 (Operand.tmp 35), type := 23, pos := "law.go:21", after := #[{ on := 1, ground := Ground.data }], guard := none }) (v := .slice (some ⟨g, off, none⟩) n c) rfl (by kernel_rfl) (by kernel_rfl) (by kernel_rfl) (fun _ _ _ h => h.elim) (Or.inl ⟨by rfl, ?y3⟩) hS0.out ?_
  case y3 =>
    intro V hV
    have hc : V.cell? ⟨d, 4, none⟩ = some (.slice (some ⟨g, off, none⟩) n c) := ((show Below A.heap.size A V from hV).cell (p := ⟨d, 4, none⟩) HL.out.1).trans c4
    go_simp
  simp only [Act.put, List.setIfInBounds_toArray, List.set_cons_zero, List.set_cons_succ]
  refine wpAnyH_take (i := 3) (oi := { dst := some 37, op := Op.move (Operand.tmp 4), type := 3, pos := "law.go:21", after := #[], guard := none }) (v := iv (i : Int)) rfl (by kernel_rfl) (by kernel_rfl) (by kernel_rfl) (fun _ _ _ h => h.elim) (Or.inl ⟨by rfl, ?y4⟩) hS0.out ?_
  case y4 =>
    intro V hV
    go_simp
  simp only [Act.put, List.setIfInBounds_toArray, List.set_cons_zero, List.set_cons_succ]
  refine wpAnyH_take (i := 4) (oi := { dst := some 38, op := Op.indexAddr 23 (Operand.tmp 36) (Operand.tmp 37), type := 0, pos := "law.go:21", after := #[{ on := 2, ground := Ground.data }, { on := 3, ground := Ground.data }], guard := none }) (v := .pointer (some ⟨g, off + i * 69, none⟩)) rfl (by kernel_rfl) (by kernel_rfl) (by kernel_rfl) (fun _ _ _ h => h.elim) (Or.inl ⟨by rfl, ?y5⟩) hS0.out ?_
  case y5 =>
    intro V hV
    have hcmp := q1
    have hcmp2 := q2
    go_simp
  simp only [Act.put, List.setIfInBounds_toArray, List.set_cons_zero, List.set_cons_succ]
  refine wpAnyH_take (i := 5) (oi := { dst := some 39, op := Op.fieldAddr 51 (Operand.tmp 38) 4, type := 0, pos := "law.go:21", after := #[{ on := 4, ground := Ground.data }], guard := none }) (v := .pointer (some ⟨g, off + i * 69 + 68, none⟩)) rfl (by kernel_rfl) (by kernel_rfl) (by kernel_rfl) (fun _ _ _ h => h.elim) (Or.inl ⟨by rfl, ?y6⟩) hS0.out ?_
  case y6 =>
    intro V hV
    go_simp
  simp only [Act.put, List.setIfInBounds_toArray, List.set_cons_zero, List.set_cons_succ]
  refine wpAnyH_take (i := 6) (oi := { dst := some 40, op := Op.load 31 (Operand.tmp 39), type := 31, pos := "law.go:21", after := #[{ on := 5, ground := Ground.data }], guard := none }) (v := .slice la ln lc) rfl (by kernel_rfl) (by kernel_rfl) (by kernel_rfl) (fun _ _ _ h => h.elim) (Or.inl ⟨by rfl, ?y7⟩) hS0.out ?_
  case y7 =>
    intro V hV
    have hc : V.cell? ⟨g, off + i * 69 + 68, none⟩ = some (.slice la ln lc) := ((show Below A.heap.size A V from hV).cell (p := ⟨g, off + i * 69 + 68, none⟩) HL.out.2).trans k68
    go_simp
  simp only [Act.put, List.setIfInBounds_toArray, List.set_cons_zero, List.set_cons_succ]
  refine wpAnyH_take (i := 7) (oi := { dst := some 41, op := Op.call { callee := Callee.builtin Builtin.len, args := #[Operand.tmp 40], argTypes := #[31] }, type := 3, pos := "law.go:21", after := #[{ on := 6, ground := Ground.data }], guard := none }) (v := iv (ln : Int)) rfl (by kernel_rfl) (by kernel_rfl) (by kernel_rfl) (fun _ _ _ h => h.elim) (Or.inl ⟨by rfl, ?y8⟩) hS0.out ?_
  case y8 =>
    intro V hV
    go_simp
  simp only [Act.put, List.setIfInBounds_toArray, List.set_cons_zero, List.set_cons_succ]
  refine wpAnyH_take (i := 8) (oi := { dst := some 42, op := Op.fieldAddr 25 (Operand.tmp 1) 4, type := 0, pos := "law.go:21", after := #[], guard := none }) (v := .pointer (some ⟨d, 4, none⟩)) rfl (by kernel_rfl) (by kernel_rfl) (by kernel_rfl) (fun _ _ _ h => h.elim) (Or.inl ⟨by rfl, ?y9⟩) hS0.out ?_
  case y9 =>
    intro V hV
    go_simp
  simp only [Act.put, List.setIfInBounds_toArray, List.set_cons_zero, List.set_cons_succ]
  refine wpAnyH_take (i := 9) (oi := { dst := some 43, op := Op.load 23 (Operand.tmp 42), type := 23, pos := "law.go:21", after := #[{ on := 8, ground := Ground.data }], guard := none }) (v := .slice (some ⟨g, off, none⟩) n c) rfl (by kernel_rfl) (by kernel_rfl) (by kernel_rfl) (fun _ _ _ h => h.elim) (Or.inl ⟨by rfl, ?y10⟩) hS0.out ?_
  case y10 =>
    intro V hV
    have hc : V.cell? ⟨d, 4, none⟩ = some (.slice (some ⟨g, off, none⟩) n c) := ((show Below A.heap.size A V from hV).cell (p := ⟨d, 4, none⟩) HL.out.1).trans c4
    go_simp
  simp only [Act.put, List.setIfInBounds_toArray, List.set_cons_zero, List.set_cons_succ]
  refine wpAnyH_take (i := 10) (oi := { dst := some 44, op := Op.move (Operand.tmp 4), type := 3, pos := "law.go:21", after := #[], guard := none }) (v := iv (i : Int)) rfl (by kernel_rfl) (by kernel_rfl) (by kernel_rfl) (fun _ _ _ h => h.elim) (Or.inl ⟨by rfl, ?y11⟩) hS0.out ?_
  case y11 =>
    intro V hV
    go_simp
  simp only [Act.put, List.setIfInBounds_toArray, List.set_cons_zero, List.set_cons_succ]
  refine wpAnyH_take (i := 11) (oi := { dst := some 45, op := Op.indexAddr 23 (Operand.tmp 43) (Operand.tmp 44), type := 0, pos := "law.go:21", after := #[{ on := 9, ground := Ground.data }, { on := 10, ground := Ground.data }], guard := none }) (v := .pointer (some ⟨g, off + i * 69, none⟩)) rfl (by kernel_rfl) (by kernel_rfl) (by kernel_rfl) (fun _ _ _ h => h.elim) (Or.inl ⟨by rfl, ?y12⟩) hS0.out ?_
  case y12 =>
    intro V hV
    have hcmp := q1
    have hcmp2 := q2
    go_simp
  simp only [Act.put, List.setIfInBounds_toArray, List.set_cons_zero, List.set_cons_succ]
  refine wpAnyH_take (i := 12) (oi := { dst := some 46, op := Op.fieldAddr 51 (Operand.tmp 45) 1, type := 0, pos := "law.go:21", after := #[{ on := 11, ground := Ground.data }], guard := none }) (v := .pointer (some ⟨g, off + i * 69 + 1, none⟩)) rfl (by kernel_rfl) (by kernel_rfl) (by kernel_rfl) (fun _ _ _ h => h.elim) (Or.inl ⟨by rfl, ?y13⟩) hS0.out ?_
  case y13 =>
    intro V hV
    go_simp
  simp only [Act.put, List.setIfInBounds_toArray, List.set_cons_zero, List.set_cons_succ]
  refine wpAnyH_take (i := 13) (oi := { dst := some 47, op := Op.load 9 (Operand.tmp 46), type := 9, pos := "law.go:21", after := #[{ on := 12, ground := Ground.data }], guard := none }) (v := .string ps) rfl (by kernel_rfl) (by kernel_rfl) (by kernel_rfl) (fun _ _ _ h => h.elim) (Or.inl ⟨by rfl, ?y14⟩) hS0.out ?_
  case y14 =>
    intro V hV
    have hc : V.cell? ⟨g, off + i * 69 + 1, none⟩ = some (.string ps) := ((show Below A.heap.size A V from hV).cell (p := ⟨g, off + i * 69 + 1, none⟩) HL.out.2).trans k1
    go_simp
  simp only [Act.put, List.setIfInBounds_toArray, List.set_cons_zero, List.set_cons_succ]
  refine wpAnyH_take (i := 14) (oi := { dst := some 48, op := Op.call { callee := Callee.builtin Builtin.len, args := #[Operand.tmp 47], argTypes := #[9] }, type := 3, pos := "law.go:21", after := #[{ on := 13, ground := Ground.data }], guard := none }) (v := iv (ps.size : Int)) rfl (by kernel_rfl) (by kernel_rfl) (by kernel_rfl) (fun _ _ _ h => h.elim) (Or.inl ⟨by rfl, ?y15⟩) hS0.out ?_
  case y15 =>
    intro V hV
    go_simp
  simp only [Act.put, List.setIfInBounds_toArray, List.set_cons_zero, List.set_cons_succ]
  refine wpAnyH_take (i := 15) (oi := { dst := some 49, op := Op.binOp BinOp.quo 3 (Operand.tmp 48) (Operand.const (Value.int IntKind.i64 100)) 3, type := 3, pos := "law.go:21", after := #[{ on := 14, ground := Ground.data }], guard := none }) (v := iv r0) rfl (by kernel_rfl) (by kernel_rfl) (by kernel_rfl) (fun _ _ _ h => h.elim) (Or.inl ⟨by rfl, ?y16⟩) hS0.out ?_
  case y16 =>
    intro V hV
    exact yl_quoI V _ _ _ _ r0 (by decide) H0.out rfl rfl rfl
  simp only [Act.put, List.setIfInBounds_toArray, List.set_cons_zero, List.set_cons_succ]
  refine wpAnyH_take (i := 16) (oi := { dst := some 50, op := Op.binOp BinOp.add 3 (Operand.tmp 41) (Operand.tmp 49) 3, type := 3, pos := "law.go:21", after := #[{ on := 7, ground := Ground.data }, { on := 15, ground := Ground.data }], guard := none }) (v := iv r1) rfl (by kernel_rfl) (by kernel_rfl) (by kernel_rfl) (fun _ _ _ h => h.elim) (Or.inl ⟨by rfl, ?y17⟩) hS0.out ?_
  case y17 =>
    intro V hV
    exact yl_addI V _ _ _ _ r1 H1.out rfl rfl rfl
  simp only [Act.put, List.setIfInBounds_toArray, List.set_cons_zero, List.set_cons_succ]
  refine wpAnyH_take (i := 17) (oi := { dst := some 51, op := Op.binOp BinOp.add 3 (Operand.tmp 34) (Operand.tmp 50) 3, type := 3, pos := "law.go:21", after := #[{ on := 0, ground := Ground.data }, { on := 16, ground := Ground.data }], guard := none }) (v := iv r2) rfl (by kernel_rfl) (by kernel_rfl) (by kernel_rfl) (fun _ _ _ h => h.elim) (Or.inl ⟨by rfl, ?y18⟩) hS0.out ?_
  case y18 =>
    intro V hV
    exact yl_addI V _ _ _ _ r2 H2.out rfl rfl rfl
  simp only [Act.put, List.setIfInBounds_toArray, List.set_cons_zero, List.set_cons_succ]
  refine wpAnyH_take (i := 18) (oi := { dst := some 3, op := Op.assign (Operand.tmp 51), type := 3, pos := "law.go:21", after := #[{ on := 17, ground := Ground.data }, { on := 0, ground := Ground.phase }, { on := 1, ground := Ground.phase }, { on := 2, ground := Ground.phase }, { on := 3, ground := Ground.phase }, { on := 4, ground := Ground.phase }, { on := 5, ground := Ground.phase }, { on := 6, ground := Ground.phase }, { on := 7, ground := Ground.phase }, { on := 8, ground := Ground.phase }, { on := 9, ground := Ground.phase }, { on := 10, ground := Ground.phase }, { on := 11, ground := Ground.phase }, { on := 12, ground := Ground.phase }, { on := 13, ground := Ground.phase }, { on := 14, ground := Ground.phase }, { on := 15, ground := Ground.phase }, { on := 16, ground := Ground.phase }, { on := 17, ground := Ground.phase }], guard := none }) (v := iv r2) rfl (by kernel_rfl) (by kernel_rfl) (by kernel_rfl) (fun _ _ _ h => h.elim) (Or.inl ⟨by rfl, ?y19⟩) hS0.out ?_
  case y19 =>
    intro V hV
    go_simp
  simp only [Act.put, List.setIfInBounds_toArray, List.set_cons_zero, List.set_cons_succ]
  refine wpAnyH_done (by kernel_rfl) ?_ _
  exact hQ V0 hS0.out
#print axioms lg5
def LT (p : PV) : Prop := p.dn ≤ 300 ∧ p.on ≤ 300 ∧ ∀ o ∈ p.O, o.ln ≤ 300
theorem tdn (a : Nat) (c : Nat) : ((a : Int).tdiv (c : Int)) = ((a / c : Nat) : Int) := by rw [Int.tdiv_eq_ediv_of_nonneg (by omega)]; rfl
def LgI (p : PV) (i N : Nat) : Prop := p.dn ≤ N ∧ p.on ≤ N ∧ ∀ j o, j < i → p.O[j]? = some o → o.ln ≤ N
set_option maxHeartbeats 4000000 in
theorem light_is (w : World) (p : PV) (h : PR w p) : Calls Try.prog 7 #[.agg p.cells.toArray] w fun e w' => ∃ B, e = .returned (.bool B) ∧ Hid (B = true → LT p) ∧ Below w.heap.size w w' := by
  obtain ⟨d, hd⟩ : ∃ d, w.heap.size = d := ⟨_, rfl⟩
  obtain ⟨W, hW⟩ : ∃ W, w.alloc (.cells p.cells.toArray 25) = W := ⟨_, rfl⟩
  have hk : Blk W d 25 p.cells := by rw [← hW, ← hd]; exact Blk.new w _ _
  have HP : Hid (PR w p ∧ Blk W d 25 p.cells ∧ Below w.heap.size w W) := ⟨h, hk, by rw [← hW]; exact below_al _ _⟩
  have c0 : W.cell? ⟨d, 0, none⟩ = some (.string p.au) := hk.cell rfl
  have c2 : W.cell? ⟨d, 2, none⟩ = some (.string p.nt) := hk.cell rfl
  have c3 : W.cell? ⟨d, 3, none⟩ = some (.slice p.da p.dn p.dc) := hk.cell rfl
  have c4 : W.cell? ⟨d, 4, none⟩ = some (.slice p.oa p.on p.oc) := hk.cell rfl
  have qa : (p.au.size : Int) ≤ 140737488355328 := by have := h.za; omega
  have qb : (p.nt.size : Int) ≤ 140737488355328 := by have := h.zn; omega
  have qc : (p.dn : Int) ≤ 140737488355328 := by have := h.zd; omega
  have qo : (p.on : Int) ≤ 140737488355328 := by have := h.zo; omega
  clear h hk
  go_enter Try.func7, Try.ntmps7
  go_wp2
  clear hW hd
  go_loopw [4, 3] (fun u s wr => ∃ i N : Nat, u = iv (i : Int) ∧ s = iv (N : Int) ∧ (i : Int) ≤ (p.on : Int) ∧ (N : Int) ≤ 500000000000000 ∧ Hid (LgI p i N ∧ Below W.heap.size W wr)) (fun u _ _ => p.on - (intOf u).toNat)
  case atStart => exact ⟨0, p.au.size / 100 + p.nt.size / 100 + p.dn + p.on, rfl, by first | (congr 1; done) | (congr 1; omega), by omega, by omega, ⟨by omega, by omega, fun j o hj => absurd hj (by omega)⟩, Below.refl _ _⟩
  case round =>
    obtain ⟨V, hV⟩ : ∃ V, V = wr := ⟨_, rfl⟩
    subst hV
    obtain ⟨i, N, rfl, rfl, qi, qN, HI⟩ := hrel
    clear c0 c2 c3 c4 qa qb qc
    have c4 : V.cell? ⟨d, 4, none⟩ = some (.slice p.oa p.on p.oc) := (HP.out.2.1.below HI.out.2 HP.out.2.1.lt).cell rfl
    by_cases hi : i < p.on
    · have q1 : (i : Int) < (p.on : Int) := by omega
      have g1 : decide ((i : Int) < (p.on : Int)) = true := decide_eq_true q1
      by_cases hN : N ≤ 300
      · have q2 : (N : Int) ≤ 300 := by omega
        have g2 : decide ((N : Int) ≤ 300) = true := decide_eq_true q2
        have hos := (HP.out.1.below (below_tr HP.out.2.2 HI.out.2)).ops
        obtain ⟨x, hx⟩ : ∃ x, p.O[i]? = some x := ⟨_, List.getElem?_eq_getElem (by rw [hos.1]; exact hi)⟩
        obtain ⟨g, off, hoa, hg, hel⟩ := hos.2.2 (by omega)
        have hxo := hos.2.1 x (List.mem_of_getElem? hx)
        have hr := hel i x hx
        have k68 : V.cell? ⟨g, off + i * 69 + 68, none⟩ = some (.slice x.la x.ln x.lc) := hr 68 _ (OpV.c68 hxo.1)
        have k1 : V.cell? ⟨g, off + i * 69 + 1, none⟩ = some (.string x.path) := hr 1 _ x.c1
        obtain ⟨ln, hln⟩ : ∃ n, x.ln = n := ⟨_, rfl⟩
        rw [hln] at k68
        have z1 := hxo.1.2.2.2.1
        have z2 := hxo.1.2.2.2.2.1
        have HL : Hid (d < V.heap.size ∧ g < V.heap.size) := ⟨lt_of_cell c4, hg⟩
        have H0 : Hid (IntKind.i64.wrap ((x.path.size : Int).tdiv 100) = ((x.path.size / 100 : Nat) : Int)) := by
          show _ = _
          rw [show (100 : Int) = ((100 : Nat) : Int) from rfl, tdn, IntKind.wrap_i64]
          omega
        have H1 : Hid (IntKind.i64.wrap ((ln : Int) + ((x.path.size / 100 : Nat) : Int)) = ((ln + x.path.size / 100 : Nat) : Int)) := by
          show _ = _
          rw [IntKind.wrap_i64]
          omega
        have H2 : Hid (IntKind.i64.wrap ((N : Int) + ((ln + x.path.size / 100 : Nat) : Int)) = ((N + (ln + x.path.size / 100) : Nat) : Int)) := by
          show _ = _
          rw [IntKind.wrap_i64]
          omega
        have HX : Hid (i < p.on ∧ p.O[i]? = some x ∧ x.ok ∧ x.ln = ln ∧ ln ≤ 140737488355328 ∧ p.oa = some ⟨g, off, none⟩) := ⟨hi, hx, hxo.1, hln, by omega, hoa⟩
        obtain ⟨N2, hN2⟩ : ∃ n, N + (ln + x.path.size / 100) = n := ⟨_, rfl⟩
        rw [hN2] at H2
        have HN2 : Hid (N ≤ N2 ∧ ln ≤ N2 ∧ N2 ≤ 300000000000000) := ⟨by omega, by omega, by omega⟩
        have c4' := c4
        rw [hoa] at c4'
        clear c4 hx hel hr hos hxo hoa hN hN2 hln z1 z2 qi hg
        go_wp2_with fail
        refine lg5 HL c4' k68 k1 H0 H1 H2 q1 hi ?_
        intro V2 hb2
        have HV2 : Hid (Below W.heap.size W V2) := below_tr HI.out.2 hb2
        have HL2 : Hid (LgI p (i + 1) N2) := by
          have h1 := HI.out.1
          have h2 := HN2.out
          refine ⟨Nat.le_trans h1.1 h2.1, Nat.le_trans h1.2.1 h2.1, fun j o hj ho => ?_⟩
          by_cases hji : j = i
          · subst hji
            rw [HX.out.2.1] at ho
            cases ho
            rw [HX.out.2.2.2.1]
            exact h2.2.1
          · exact Nat.le_trans (h1.2.2 j o (by omega) ho) h2.1
        have qN2 : (N2 : Int) ≤ 500000000000000 := by have := HN2.out; omega
        have qln : (ln : Int) ≤ 140737488355328 := by have := HX.out.2.2.2.2.1; omega
        clear hb2 HI c4' k68 k1 H0 H1 H2 HL g1 g2 q2 hi
        go_wp2_with fail
        go_loopw [5, 3] (fun u s wr => ∃ k N : Nat, u = iv (k : Int) ∧ s = iv (N : Int) ∧ (k : Int) ≤ (ln : Int) ∧ (N : Int) ≤ 500000000000000 ∧ Hid (LgI p (i + 1) N ∧ Below W.heap.size W wr)) (fun u _ _ => ln - (intOf u).toNat)
        case atStart => exact ⟨0, N2, rfl, rfl, by omega, qN2, HL2.out, HV2.out⟩
        case round =>
          obtain ⟨V3, hV3⟩ : ∃ V, V = wr := ⟨_, rfl⟩
          subst hV3
          obtain ⟨k, M, rfl, rfl, qk, qM, HI⟩ := hrel
          clear qN2 HV2 HL2
          have c4 : V3.cell? ⟨d, 4, none⟩ = some (.slice (some ⟨g, off, none⟩) p.on p.oc) := by rw [← HX.out.2.2.2.2.2]; exact (HP.out.2.1.below HI.out.2 HP.out.2.1.lt).cell rfl
          have hos := (HP.out.1.below (below_tr HP.out.2.2 HI.out.2)).ops
          obtain ⟨g2, off2, hoa, hg, hel⟩ := hos.2.2 (by have := HX.out.1; omega)
          rw [HX.out.2.2.2.2.2] at hoa
          cases hoa
          have hr := hel i x HX.out.2.1
          have hxs := (hos.2.1 x (List.mem_of_getElem? HX.out.2.1)).2
          have k68 : V3.cell? ⟨g, off + i * 69 + 68, none⟩ = some (.slice x.la ln x.lc) := by rw [← HX.out.2.2.2.1]; exact hr 68 _ (OpV.c68 HX.out.2.2.1)
          by_cases hk : k < ln
          · have q3 : (k : Int) < (ln : Int) := by omega
            have g3 : decide ((k : Int) < (ln : Int)) = true := decide_eq_true q3
            by_cases hM : M ≤ 300
            · have q4 : (M : Int) ≤ 300 := by omega
              have g4 : decide ((M : Int) ≤ 300) = true := decide_eq_true q4
              obtain ⟨t, ht⟩ : ∃ t, x.ts[k]? = some t := ⟨_, List.getElem?_eq_getElem (by rw [HX.out.2.2.1.2.2.1, HX.out.2.2.2.1]; exact hk)⟩
              have hts := HX.out.2.2.1.2.2.2.2.2.1 t (List.mem_of_getElem? ht)
              obtain ⟨b, o2, hla, hb, hse⟩ := hxs.2 (by rw [HX.out.2.2.2.1]; omega)
              have kt : V3.cell? ⟨b, o2 + k, none⟩ = some (.string t) := hse k t ht
              rw [hla] at k68
              have qt : (t.size : Int) ≤ 140737488355328 := by omega
              have HN3 : Hid (k < ln ∧ LgI p (i + 1) (M + t.size / 300) ∧ Below W.heap.size W V3 ∧ M + t.size / 300 ≤ 500000000000000) := ⟨hk, ⟨Nat.le_trans HI.out.1.1 (Nat.le_add_right _ _), Nat.le_trans HI.out.1.2.1 (Nat.le_add_right _ _), fun j o hj ho => Nat.le_trans (HI.out.1.2.2 j o hj ho) (Nat.le_add_right _ _)⟩, HI.out.2, by omega⟩
              clear hos hel hr hxs hg hk hM hts hla hb hse ht qk qM HI
              go_wp2
              go_roundw
              case rel => exact ⟨k + 1, M + t.size / 300, by simp, by first | (congr 1; done) | (congr 1; omega), by have := HN3.out.1; omega, by have := HN3.out.2.2.2; omega, HN3.out.2.1, HN3.out.2.2.1⟩
              case measure => have := HN3.out.1; simp only [intOf]; omega
            · have q4 : 300 < (M : Int) := by omega
              have g4 : decide ((M : Int) ≤ 300) = false := decide_eq_false (by omega)
              have HN3 : Hid (i < p.on ∧ LgI p (i + 1) M ∧ Below W.heap.size W V3) := ⟨HX.out.1, HI.out.1, HI.out.2⟩
              clear hos hel hr hxs hg hk hM qk HI
              go_wp2
              go_roundw
              case rel => exact ⟨i + 1, M, by simp, rfl, by have := HN3.out.1; omega, qM, HN3.out.2.1, HN3.out.2.2⟩
              case measure => have := HN3.out.1; simp only [intOf]; omega
          · have q3 : (ln : Int) ≤ (k : Int) := by omega
            have g3 : decide ((k : Int) < (ln : Int)) = false := decide_eq_false (by omega)
            have HN3 : Hid (i < p.on ∧ LgI p (i + 1) M ∧ Below W.heap.size W V3) := ⟨HX.out.1, HI.out.1, HI.out.2⟩
            clear hos hel hr hxs hg hk qk HI
            go_wp2
            go_roundw
            case rel => exact ⟨i + 1, M, by simp, rfl, by have := HN3.out.1; omega, qM, HN3.out.2.1, HN3.out.2.2⟩
            case measure => have := HN3.out.1; simp only [intOf]; omega
      · have q2 : 300 < (N : Int) := by omega
        have g2 : decide ((N : Int) ≤ 300) = false := decide_eq_false (by omega)
        have HF : Hid (Below w.heap.size w V) := below_tr HP.out.2.2 HI.out.2
        clear hi hN
        go_wp2
        go_ret
        exact ⟨_, rfl, (fun h => by simp at h), HF.out⟩
    · have q1 : (p.on : Int) ≤ (i : Int) := by omega
      have g1 : decide ((i : Int) < (p.on : Int)) = false := decide_eq_false (by omega)
      have HF : Hid (Below w.heap.size w V ∧ (N ≤ 300 → LT p)) := ⟨below_tr HP.out.2.2 HI.out.2, fun hN => by
        have h1 := HI.out.1
        refine ⟨Nat.le_trans h1.1 hN, Nat.le_trans h1.2.1 hN, fun o ho => ?_⟩
        obtain ⟨j, hj, rfl⟩ := List.mem_iff_getElem.1 ho
        exact Nat.le_trans (h1.2.2 j _ (by rw [HP.out.1.ops.1] at hj; omega) (List.getElem?_eq_getElem hj)) hN⟩
      clear hi HI
      by_cases hN : N ≤ 300
      · have q2 : (N : Int) ≤ 300 := by omega
        go_wp2
        go_ret
        exact ⟨_, rfl, (fun _ => HF.out.2 hN), HF.out.1⟩
      · have q2 : 300 < (N : Int) := by omega
        have g2 : decide ((N : Int) ≤ 300) = false := decide_eq_false (by omega)
        clear hN
        go_wp2
        go_ret
        exact ⟨_, rfl, (fun h => by simp at h), HF.out.1⟩
#print axioms light_is
end Go.Proofs.Ytgdecjacbkicmaa.Oct
