/-
  Layer 19 (audit): the law AuditVerifies: drawn regions of its loops.
  Layer 19 (audit): the law AuditVerifies: its last drawn region.
  Layer 19 (audit): the law AuditVerifies.
  Layer 19 (audit): a digest among the arguments.
-/
import Derived.Test.YtmmpafaegmejlaaDoorPkF
import Derived.WideKeyArr2
/- Layer 19 (audit): the law AuditVerifies: drawn regions of its loops. -/
namespace Go.Proofs.YtmmpafaegmejlaaDoor.Oct
open Go.RowKit Sha
set_option linter.unusedSimpArgs false
set_option linter.unusedVariables false

set_option maxRecDepth 100000 in
set_option maxHeartbeats 4000000 in
theorem vs7 {Q : Exit → Act → World → Prop} {x1 x2 x3 x4 x7 x8 x9 x10 x11 x12 x13 x14 x15 x16 x17 x18 x19 x20 x21 x22 x23 x24 x25 x26 x27 x28 x29 x30 x31 x32 x33 x34 x35 x36 x37 x38 x39 x40 x41 x42 x43 x44 x45 x46 x47 x48 x49 x50 x51 x52 x53 x54 x55 x56 x57 x58 x59 x60 x61 x62 x63 x64 x65 x66 x67 x68 x69 x70 x71 x72 x73 x74 x75 x76 x77 x78 x79 x80 x81 x82 x83 x84 x85 x86 x87 x88 x89 x90 x91 x92 x93 x94 x95 x96 x97 x98 x99 x100 x101 x102 x103 x104 x105 x106 x107 x108 x109 x110 x111 x112 x113 x114 x115 x116 x117 x118 x119 x120 x121 x122 x123 x124 : Value} {ds : List Deferred} {A : World} {s off n cap i t : Nat} {wo wa : ByteArray}
    (HS : Hid (s < A.heap.size)) (k2 : A.cell? ⟨s, off + i * 36 + 2, none⟩ = some (.string wo)) (k3 : A.cell? ⟨s, off + i * 36 + 3, none⟩ = some (.string wa)) (q1 : (i : Int) < (n : Int)) (q2 : i < n) (qw : (wo.size : Int) ≤ 140737488355328) (qa : (wa.size : Int) ≤ 140737488355328) (qt : (t : Int) ≤ 100000)
    (hQ : ∀ V1, Below A.heap.size A V1 → Q .normal { tmps := #[.slice (some ⟨s, off, none⟩) n cap, x1, x2, x3, x4, iv ((t : Int) + ((wo.size : Int) + (wa.size : Int))), iv (i : Int), x7, x8, x9, x10, x11, x12, x13, x14, x15, x16, x17, x18, x19, iv (t : Int), .slice (some ⟨s, off, none⟩) n cap, iv (i : Int), .pointer (some ⟨s, off + i * 36, none⟩), .pointer (some ⟨s, off + i * 36 + 2, none⟩), .string wo, iv (wo.size : Int), .slice (some ⟨s, off, none⟩) n cap, iv (i : Int), .pointer (some ⟨s, off + i * 36, none⟩), .pointer (some ⟨s, off + i * 36 + 3, none⟩), .string wa, iv (wa.size : Int), iv ((wo.size : Int) + (wa.size : Int)), iv ((t : Int) + ((wo.size : Int) + (wa.size : Int))), x35, x36, x37, x38, x39, x40, x41, x42, x43, x44, x45, x46, x47, x48, x49, x50, x51, x52, x53, x54, x55, x56, x57, x58, x59, x60, x61, x62, x63, x64, x65, x66, x67, x68, x69, x70, x71, x72, x73, x74, x75, x76, x77, x78, x79, x80, x81, x82, x83, x84, x85, x86, x87, x88, x89, x90, x91, x92, x93, x94, x95, x96, x97, x98, x99, x100, x101, x102, x103, x104, x105, x106, x107, x108, x109, x110, x111, x112, x113, x114, x115, x116, x117, x118, x119, x120, x121, x122, x123, x124], defers := ds } V1) :
    (Code.region 7 #[{ dst := some 20, op := Op.move (Operand.tmp 5), type := 3, pos := "law.go:79", after := #[], guard := none }, { dst := some 21, op := Op.move (Operand.tmp 0), type := 27, pos := "law.go:79", after := #[], guard := none }, { dst := some 22, op := Op.move (Operand.tmp 6), type := 3, pos := "law.go:79", after := #[], guard := none }, { dst := some 23, op := Op.indexAddr 27 (Operand.tmp 21) (Operand.tmp 22), type := 0, pos := "law.go:79", after := #[{ on := 1, ground := Ground.data }, { on := 2, ground := Ground.data }], guard := none }, { dst := some 24, op := Op.fieldAddr 37 (Operand.tmp 23) 2, type := 0, pos := "law.go:79", after := #[{ on := 3, ground := Ground.data }], guard := none }, { dst := some 25, op := Op.load 9 (Operand.tmp 24), type := 9, pos := "law.go:79", after := #[{ on := 4, ground := Ground.data }], guard := none }, { dst := some 26, op := Op.call { callee := Callee.builtin Builtin.len, args := #[Operand.tmp 25], argTypes := #[9] }, type := 3, pos := "law.go:79", after := #[{ on := 5, ground := Ground.data }], guard := none }, { dst := some 27, op := Op.move (Operand.tmp 0), type := 27, pos := "law.go:79", after := #[], guard := none }, { dst := some 28, op := Op.move (Operand.tmp 6), type := 3, pos := "law.go:79", after := #[], guard := none }, { dst := some 29, op := Op.indexAddr 27 (Operand.tmp 27) (Operand.tmp 28), type := 0, pos := "law.go:79", after := #[{ on := 7, ground := Ground.data }, { on := 8, ground := Ground.data }], guard := none }, { dst := some 30, op := Op.fieldAddr 37 (Operand.tmp 29) 3, type := 0, pos := "law.go:79", after := #[{ on := 9, ground := Ground.data }], guard := none }, { dst := some 31, op := Op.load 9 (Operand.tmp 30), type := 9, pos := "law.go:79", after := #[{ on := 10, ground := Ground.data }], guard := none }, { dst := some 32, op := Op.call { callee := Callee.builtin Builtin.len, args := #[Operand.tmp 31], argTypes := #[9] }, type := 3, pos := "law.go:79", after := #[{ on := 11, ground := Ground.data }], guard := none }, { dst := some 33, op := Op.binOp BinOp.add 3 (Operand.tmp 26) (Operand.tmp 32) 3, type := 3, pos := "law.go:79", after := #[{ on := 6, ground := Ground.data }, { on := 12, ground := Ground.data }], guard := none }, { dst := some 34, op := Op.binOp BinOp.add 3 (Operand.tmp 20) (Operand.tmp 33) 3, type := 3, pos := "law.go:79", after := #[{ on := 0, ground := Ground.data }, { on := 13, ground := Ground.data }], guard := none }, { dst := some 5, op := Op.assign (Operand.tmp 34), type := 3, pos := "law.go:79", after := #[{ on := 14, ground := Ground.data }, { on := 0, ground := Ground.phase }, { on := 1, ground := Ground.phase }, { on := 2, ground := Ground.phase }, { on := 3, ground := Ground.phase }, { on := 4, ground := Ground.phase }, { on := 5, ground := Ground.phase }, { on := 6, ground := Ground.phase }, { on := 7, ground := Ground.phase }, { on := 8, ground := Ground.phase }, { on := 9, ground := Ground.phase }, { on := 10, ground := Ground.phase }, { on := 11, ground := Ground.phase }, { on := 12, ground := Ground.phase }, { on := 13, ground := Ground.phase }, { on := 14, ground := Ground.phase }], guard := none }] true).wp Tryd.prog Q { tmps := #[.slice (some ⟨s, off, none⟩) n cap, x1, x2, x3, x4, iv (t : Int), iv (i : Int), x7, x8, x9, x10, x11, x12, x13, x14, x15, x16, x17, x18, x19, x20, x21, x22, x23, x24, x25, x26, x27, x28, x29, x30, x31, x32, x33, x34, x35, x36, x37, x38, x39, x40, x41, x42, x43, x44, x45, x46, x47, x48, x49, x50, x51, x52, x53, x54, x55, x56, x57, x58, x59, x60, x61, x62, x63, x64, x65, x66, x67, x68, x69, x70, x71, x72, x73, x74, x75, x76, x77, x78, x79, x80, x81, x82, x83, x84, x85, x86, x87, x88, x89, x90, x91, x92, x93, x94, x95, x96, x97, x98, x99, x100, x101, x102, x103, x104, x105, x106, x107, x108, x109, x110, x111, x112, x113, x114, x115, x116, x117, x118, x119, x120, x121, x122, x123, x124], defers := ds } A := by
  refine Code.wp_mono (Q := fun x a' w' => match x with | .normal => Q .normal a' w' | _ => False) (by intro x a' w' h; cases x <;> first | exact h | exact h.elim) ?_
  refine wp_region_held (S := fun V => Below A.heap.size A V) (by kernel_rfl) ?_
  have hS0 : Hid (Below A.heap.size A A.drew) := below_drew0 A
  change wpAnyH Tryd.prog .any _ _ (fun V => Below A.heap.size A V) 16 (Array.replicate 16 false) _ A.drew
  obtain ⟨V0, hV0⟩ : ∃ V0, A.drew = V0 := ⟨_, rfl⟩
  rw [hV0]
  rw [hV0] at hS0
  clear hV0
  refine wpAnyH_take (i := 0) (oi := { dst := some 20, op := Op.move (Operand.tmp 5), type := 3, pos := "law.go:79", after := #[], guard := none }) (v := iv (t : Int)) rfl (by kernel_rfl) (by kernel_rfl) (by kernel_rfl) (fun _ _ _ h => h.elim) (Or.inl ⟨by rfl, ?y1⟩) hS0.out ?_
  case y1 =>
    intro V hV
    go_simp
  simp only [Act.put, List.setIfInBounds_toArray, List.set_cons_zero, List.set_cons_succ]
  refine wpAnyH_take (i := 1) (oi := { dst := some 21, op := Op.move (Operand.tmp 0), type := 27, pos := "law.go:79", after := #[], guard := none }) (v := .slice (some ⟨s, off, none⟩) n cap) rfl (by kernel_rfl) (by kernel_rfl) (by kernel_rfl) (fun _ _ _ h => h.elim) (Or.inl ⟨by rfl, ?y2⟩) hS0.out ?_
  case y2 =>
    intro V hV
    go_simp
  simp only [Act.put, List.setIfInBounds_toArray, List.set_cons_zero, List.set_cons_succ]
  refine wpAnyH_take (i := 2) (oi := { dst := some 22, op := Op.move (Operand.tmp 6), type := 3, pos := "law.go:79", after := #[], guard := none }) (v := iv (i : Int)) rfl (by kernel_rfl) (by kernel_rfl) (by kernel_rfl) (fun _ _ _ h => h.elim) (Or.inl ⟨by rfl, ?y3⟩) hS0.out ?_
  case y3 =>
    intro V hV
    go_simp
  simp only [Act.put, List.setIfInBounds_toArray, List.set_cons_zero, List.set_cons_succ]
  refine wpAnyH_take (i := 3) (oi := { dst := some 23, op := Op.indexAddr 27 (Operand.tmp 21) (Operand.tmp 22), type := 0, pos := "law.go:79", after := #[{ on := 1, ground := Ground.data }, { on := 2, ground := Ground.data }], guard := none }) (v := .pointer (some ⟨s, off + i * 36, none⟩)) rfl (by kernel_rfl) (by kernel_rfl) (by kernel_rfl) (fun _ _ _ h => h.elim) (Or.inl ⟨by rfl, ?y4⟩) hS0.out ?_
  case y4 =>
    intro V hV
    have hcmp := q1
    have hcmp2 := q2
    go_simp
  simp only [Act.put, List.setIfInBounds_toArray, List.set_cons_zero, List.set_cons_succ]
  refine wpAnyH_take (i := 4) (oi := { dst := some 24, op := Op.fieldAddr 37 (Operand.tmp 23) 2, type := 0, pos := "law.go:79", after := #[{ on := 3, ground := Ground.data }], guard := none }) (v := .pointer (some ⟨s, off + i * 36 + 2, none⟩)) rfl (by kernel_rfl) (by kernel_rfl) (by kernel_rfl) (fun _ _ _ h => h.elim) (Or.inl ⟨by rfl, ?y5⟩) hS0.out ?_
  case y5 =>
    intro V hV
    go_simp
  simp only [Act.put, List.setIfInBounds_toArray, List.set_cons_zero, List.set_cons_succ]
  refine wpAnyH_take (i := 5) (oi := { dst := some 25, op := Op.load 9 (Operand.tmp 24), type := 9, pos := "law.go:79", after := #[{ on := 4, ground := Ground.data }], guard := none }) (v := .string wo) rfl (by kernel_rfl) (by kernel_rfl) (by kernel_rfl) (fun _ _ _ h => h.elim) (Or.inl ⟨by rfl, ?y6⟩) hS0.out ?_
  case y6 =>
    intro V hV
    have hc : V.cell? ⟨s, off + i * 36 + 2, none⟩ = some (.string wo) := ((show Below A.heap.size A V from hV).cell (p := ⟨s, off + i * 36 + 2, none⟩) HS.out).trans k2
    go_simp
  simp only [Act.put, List.setIfInBounds_toArray, List.set_cons_zero, List.set_cons_succ]
  refine wpAnyH_take (i := 6) (oi := { dst := some 26, op := Op.call { callee := Callee.builtin Builtin.len, args := #[Operand.tmp 25], argTypes := #[9] }, type := 3, pos := "law.go:79", after := #[{ on := 5, ground := Ground.data }], guard := none }) (v := iv (wo.size : Int)) rfl (by kernel_rfl) (by kernel_rfl) (by kernel_rfl) (fun _ _ _ h => h.elim) (Or.inl ⟨by rfl, ?y7⟩) hS0.out ?_
  case y7 =>
    intro V hV
    go_simp
  simp only [Act.put, List.setIfInBounds_toArray, List.set_cons_zero, List.set_cons_succ]
  refine wpAnyH_take (i := 7) (oi := { dst := some 27, op := Op.move (Operand.tmp 0), type := 27, pos := "law.go:79", after := #[], guard := none }) (v := .slice (some ⟨s, off, none⟩) n cap) rfl (by kernel_rfl) (by kernel_rfl) (by kernel_rfl) (fun _ _ _ h => h.elim) (Or.inl ⟨by rfl, ?y8⟩) hS0.out ?_
  case y8 =>
    intro V hV
    go_simp
  simp only [Act.put, List.setIfInBounds_toArray, List.set_cons_zero, List.set_cons_succ]
  refine wpAnyH_take (i := 8) (oi := { dst := some 28, op := Op.move (Operand.tmp 6), type := 3, pos := "law.go:79", after := #[], guard := none }) (v := iv (i : Int)) rfl (by kernel_rfl) (by kernel_rfl) (by kernel_rfl) (fun _ _ _ h => h.elim) (Or.inl ⟨by rfl, ?y9⟩) hS0.out ?_
  case y9 =>
    intro V hV
    go_simp
  simp only [Act.put, List.setIfInBounds_toArray, List.set_cons_zero, List.set_cons_succ]
  refine wpAnyH_take (i := 9) (oi := { dst := some 29, op := Op.indexAddr 27 (Operand.tmp 27) (Operand.tmp 28), type := 0, pos := "law.go:79", after := #[{ on := 7, ground := Ground.data }, { on := 8, ground := Ground.data }], guard := none }) (v := .pointer (some ⟨s, off + i * 36, none⟩)) rfl (by kernel_rfl) (by kernel_rfl) (by kernel_rfl) (fun _ _ _ h => h.elim) (Or.inl ⟨by rfl, ?y10⟩) hS0.out ?_
  case y10 =>
    intro V hV
    have hcmp := q1
    have hcmp2 := q2
    go_simp
  simp only [Act.put, List.setIfInBounds_toArray, List.set_cons_zero, List.set_cons_succ]
  refine wpAnyH_take (i := 10) (oi := { dst := some 30, op := Op.fieldAddr 37 (Operand.tmp 29) 3, type := 0, pos := "law.go:79", after := #[{ on := 9, ground := Ground.data }], guard := none }) (v := .pointer (some ⟨s, off + i * 36 + 3, none⟩)) rfl (by kernel_rfl) (by kernel_rfl) (by kernel_rfl) (fun _ _ _ h => h.elim) (Or.inl ⟨by rfl, ?y11⟩) hS0.out ?_
  case y11 =>
    intro V hV
    go_simp
  simp only [Act.put, List.setIfInBounds_toArray, List.set_cons_zero, List.set_cons_succ]
  refine wpAnyH_take (i := 11) (oi := { dst := some 31, op := Op.load 9 (Operand.tmp 30), type := 9, pos := "law.go:79", after := #[{ on := 10, ground := Ground.data }], guard := none }) (v := .string wa) rfl (by kernel_rfl) (by kernel_rfl) (by kernel_rfl) (fun _ _ _ h => h.elim) (Or.inl ⟨by rfl, ?y12⟩) hS0.out ?_
  case y12 =>
    intro V hV
    have hc : V.cell? ⟨s, off + i * 36 + 3, none⟩ = some (.string wa) := ((show Below A.heap.size A V from hV).cell (p := ⟨s, off + i * 36 + 3, none⟩) HS.out).trans k3
    go_simp
  simp only [Act.put, List.setIfInBounds_toArray, List.set_cons_zero, List.set_cons_succ]
  refine wpAnyH_take (i := 12) (oi := { dst := some 32, op := Op.call { callee := Callee.builtin Builtin.len, args := #[Operand.tmp 31], argTypes := #[9] }, type := 3, pos := "law.go:79", after := #[{ on := 11, ground := Ground.data }], guard := none }) (v := iv (wa.size : Int)) rfl (by kernel_rfl) (by kernel_rfl) (by kernel_rfl) (fun _ _ _ h => h.elim) (Or.inl ⟨by rfl, ?y13⟩) hS0.out ?_
  case y13 =>
    intro V hV
    go_simp
  simp only [Act.put, List.setIfInBounds_toArray, List.set_cons_zero, List.set_cons_succ]
  refine wpAnyH_take (i := 13) (oi := { dst := some 33, op := Op.binOp BinOp.add 3 (Operand.tmp 26) (Operand.tmp 32) 3, type := 3, pos := "law.go:79", after := #[{ on := 6, ground := Ground.data }, { on := 12, ground := Ground.data }], guard := none }) (v := iv ((wo.size : Int) + (wa.size : Int))) rfl (by kernel_rfl) (by kernel_rfl) (by kernel_rfl) (fun _ _ _ h => h.elim) (Or.inl ⟨by rfl, ?y14⟩) hS0.out ?_
  case y14 =>
    intro V hV
    have q8 := qw
    have q9 := qa
    have q7 := qt
    have qx : IntKind.i64.wrap ((wo.size : Int) + (wa.size : Int)) = (wo.size : Int) + (wa.size : Int) := by rw [IntKind.wrap_i64]; omega
    go_simp
  simp only [Act.put, List.setIfInBounds_toArray, List.set_cons_zero, List.set_cons_succ]
  refine wpAnyH_take (i := 14) (oi := { dst := some 34, op := Op.binOp BinOp.add 3 (Operand.tmp 20) (Operand.tmp 33) 3, type := 3, pos := "law.go:79", after := #[{ on := 0, ground := Ground.data }, { on := 13, ground := Ground.data }], guard := none }) (v := iv ((t : Int) + ((wo.size : Int) + (wa.size : Int)))) rfl (by kernel_rfl) (by kernel_rfl) (by kernel_rfl) (fun _ _ _ h => h.elim) (Or.inl ⟨by rfl, ?y15⟩) hS0.out ?_
  case y15 =>
    intro V hV
    have q8 := qw
    have q9 := qa
    have q7 := qt
    have qx : IntKind.i64.wrap ((t : Int) + ((wo.size : Int) + (wa.size : Int))) = (t : Int) + ((wo.size : Int) + (wa.size : Int)) := by rw [IntKind.wrap_i64]; omega
    go_simp
  simp only [Act.put, List.setIfInBounds_toArray, List.set_cons_zero, List.set_cons_succ]
  refine wpAnyH_take (i := 15) (oi := { dst := some 5, op := Op.assign (Operand.tmp 34), type := 3, pos := "law.go:79", after := #[{ on := 14, ground := Ground.data }, { on := 0, ground := Ground.phase }, { on := 1, ground := Ground.phase }, { on := 2, ground := Ground.phase }, { on := 3, ground := Ground.phase }, { on := 4, ground := Ground.phase }, { on := 5, ground := Ground.phase }, { on := 6, ground := Ground.phase }, { on := 7, ground := Ground.phase }, { on := 8, ground := Ground.phase }, { on := 9, ground := Ground.phase }, { on := 10, ground := Ground.phase }, { on := 11, ground := Ground.phase }, { on := 12, ground := Ground.phase }, { on := 13, ground := Ground.phase }, { on := 14, ground := Ground.phase }], guard := none }) (v := iv ((t : Int) + ((wo.size : Int) + (wa.size : Int)))) rfl (by kernel_rfl) (by kernel_rfl) (by kernel_rfl) (fun _ _ _ h => h.elim) (Or.inl ⟨by rfl, ?y16⟩) hS0.out ?_
  case y16 =>
    intro V hV
    go_simp
  simp only [Act.put, List.setIfInBounds_toArray, List.set_cons_zero, List.set_cons_succ]
  refine wpAnyH_done (by kernel_rfl) ?_ _
  exact hQ V0 hS0.out
set_option maxRecDepth 100000 in
set_option maxHeartbeats 4000000 in
theorem vs15 {Q : Exit → Act → World → Prop} {x1 x2 x3 x4 x5 x6 x7 x9 x10 x11 x12 x13 x14 x15 x16 x17 x18 x19 x20 x21 x22 x23 x24 x25 x26 x27 x28 x29 x30 x31 x32 x33 x34 x35 x36 x37 x38 x39 x40 x41 x42 x43 x44 x45 x46 x47 x48 x49 x50 x51 x52 x53 x54 x55 x56 x57 x58 x59 x60 x61 x62 x63 x64 x65 x66 x67 x68 x69 x70 x71 x72 x73 x74 x75 x76 x77 x78 x79 x80 x81 x82 x83 x84 x85 x86 x87 x88 x89 x90 x91 x92 x93 x94 x95 x96 x97 x98 x99 x100 x101 x102 x103 x104 x105 x106 x107 x108 x109 x110 x111 x112 x113 x114 x115 x116 x117 x118 x119 x120 x121 x122 x123 x124 : Value} {ds : List Deferred} {A : World} {s off n cap i : Nat} {x : En} {D : List UInt8}
    (HX : Hid x.ok) (HR : Hid (A.rangeAt s (off + i * 36) x.cells ∧ s < A.heap.size)) (HD1 : Hid (∀ V, Below A.heap.size A V → Calls Tryd.prog 20 #[.agg x.cells.toArray] V fun e V2 => e = .returned (.agg (U D).toArray) ∧ Below V.heap.size V V2)) (HD2 : Hid (∀ V, Below A.heap.size A V → Calls Tryd.prog 21 #[.agg x.cells.toArray] V fun e V2 => e = .returned (.agg (U D).toArray) ∧ Below V.heap.size V V2)) (HED : Hid (∀ W, (binOp .neq 35 (.agg (U D).toArray) (.agg (U D).toArray)).run Tryd.prog W = .ok (.bool false) W)) (q1 : (i : Int) < (n : Int)) (q2 : i < n)
    (hQ : ∀ V1, Below A.heap.size A V1 → Q .normal { tmps := #[.slice (some ⟨s, off, none⟩) n cap, x1, x2, x3, x4, x5, x6, x7, iv (i : Int), x9, x10, x11, x12, x13, x14, x15, x16, x17, x18, x19, x20, x21, x22, x23, x24, x25, x26, x27, x28, x29, x30, x31, x32, x33, x34, x35, x36, x37, x38, x39, x40, x41, x42, x43, x44, x45, .slice (some ⟨s, off, none⟩) n cap, iv (i : Int), .pointer (some ⟨s, off + i * 36, none⟩), .agg x.cells.toArray, .agg (U D).toArray, .slice (some ⟨s, off, none⟩) n cap, iv (i : Int), .pointer (some ⟨s, off + i * 36, none⟩), .agg x.cells.toArray, .agg (U D).toArray, .bool false, x57, x58, x59, x60, x61, x62, x63, x64, x65, x66, x67, x68, x69, x70, x71, x72, x73, x74, x75, x76, x77, x78, x79, x80, x81, x82, x83, x84, x85, x86, x87, x88, x89, x90, x91, x92, x93, x94, x95, x96, x97, x98, x99, x100, x101, x102, x103, x104, x105, x106, x107, x108, x109, x110, x111, x112, x113, x114, x115, x116, x117, x118, x119, x120, x121, x122, x123, x124], defers := ds } V1) :
    (Code.region 15 #[{ dst := some 46, op := Op.move (Operand.tmp 0), type := 27, pos := "law.go:86", after := #[], guard := none }, { dst := some 47, op := Op.move (Operand.tmp 8), type := 3, pos := "law.go:86", after := #[], guard := none }, { dst := some 48, op := Op.indexAddr 27 (Operand.tmp 46) (Operand.tmp 47), type := 0, pos := "law.go:86", after := #[{ on := 0, ground := Ground.data }, { on := 1, ground := Ground.data }], guard := none }, { dst := some 49, op := Op.load 37 (Operand.tmp 48), type := 37, pos := "law.go:86", after := #[{ on := 2, ground := Ground.data }], guard := none }, { dst := some 50, op := Op.call { callee := Callee.value (Operand.func 20), args := #[Operand.tmp 49], argTypes := #[37] }, type := 35, pos := "law.go:86", after := #[{ on := 3, ground := Ground.data }], guard := none }, { dst := some 51, op := Op.move (Operand.tmp 0), type := 27, pos := "law.go:86", after := #[], guard := none }, { dst := some 52, op := Op.move (Operand.tmp 8), type := 3, pos := "law.go:86", after := #[], guard := none }, { dst := some 53, op := Op.indexAddr 27 (Operand.tmp 51) (Operand.tmp 52), type := 0, pos := "law.go:86", after := #[{ on := 5, ground := Ground.data }, { on := 6, ground := Ground.data }], guard := none }, { dst := some 54, op := Op.load 37 (Operand.tmp 53), type := 37, pos := "law.go:86", after := #[{ on := 7, ground := Ground.data }], guard := none }, { dst := some 55, op := Op.call { callee := Callee.value (Operand.func 21), args := #[Operand.tmp 54], argTypes := #[37] }, type := 35, pos := "law.go:86", after := #[{ on := 8, ground := Ground.data }, { on := 4, ground := Ground.chain }], guard := none }, { dst := some 56, op := Op.binOp BinOp.neq 35 (Operand.tmp 50) (Operand.tmp 55) 35, type := 4, pos := "law.go:86", after := #[{ on := 4, ground := Ground.data }, { on := 9, ground := Ground.data }], guard := none }] true).wp Tryd.prog Q { tmps := #[.slice (some ⟨s, off, none⟩) n cap, x1, x2, x3, x4, x5, x6, x7, iv (i : Int), x9, x10, x11, x12, x13, x14, x15, x16, x17, x18, x19, x20, x21, x22, x23, x24, x25, x26, x27, x28, x29, x30, x31, x32, x33, x34, x35, x36, x37, x38, x39, x40, x41, x42, x43, x44, x45, x46, x47, x48, x49, x50, x51, x52, x53, x54, x55, x56, x57, x58, x59, x60, x61, x62, x63, x64, x65, x66, x67, x68, x69, x70, x71, x72, x73, x74, x75, x76, x77, x78, x79, x80, x81, x82, x83, x84, x85, x86, x87, x88, x89, x90, x91, x92, x93, x94, x95, x96, x97, x98, x99, x100, x101, x102, x103, x104, x105, x106, x107, x108, x109, x110, x111, x112, x113, x114, x115, x116, x117, x118, x119, x120, x121, x122, x123, x124], defers := ds } A := by
  refine Code.wp_mono (Q := fun x a' w' => match x with | .normal => Q .normal a' w' | _ => False) (by intro x a' w' h; cases x <;> first | exact h | exact h.elim) ?_
  refine wp_region_held (S := fun V => Below A.heap.size A V) (by kernel_rfl) ?_
  have hS0 : Hid (Below A.heap.size A A.drew) := below_drew0 A
  change wpAnyH Tryd.prog .any _ _ (fun V => Below A.heap.size A V) 11 (Array.replicate 11 false) _ A.drew
  obtain ⟨V0, hV0⟩ : ∃ V0, A.drew = V0 := ⟨_, rfl⟩
  rw [hV0]
  rw [hV0] at hS0
  clear hV0
  refine wpAnyH_take (i := 0) (oi := { dst := some 46, op := Op.move (Operand.tmp 0), type := 27, pos := "law.go:86", after := #[], guard := none }) (v := .slice (some ⟨s, off, none⟩) n cap) rfl (by kernel_rfl) (by kernel_rfl) (by kernel_rfl) (fun _ _ _ h => h.elim) (Or.inl ⟨by rfl, ?y1⟩) hS0.out ?_
  case y1 =>
    intro V hV
    go_simp
  simp only [Act.put, List.setIfInBounds_toArray, List.set_cons_zero, List.set_cons_succ]
  refine wpAnyH_take (i := 1) (oi := { dst := some 47, op := Op.move (Operand.tmp 8), type := 3, pos := "law.go:86", after := #[], guard := none }) (v := iv (i : Int)) rfl (by kernel_rfl) (by kernel_rfl) (by kernel_rfl) (fun _ _ _ h => h.elim) (Or.inl ⟨by rfl, ?y2⟩) hS0.out ?_
  case y2 =>
    intro V hV
    go_simp
  simp only [Act.put, List.setIfInBounds_toArray, List.set_cons_zero, List.set_cons_succ]
  refine wpAnyH_take (i := 2) (oi := { dst := some 48, op := Op.indexAddr 27 (Operand.tmp 46) (Operand.tmp 47), type := 0, pos := "law.go:86", after := #[{ on := 0, ground := Ground.data }, { on := 1, ground := Ground.data }], guard := none }) (v := .pointer (some ⟨s, off + i * 36, none⟩)) rfl (by kernel_rfl) (by kernel_rfl) (by kernel_rfl) (fun _ _ _ h => h.elim) (Or.inl ⟨by rfl, ?y3⟩) hS0.out ?_
  case y3 =>
    intro V hV
    have hcmp := q1
    have hcmp2 := q2
    go_simp
  simp only [Act.put, List.setIfInBounds_toArray, List.set_cons_zero, List.set_cons_succ]
  refine wpAnyH_take (i := 3) (oi := { dst := some 49, op := Op.load 37 (Operand.tmp 48), type := 37, pos := "law.go:86", after := #[{ on := 2, ground := Ground.data }], guard := none }) (v := .agg x.cells.toArray) rfl (by kernel_rfl) (by kernel_rfl) (by kernel_rfl) (fun _ _ _ h => h.elim) (yieldsIf_load_mid (by rfl) _ _ rfl _ _ rfl (x.cells) _ (fun V hV => rangeAt_same (HR.out.1) ((show Below A.heap.size A V from hV).block _ (HR.out.2))) Tryd.underlying37 rfl (info37 HX.out)) hS0.out ?_
  simp only [Act.put, List.setIfInBounds_toArray, List.set_cons_zero, List.set_cons_succ]
  refine wpAnyH_take (i := 5) (oi := { dst := some 51, op := Op.move (Operand.tmp 0), type := 27, pos := "law.go:86", after := #[], guard := none }) (v := .slice (some ⟨s, off, none⟩) n cap) rfl (by kernel_rfl) (by kernel_rfl) (by kernel_rfl) (fun _ _ _ h => h.elim) (Or.inl ⟨by rfl, ?y4⟩) hS0.out ?_
  case y4 =>
    intro V hV
    go_simp
  simp only [Act.put, List.setIfInBounds_toArray, List.set_cons_zero, List.set_cons_succ]
  refine wpAnyH_take (i := 6) (oi := { dst := some 52, op := Op.move (Operand.tmp 8), type := 3, pos := "law.go:86", after := #[], guard := none }) (v := iv (i : Int)) rfl (by kernel_rfl) (by kernel_rfl) (by kernel_rfl) (fun _ _ _ h => h.elim) (Or.inl ⟨by rfl, ?y5⟩) hS0.out ?_
  case y5 =>
    intro V hV
    go_simp
  simp only [Act.put, List.setIfInBounds_toArray, List.set_cons_zero, List.set_cons_succ]
  refine wpAnyH_take (i := 7) (oi := { dst := some 53, op := Op.indexAddr 27 (Operand.tmp 51) (Operand.tmp 52), type := 0, pos := "law.go:86", after := #[{ on := 5, ground := Ground.data }, { on := 6, ground := Ground.data }], guard := none }) (v := .pointer (some ⟨s, off + i * 36, none⟩)) rfl (by kernel_rfl) (by kernel_rfl) (by kernel_rfl) (fun _ _ _ h => h.elim) (Or.inl ⟨by rfl, ?y6⟩) hS0.out ?_
  case y6 =>
    intro V hV
    have hcmp := q1
    have hcmp2 := q2
    go_simp
  simp only [Act.put, List.setIfInBounds_toArray, List.set_cons_zero, List.set_cons_succ]
  refine wpAnyH_take (i := 8) (oi := { dst := some 54, op := Op.load 37 (Operand.tmp 53), type := 37, pos := "law.go:86", after := #[{ on := 7, ground := Ground.data }], guard := none }) (v := .agg x.cells.toArray) rfl (by kernel_rfl) (by kernel_rfl) (by kernel_rfl) (fun _ _ _ h => h.elim) (yieldsIf_load_mid (by rfl) _ _ rfl _ _ rfl (x.cells) _ (fun V hV => rangeAt_same (HR.out.1) ((show Below A.heap.size A V from hV).block _ (HR.out.2))) Tryd.underlying37 rfl (info37 HX.out)) hS0.out ?_
  simp only [Act.put, List.setIfInBounds_toArray, List.set_cons_zero, List.set_cons_succ]
  refine wpAnyH_ready (rs := [4]) (by kernel_rfl) (by simp) (AllReadyH.cons (i := 4) (o := { dst := some 50, op := Op.call { callee := Callee.value (Operand.func 20), args := #[Operand.tmp 49], argTypes := #[37] }, type := 35, pos := "law.go:86", after := #[{ on := 3, ground := Ground.data }], guard := none }) rfl ?_ AllReadyH.nil)
  · intro K1 hK1
    rw [if_pos (by rfl)]
    have HC1 := HD1.out V0 hS0.out
    go_wp2_with fail
    refine HC1.mono ?_
    rintro e V1 ⟨rfl, hb1⟩
    dsimp only
    clear HC1
    have hS1 : Hid (Below A.heap.size A V1) := hS0.out.trans (hb1.mono hS0.out.size)
    clear hb1
    refine hK1.out _ _ hS1.out ?_
    clear hK1
    intro _
    try simp only [Act.put, List.setIfInBounds_toArray, List.set_cons_zero, List.set_cons_succ]
    refine wpAnyH_ready (rs := [9]) (by kernel_rfl) (by simp) (AllReadyH.cons (i := 9) (o := { dst := some 55, op := Op.call { callee := Callee.value (Operand.func 21), args := #[Operand.tmp 54], argTypes := #[37] }, type := 35, pos := "law.go:86", after := #[{ on := 8, ground := Ground.data }, { on := 4, ground := Ground.chain }], guard := none }) rfl ?_ AllReadyH.nil)
    · intro K1 hK1
      rw [if_pos (by rfl)]
      have HC2 := HD2.out V1 hS1.out
      go_wp2_with fail
      refine HC2.mono ?_
      rintro e V2 ⟨rfl, hb2⟩
      dsimp only
      clear HC2
      have hS2 : Hid (Below A.heap.size A V2) := hS1.out.trans (hb2.mono hS1.out.size)
      clear hb2
      refine hK1.out _ _ hS2.out ?_
      clear hK1
      intro _
      try simp only [Act.put, List.setIfInBounds_toArray, List.set_cons_zero, List.set_cons_succ]
      refine wpAnyH_take (i := 10) (oi := { dst := some 56, op := Op.binOp BinOp.neq 35 (Operand.tmp 50) (Operand.tmp 55) 35, type := 4, pos := "law.go:86", after := #[{ on := 4, ground := Ground.data }, { on := 9, ground := Ground.data }], guard := none }) (v := .bool false) rfl (by kernel_rfl) (by kernel_rfl) (by kernel_rfl) (fun _ _ _ h => h.elim) (Or.inl ⟨by rfl, ?y7⟩) hS2.out ?_
      case y7 =>
        intro V hV
        exact yl_ne35 V _ _ _ _ _ rfl rfl rfl HED.out
      simp only [Act.put, List.setIfInBounds_toArray, List.set_cons_zero, List.set_cons_succ]
      refine wpAnyH_done (by kernel_rfl) ?_ _
      exact hQ V2 hS2.out
end Go.Proofs.YtmmpafaegmejlaaDoor.Oct

/- Layer 19 (audit): the law AuditVerifies: its last drawn region. -/
namespace Go.Proofs.YtmmpafaegmejlaaDoor.Oct
open Go.RowKit Sha
set_option linter.unusedSimpArgs false
set_option linter.unusedVariables false

set_option maxRecDepth 100000 in
set_option maxHeartbeats 4000000 in
theorem vs21a {Q : Exit → Act → World → Prop} {x1 x2 x4 x5 x6 x8 x10 x11 x12 x13 x14 x15 x16 x17 x18 x19 x20 x21 x22 x23 x24 x25 x26 x27 x28 x29 x30 x31 x32 x33 x34 x35 x36 x37 x38 x39 x40 x41 x42 x43 x44 x45 x46 x47 x48 x49 x50 x51 x52 x53 x54 x55 x56 x57 x58 x59 x60 x61 x62 x63 x64 x65 x66 x67 x68 x69 x70 x71 x72 x73 x74 x75 x76 x77 x78 x79 x80 x81 x82 x83 x84 x85 x86 x87 x88 x89 x90 x91 x92 x93 x94 x95 x96 x97 x98 x99 x100 x101 x102 x103 x104 x105 x106 x107 x108 x109 x110 x111 x112 x113 x114 x115 x116 x117 x118 x119 x120 x121 x122 x123 x124 : Value} {ds : List Deferred} {A : World} {a : Option Addr} {n cap h L : Nat} {l : List En} {Dh D : List UInt8} {E : Bool}
    (HR : Hid (A.rangeAt h 0 (U Dh) ∧ h < A.heap.size)) (HDL : Hid (Dh.length = 32)) (H24 : Hid (∀ V, Below A.heap.size A V → Calls Tryd.prog 24 #[.slice a n cap, .agg (U Dh).toArray] V fun e V2 => e = .returned (.bool E) ∧ Below V.heap.size V V2)) (H17 : Hid (∀ V, Below A.heap.size A V → Calls Tryd.prog 17 #[.slice a n cap] V fun e V2 => e = .returned (.agg (U D).toArray) ∧ Below V.heap.size V V2)) (H24b : Hid (∀ V, Below A.heap.size A V → Calls Tryd.prog 24 #[.slice a n cap, .agg (U D).toArray] V fun e V2 => e = .returned (.bool true) ∧ Below V.heap.size V V2)) (H10 : Hid (∀ V, Below A.heap.size A V → Calls Tryd.prog 10 #[] V fun e V2 => e = .returned (.bool true) ∧ Below V.heap.size V V2)) (HEQ : Hid (∀ W, (binOp .eql 35 (.agg (U Dh).toArray) (.agg (U D).toArray)).run Tryd.prog W = .ok (.bool E) W)) (HEN : Hid (∀ V, Below A.heap.size A V → Calls Tryd.prog 13 #[.pointer (some ⟨L, 0, none⟩)] V fun e V2 => ∃ v2, e = .returned v2 ∧ Hid (EsR V2 v2 l) ∧ Below V.heap.size V V2)) (HSM : Hid (∀ V v2, Below A.heap.size A V → EsR V v2 l → Calls Tryd.prog 18 #[v2, .slice a n cap] V fun e V2 => e = .returned (.bool true) ∧ Below V.heap.size V V2))
    (hQ : ∀ (V1 : World) (ve : Value), Below A.heap.size A V1 → Q .normal { tmps := #[.slice a n cap, x1, x2, .pointer (some ⟨h, 0, none⟩), .bool true, x5, x6, iv (-1), x8, .pointer (some ⟨L, 0, none⟩), x10, x11, x12, x13, x14, x15, x16, x17, x18, x19, x20, x21, x22, x23, x24, x25, x26, x27, x28, x29, x30, x31, x32, x33, x34, x35, x36, x37, x38, x39, x40, x41, x42, x43, x44, x45, x46, x47, x48, x49, x50, x51, x52, x53, x54, x55, x56, x57, x58, x59, x60, x61, x62, x63, x64, x65, x66, x67, x68, x69, x70, x71, x72, x73, x74, x75, x76, x77, x78, x79, x80, x81, x82, x83, x84, x85, x86, x87, x88, x89, x90, .slice a n cap, .agg (U Dh).toArray, .bool E, iv (-1), .bool true, .bool true, .agg (U Dh).toArray, .slice a n cap, .agg (U D).toArray, .bool E, .bool E, .bool true, .bool true, .slice a n cap, .slice a n cap, .agg (U D).toArray, .bool true, iv (-1), .bool true, .bool true, .bool true, .bool true, .pointer (some ⟨L, 0, none⟩), .bool false, .bool false, .pointer (some ⟨L, 0, none⟩), ve, .slice a n cap, .bool true, .bool true, .bool true, .bool true, .bool true, .bool true], defers := ds } V1) :
    (Code.region 21 #[{ dst := some 91, op := Op.move (Operand.tmp 0), type := 27, pos := "law.go:94", after := #[], guard := none }, { dst := some 92, op := Op.load 35 (Operand.tmp 3), type := 35, pos := "law.go:94", after := #[], guard := none }, { dst := some 93, op := Op.call { callee := Callee.value (Operand.func 24), args := #[Operand.tmp 91, Operand.tmp 92], argTypes := #[27, 35] }, type := 4, pos := "law.go:94", after := #[{ on := 0, ground := Ground.data }, { on := 1, ground := Ground.data }], guard := none }, { dst := some 94, op := Op.move (Operand.tmp 7), type := 3, pos := "law.go:94", after := #[], guard := none }, { dst := some 95, op := Op.binOp BinOp.lss 3 (Operand.tmp 94) (Operand.const (Value.int IntKind.i64 0)) 3, type := 4, pos := "law.go:94", after := #[{ on := 3, ground := Ground.data }], guard := none }, { dst := some 96, op := Op.move (Operand.tmp 95), type := 4, pos := "law.go:94", after := #[{ on := 4, ground := Ground.data }, { on := 2, ground := Ground.chain }], guard := none }, { dst := some 97, op := Op.load 35 (Operand.tmp 3), type := 35, pos := "law.go:94", after := #[{ on := 5, ground := Ground.guard }], guard := some (5, true) }, { dst := some 98, op := Op.move (Operand.tmp 0), type := 27, pos := "law.go:94", after := #[{ on := 5, ground := Ground.guard }], guard := some (5, true) }, { dst := some 99, op := Op.call { callee := Callee.value (Operand.func 17), args := #[Operand.tmp 98], argTypes := #[27] }, type := 35, pos := "law.go:94", after := #[{ on := 7, ground := Ground.data }, { on := 5, ground := Ground.chain }, { on := 5, ground := Ground.guard }], guard := some (5, true) }, { dst := some 100, op := Op.binOp BinOp.eql 35 (Operand.tmp 97) (Operand.tmp 99) 35, type := 4, pos := "law.go:94", after := #[{ on := 6, ground := Ground.data }, { on := 8, ground := Ground.data }, { on := 5, ground := Ground.guard }], guard := some (5, true) }, { dst := some 101, op := Op.pick (Operand.tmp 96) (Operand.tmp 100) (Operand.const (Value.bool false)), type := 4, pos := "law.go:94", after := #[{ on := 5, ground := Ground.data }, { on := 9, ground := Ground.data }], guard := none }, { dst := some 102, op := Op.binOp BinOp.eql 4 (Operand.tmp 93) (Operand.tmp 101) 4, type := 4, pos := "law.go:94", after := #[{ on := 2, ground := Ground.data }, { on := 10, ground := Ground.data }], guard := none }, { dst := some 103, op := Op.move (Operand.tmp 102), type := 4, pos := "law.go:94", after := #[{ on := 11, ground := Ground.data }, { on := 8, ground := Ground.chain }], guard := none }, { dst := some 104, op := Op.move (Operand.tmp 0), type := 27, pos := "law.go:94", after := #[{ on := 12, ground := Ground.guard }], guard := some (12, true) }, { dst := some 105, op := Op.move (Operand.tmp 0), type := 27, pos := "law.go:94", after := #[{ on := 12, ground := Ground.guard }], guard := some (12, true) }, { dst := some 106, op := Op.call { callee := Callee.value (Operand.func 17), args := #[Operand.tmp 105], argTypes := #[27] }, type := 35, pos := "law.go:94", after := #[{ on := 14, ground := Ground.data }, { on := 12, ground := Ground.chain }, { on := 12, ground := Ground.guard }], guard := some (12, true) }, { dst := some 107, op := Op.call { callee := Callee.value (Operand.func 24), args := #[Operand.tmp 104, Operand.tmp 106], argTypes := #[27, 35] }, type := 4, pos := "law.go:94", after := #[{ on := 13, ground := Ground.data }, { on := 15, ground := Ground.data }, { on := 15, ground := Ground.chain }, { on := 12, ground := Ground.guard }], guard := some (12, true) }, { dst := some 108, op := Op.move (Operand.tmp 7), type := 3, pos := "law.go:94", after := #[{ on := 12, ground := Ground.guard }], guard := some (12, true) }, { dst := some 109, op := Op.binOp BinOp.lss 3 (Operand.tmp 108) (Operand.const (Value.int IntKind.i64 0)) 3, type := 4, pos := "law.go:94", after := #[{ on := 17, ground := Ground.data }, { on := 12, ground := Ground.guard }], guard := some (12, true) }, { dst := some 110, op := Op.binOp BinOp.eql 4 (Operand.tmp 107) (Operand.tmp 109) 4, type := 4, pos := "law.go:94", after := #[{ on := 16, ground := Ground.data }, { on := 18, ground := Ground.data }, { on := 12, ground := Ground.guard }], guard := some (12, true) }, { dst := some 111, op := Op.pick (Operand.tmp 103) (Operand.tmp 110) (Operand.const (Value.bool false)), type := 4, pos := "law.go:94", after := #[{ on := 12, ground := Ground.data }, { on := 19, ground := Ground.data }], guard := none }, { dst := some 112, op := Op.move (Operand.tmp 111), type := 4, pos := "law.go:94", after := #[{ on := 20, ground := Ground.data }, { on := 16, ground := Ground.chain }], guard := none }, { dst := some 113, op := Op.move (Operand.tmp 9), type := 25, pos := "law.go:94", after := #[{ on := 21, ground := Ground.guard }], guard := some (21, true) }, { dst := some 114, op := Op.binOp BinOp.eql 25 (Operand.tmp 113) (Operand.const (Value.pointer none)) 25, type := 4, pos := "law.go:94", after := #[{ on := 22, ground := Ground.data }, { on := 21, ground := Ground.guard }], guard := some (21, true) }, { dst := some 115, op := Op.move (Operand.tmp 114), type := 4, pos := "law.go:94", after := #[{ on := 23, ground := Ground.data }, { on := 21, ground := Ground.chain }, { on := 21, ground := Ground.guard }], guard := some (21, true) }, { dst := some 116, op := Op.move (Operand.tmp 9), type := 25, pos := "law.go:94", after := #[{ on := 24, ground := Ground.guard }], guard := some (24, false) }, { dst := some 117, op := Op.call { callee := Callee.value (Operand.func 13), args := #[Operand.tmp 116], argTypes := #[25] }, type := 27, pos := "law.go:94", after := #[{ on := 25, ground := Ground.data }, { on := 24, ground := Ground.chain }, { on := 24, ground := Ground.guard }], guard := some (24, false) }, { dst := some 118, op := Op.move (Operand.tmp 0), type := 27, pos := "law.go:94", after := #[{ on := 24, ground := Ground.guard }], guard := some (24, false) }, { dst := some 119, op := Op.call { callee := Callee.value (Operand.func 18), args := #[Operand.tmp 117, Operand.tmp 118], argTypes := #[27, 27] }, type := 4, pos := "law.go:94", after := #[{ on := 26, ground := Ground.data }, { on := 27, ground := Ground.data }, { on := 26, ground := Ground.chain }, { on := 24, ground := Ground.guard }], guard := some (24, false) }, { dst := some 120, op := Op.pick (Operand.tmp 115) (Operand.const (Value.bool true)) (Operand.tmp 119), type := 4, pos := "law.go:94", after := #[{ on := 24, ground := Ground.data }, { on := 28, ground := Ground.data }, { on := 21, ground := Ground.guard }], guard := some (21, true) }, { dst := some 121, op := Op.pick (Operand.tmp 112) (Operand.tmp 120) (Operand.const (Value.bool false)), type := 4, pos := "law.go:94", after := #[{ on := 21, ground := Ground.data }, { on := 29, ground := Ground.data }], guard := none }, { dst := some 122, op := Op.move (Operand.tmp 121), type := 4, pos := "law.go:94", after := #[{ on := 30, ground := Ground.data }, { on := 28, ground := Ground.chain }], guard := none }, { dst := some 123, op := Op.call { callee := Callee.value (Operand.func 10), args := #[], argTypes := #[] }, type := 4, pos := "law.go:94", after := #[{ on := 31, ground := Ground.chain }, { on := 31, ground := Ground.guard }], guard := some (31, true) }, { dst := some 124, op := Op.pick (Operand.tmp 122) (Operand.tmp 123) (Operand.const (Value.bool false)), type := 4, pos := "law.go:94", after := #[{ on := 31, ground := Ground.data }, { on := 32, ground := Ground.data }], guard := none }, { dst := some 4, op := Op.assign (Operand.tmp 124), type := 4, pos := "law.go:94", after := #[{ on := 33, ground := Ground.data }, { on := 32, ground := Ground.chain }, { on := 0, ground := Ground.phase }, { on := 1, ground := Ground.phase }, { on := 2, ground := Ground.phase }, { on := 3, ground := Ground.phase }, { on := 4, ground := Ground.phase }, { on := 5, ground := Ground.phase }, { on := 6, ground := Ground.phase }, { on := 7, ground := Ground.phase }, { on := 8, ground := Ground.phase }, { on := 9, ground := Ground.phase }, { on := 10, ground := Ground.phase }, { on := 11, ground := Ground.phase }, { on := 12, ground := Ground.phase }, { on := 13, ground := Ground.phase }, { on := 14, ground := Ground.phase }, { on := 15, ground := Ground.phase }, { on := 16, ground := Ground.phase }, { on := 17, ground := Ground.phase }, { on := 18, ground := Ground.phase }, { on := 19, ground := Ground.phase }, { on := 20, ground := Ground.phase }, { on := 21, ground := Ground.phase }, { on := 22, ground := Ground.phase }, { on := 23, ground := Ground.phase }, { on := 24, ground := Ground.phase }, { on := 25, ground := Ground.phase }, { on := 26, ground := Ground.phase }, { on := 27, ground := Ground.phase }, { on := 28, ground := Ground.phase }, { on := 29, ground := Ground.phase }, { on := 30, ground := Ground.phase }, { on := 31, ground := Ground.phase }, { on := 32, ground := Ground.phase }, { on := 33, ground := Ground.phase }], guard := none }] true).wp Tryd.prog Q { tmps := #[.slice a n cap, x1, x2, .pointer (some ⟨h, 0, none⟩), x4, x5, x6, iv (-1), x8, .pointer (some ⟨L, 0, none⟩), x10, x11, x12, x13, x14, x15, x16, x17, x18, x19, x20, x21, x22, x23, x24, x25, x26, x27, x28, x29, x30, x31, x32, x33, x34, x35, x36, x37, x38, x39, x40, x41, x42, x43, x44, x45, x46, x47, x48, x49, x50, x51, x52, x53, x54, x55, x56, x57, x58, x59, x60, x61, x62, x63, x64, x65, x66, x67, x68, x69, x70, x71, x72, x73, x74, x75, x76, x77, x78, x79, x80, x81, x82, x83, x84, x85, x86, x87, x88, x89, x90, x91, x92, x93, x94, x95, x96, x97, x98, x99, x100, x101, x102, x103, x104, x105, x106, x107, x108, x109, x110, x111, x112, x113, x114, x115, x116, x117, x118, x119, x120, x121, x122, x123, x124], defers := ds } A := by
  refine Code.wp_mono (Q := fun x a' w' => match x with | .normal => Q .normal a' w' | _ => False) (by intro x a' w' h; cases x <;> first | exact h | exact h.elim) ?_
  refine wp_region_held (S := fun V => Below A.heap.size A V) (by kernel_rfl) ?_
  have hS0 : Hid (Below A.heap.size A A.drew) := below_drew0 A
  change wpAnyH Tryd.prog .any _ _ (fun V => Below A.heap.size A V) 35 (Array.replicate 35 false) _ A.drew
  obtain ⟨V0, hV0⟩ : ∃ V0, A.drew = V0 := ⟨_, rfl⟩
  rw [hV0]
  rw [hV0] at hS0
  clear hV0
  refine wpAnyH_take (i := 0) (oi := { dst := some 91, op := Op.move (Operand.tmp 0), type := 27, pos := "law.go:94", after := #[], guard := none }) (v := .slice a n cap) rfl (by kernel_rfl) (by kernel_rfl) (by kernel_rfl) (fun _ _ _ h => h.elim) (Or.inl ⟨by rfl, ?y1⟩) hS0.out ?_
  case y1 =>
    intro V hV
    go_simp
  simp only [Act.put, List.setIfInBounds_toArray, List.set_cons_zero, List.set_cons_succ]
  refine wpAnyH_take (i := 1) (oi := { dst := some 92, op := Op.load 35 (Operand.tmp 3), type := 35, pos := "law.go:94", after := #[], guard := none }) (v := .agg (U Dh).toArray) rfl (by kernel_rfl) (by kernel_rfl) (by kernel_rfl) (fun _ _ _ h => h.elim) (yieldsIf_load_mid (by rfl) _ _ rfl _ _ rfl (U Dh) _ (fun V hV => rangeAt_same (HR.out.1) ((show Below A.heap.size A V from hV).block _ (HR.out.2))) Tryd.underlying35 rfl ((by rw [U_length, HDL.out]; exact size35))) hS0.out ?_
  simp only [Act.put, List.setIfInBounds_toArray, List.set_cons_zero, List.set_cons_succ]
  refine wpAnyH_take (i := 3) (oi := { dst := some 94, op := Op.move (Operand.tmp 7), type := 3, pos := "law.go:94", after := #[], guard := none }) (v := iv (-1)) rfl (by kernel_rfl) (by kernel_rfl) (by kernel_rfl) (fun _ _ _ h => h.elim) (Or.inl ⟨by rfl, ?y2⟩) hS0.out ?_
  case y2 =>
    intro V hV
    go_simp
  simp only [Act.put, List.setIfInBounds_toArray, List.set_cons_zero, List.set_cons_succ]
  refine wpAnyH_take (i := 4) (oi := { dst := some 95, op := Op.binOp BinOp.lss 3 (Operand.tmp 94) (Operand.const (Value.int IntKind.i64 0)) 3, type := 4, pos := "law.go:94", after := #[{ on := 3, ground := Ground.data }], guard := none }) (v := .bool true) rfl (by kernel_rfl) (by kernel_rfl) (by kernel_rfl) (fun _ _ _ h => h.elim) (Or.inl ⟨by rfl, ?y3⟩) hS0.out ?_
  case y3 =>
    intro V hV
    go_simp
  simp only [Act.put, List.setIfInBounds_toArray, List.set_cons_zero, List.set_cons_succ]
  refine wpAnyH_ready (rs := [2]) (by kernel_rfl) (by simp) (AllReadyH.cons (i := 2) (o := { dst := some 93, op := Op.call { callee := Callee.value (Operand.func 24), args := #[Operand.tmp 91, Operand.tmp 92], argTypes := #[27, 35] }, type := 4, pos := "law.go:94", after := #[{ on := 0, ground := Ground.data }, { on := 1, ground := Ground.data }], guard := none }) rfl ?_ AllReadyH.nil)
  · intro K1 hK1
    rw [if_pos (by rfl)]
    have HC1 := H24.out V0 hS0.out
    go_wp2_with fail
    refine HC1.mono ?_
    rintro e V1 ⟨rfl, hb1⟩
    dsimp only
    clear HC1
    have hS1 : Hid (Below A.heap.size A V1) := hS0.out.trans (hb1.mono hS0.out.size)
    clear hb1
    refine hK1.out _ _ hS1.out ?_
    clear hK1
    intro _
    try simp only [Act.put, List.setIfInBounds_toArray, List.set_cons_zero, List.set_cons_succ]
    refine wpAnyH_take (i := 5) (oi := { dst := some 96, op := Op.move (Operand.tmp 95), type := 4, pos := "law.go:94", after := #[{ on := 4, ground := Ground.data }, { on := 2, ground := Ground.chain }], guard := none }) (v := .bool true) rfl (by kernel_rfl) (by kernel_rfl) (by kernel_rfl) (fun _ _ _ h => h.elim) (Or.inl ⟨by rfl, ?y4⟩) hS1.out ?_
    case y4 =>
      intro V hV
      go_simp
    simp only [Act.put, List.setIfInBounds_toArray, List.set_cons_zero, List.set_cons_succ]
    refine wpAnyH_take (i := 6) (oi := { dst := some 97, op := Op.load 35 (Operand.tmp 3), type := 35, pos := "law.go:94", after := #[{ on := 5, ground := Ground.guard }], guard := some (5, true) }) (v := .agg (U Dh).toArray) rfl (by kernel_rfl) (by kernel_rfl) (by kernel_rfl) (fun _ _ _ h => h.elim) (yieldsIf_load_mid (by rfl) _ _ rfl _ _ rfl (U Dh) _ (fun V hV => rangeAt_same (HR.out.1) ((show Below A.heap.size A V from hV).block _ (HR.out.2))) Tryd.underlying35 rfl ((by rw [U_length, HDL.out]; exact size35))) hS1.out ?_
    simp only [Act.put, List.setIfInBounds_toArray, List.set_cons_zero, List.set_cons_succ]
    refine wpAnyH_take (i := 7) (oi := { dst := some 98, op := Op.move (Operand.tmp 0), type := 27, pos := "law.go:94", after := #[{ on := 5, ground := Ground.guard }], guard := some (5, true) }) (v := .slice a n cap) rfl (by kernel_rfl) (by kernel_rfl) (by kernel_rfl) (fun _ _ _ h => h.elim) (Or.inl ⟨by rfl, ?y5⟩) hS1.out ?_
    case y5 =>
      intro V hV
      go_simp
    simp only [Act.put, List.setIfInBounds_toArray, List.set_cons_zero, List.set_cons_succ]
    refine wpAnyH_ready (rs := [8]) (by kernel_rfl) (by simp) (AllReadyH.cons (i := 8) (o := { dst := some 99, op := Op.call { callee := Callee.value (Operand.func 17), args := #[Operand.tmp 98], argTypes := #[27] }, type := 35, pos := "law.go:94", after := #[{ on := 7, ground := Ground.data }, { on := 5, ground := Ground.chain }, { on := 5, ground := Ground.guard }], guard := some (5, true) }) rfl ?_ AllReadyH.nil)
    · intro K1 hK1
      rw [if_pos (by rfl)]
      have HC2 := H17.out V1 hS1.out
      go_wp2_with fail
      refine HC2.mono ?_
      rintro e V2 ⟨rfl, hb2⟩
      dsimp only
      clear HC2
      have hS2 : Hid (Below A.heap.size A V2) := hS1.out.trans (hb2.mono hS1.out.size)
      clear hb2
      refine hK1.out _ _ hS2.out ?_
      clear hK1
      intro _
      try simp only [Act.put, List.setIfInBounds_toArray, List.set_cons_zero, List.set_cons_succ]
      refine wpAnyH_take (i := 9) (oi := { dst := some 100, op := Op.binOp BinOp.eql 35 (Operand.tmp 97) (Operand.tmp 99) 35, type := 4, pos := "law.go:94", after := #[{ on := 6, ground := Ground.data }, { on := 8, ground := Ground.data }, { on := 5, ground := Ground.guard }], guard := some (5, true) }) (v := .bool E) rfl (by kernel_rfl) (by kernel_rfl) (by kernel_rfl) (fun _ _ _ h => h.elim) (Or.inl ⟨by rfl, ?y6⟩) hS2.out ?_
      case y6 =>
        intro V hV
        exact yl_eq35 V _ _ _ _ _ rfl rfl rfl HEQ.out
      simp only [Act.put, List.setIfInBounds_toArray, List.set_cons_zero, List.set_cons_succ]
      refine wpAnyH_take (i := 10) (oi := { dst := some 101, op := Op.pick (Operand.tmp 96) (Operand.tmp 100) (Operand.const (Value.bool false)), type := 4, pos := "law.go:94", after := #[{ on := 5, ground := Ground.data }, { on := 9, ground := Ground.data }], guard := none }) (v := .bool E) rfl (by kernel_rfl) (by kernel_rfl) (by kernel_rfl) (fun _ _ _ h => h.elim) (Or.inl ⟨by rfl, ?y7⟩) hS2.out ?_
      case y7 =>
        intro V hV
        go_simp
      simp only [Act.put, List.setIfInBounds_toArray, List.set_cons_zero, List.set_cons_succ]
      refine wpAnyH_take (i := 11) (oi := { dst := some 102, op := Op.binOp BinOp.eql 4 (Operand.tmp 93) (Operand.tmp 101) 4, type := 4, pos := "law.go:94", after := #[{ on := 2, ground := Ground.data }, { on := 10, ground := Ground.data }], guard := none }) (v := .bool true) rfl (by kernel_rfl) (by kernel_rfl) (by kernel_rfl) (fun _ _ _ h => h.elim) (Or.inl ⟨by rfl, ?y8⟩) hS2.out ?_
      case y8 =>
        intro V hV
        go_simp
      simp only [Act.put, List.setIfInBounds_toArray, List.set_cons_zero, List.set_cons_succ]
      refine wpAnyH_take (i := 12) (oi := { dst := some 103, op := Op.move (Operand.tmp 102), type := 4, pos := "law.go:94", after := #[{ on := 11, ground := Ground.data }, { on := 8, ground := Ground.chain }], guard := none }) (v := .bool true) rfl (by kernel_rfl) (by kernel_rfl) (by kernel_rfl) (fun _ _ _ h => h.elim) (Or.inl ⟨by rfl, ?y9⟩) hS2.out ?_
      case y9 =>
        intro V hV
        go_simp
      simp only [Act.put, List.setIfInBounds_toArray, List.set_cons_zero, List.set_cons_succ]
      refine wpAnyH_take (i := 13) (oi := { dst := some 104, op := Op.move (Operand.tmp 0), type := 27, pos := "law.go:94", after := #[{ on := 12, ground := Ground.guard }], guard := some (12, true) }) (v := .slice a n cap) rfl (by kernel_rfl) (by kernel_rfl) (by kernel_rfl) (fun _ _ _ h => h.elim) (Or.inl ⟨by rfl, ?y10⟩) hS2.out ?_
      case y10 =>
        intro V hV
        go_simp
      simp only [Act.put, List.setIfInBounds_toArray, List.set_cons_zero, List.set_cons_succ]
      refine wpAnyH_take (i := 14) (oi := { dst := some 105, op := Op.move (Operand.tmp 0), type := 27, pos := "law.go:94", after := #[{ on := 12, ground := Ground.guard }], guard := some (12, true) }) (v := .slice a n cap) rfl (by kernel_rfl) (by kernel_rfl) (by kernel_rfl) (fun _ _ _ h => h.elim) (Or.inl ⟨by rfl, ?y11⟩) hS2.out ?_
      case y11 =>
        intro V hV
        go_simp
      simp only [Act.put, List.setIfInBounds_toArray, List.set_cons_zero, List.set_cons_succ]
      refine wpAnyH_take (i := 17) (oi := { dst := some 108, op := Op.move (Operand.tmp 7), type := 3, pos := "law.go:94", after := #[{ on := 12, ground := Ground.guard }], guard := some (12, true) }) (v := iv (-1)) rfl (by kernel_rfl) (by kernel_rfl) (by kernel_rfl) (fun _ _ _ h => h.elim) (Or.inl ⟨by rfl, ?y12⟩) hS2.out ?_
      case y12 =>
        intro V hV
        go_simp
      simp only [Act.put, List.setIfInBounds_toArray, List.set_cons_zero, List.set_cons_succ]
      refine wpAnyH_take (i := 18) (oi := { dst := some 109, op := Op.binOp BinOp.lss 3 (Operand.tmp 108) (Operand.const (Value.int IntKind.i64 0)) 3, type := 4, pos := "law.go:94", after := #[{ on := 17, ground := Ground.data }, { on := 12, ground := Ground.guard }], guard := some (12, true) }) (v := .bool true) rfl (by kernel_rfl) (by kernel_rfl) (by kernel_rfl) (fun _ _ _ h => h.elim) (Or.inl ⟨by rfl, ?y13⟩) hS2.out ?_
      case y13 =>
        intro V hV
        go_simp
      simp only [Act.put, List.setIfInBounds_toArray, List.set_cons_zero, List.set_cons_succ]
      refine wpAnyH_ready (rs := [15]) (by kernel_rfl) (by simp) (AllReadyH.cons (i := 15) (o := { dst := some 106, op := Op.call { callee := Callee.value (Operand.func 17), args := #[Operand.tmp 105], argTypes := #[27] }, type := 35, pos := "law.go:94", after := #[{ on := 14, ground := Ground.data }, { on := 12, ground := Ground.chain }, { on := 12, ground := Ground.guard }], guard := some (12, true) }) rfl ?_ AllReadyH.nil)
      · intro K1 hK1
        rw [if_pos (by rfl)]
        have HC3 := H17.out V2 hS2.out
        go_wp2_with fail
        refine HC3.mono ?_
        rintro e V3 ⟨rfl, hb3⟩
        dsimp only
        clear HC3
        have hS3 : Hid (Below A.heap.size A V3) := hS2.out.trans (hb3.mono hS2.out.size)
        clear hb3
        refine hK1.out _ _ hS3.out ?_
        clear hK1
        intro _
        try simp only [Act.put, List.setIfInBounds_toArray, List.set_cons_zero, List.set_cons_succ]
        refine wpAnyH_ready (rs := [16]) (by kernel_rfl) (by simp) (AllReadyH.cons (i := 16) (o := { dst := some 107, op := Op.call { callee := Callee.value (Operand.func 24), args := #[Operand.tmp 104, Operand.tmp 106], argTypes := #[27, 35] }, type := 4, pos := "law.go:94", after := #[{ on := 13, ground := Ground.data }, { on := 15, ground := Ground.data }, { on := 15, ground := Ground.chain }, { on := 12, ground := Ground.guard }], guard := some (12, true) }) rfl ?_ AllReadyH.nil)
        · intro K1 hK1
          rw [if_pos (by rfl)]
          have HC4 := H24b.out V3 hS3.out
          go_wp2_with fail
          refine HC4.mono ?_
          rintro e V4 ⟨rfl, hb4⟩
          dsimp only
          clear HC4
          have hS4 : Hid (Below A.heap.size A V4) := hS3.out.trans (hb4.mono hS3.out.size)
          clear hb4
          refine hK1.out _ _ hS4.out ?_
          clear hK1
          intro _
          try simp only [Act.put, List.setIfInBounds_toArray, List.set_cons_zero, List.set_cons_succ]
          refine wpAnyH_take (i := 19) (oi := { dst := some 110, op := Op.binOp BinOp.eql 4 (Operand.tmp 107) (Operand.tmp 109) 4, type := 4, pos := "law.go:94", after := #[{ on := 16, ground := Ground.data }, { on := 18, ground := Ground.data }, { on := 12, ground := Ground.guard }], guard := some (12, true) }) (v := .bool true) rfl (by kernel_rfl) (by kernel_rfl) (by kernel_rfl) (fun _ _ _ h => h.elim) (Or.inl ⟨by rfl, ?y14⟩) hS4.out ?_
          case y14 =>
            intro V hV
            go_simp
          simp only [Act.put, List.setIfInBounds_toArray, List.set_cons_zero, List.set_cons_succ]
          refine wpAnyH_take (i := 20) (oi := { dst := some 111, op := Op.pick (Operand.tmp 103) (Operand.tmp 110) (Operand.const (Value.bool false)), type := 4, pos := "law.go:94", after := #[{ on := 12, ground := Ground.data }, { on := 19, ground := Ground.data }], guard := none }) (v := .bool true) rfl (by kernel_rfl) (by kernel_rfl) (by kernel_rfl) (fun _ _ _ h => h.elim) (Or.inl ⟨by rfl, ?y15⟩) hS4.out ?_
          case y15 =>
            intro V hV
            go_simp
          simp only [Act.put, List.setIfInBounds_toArray, List.set_cons_zero, List.set_cons_succ]
          refine wpAnyH_take (i := 21) (oi := { dst := some 112, op := Op.move (Operand.tmp 111), type := 4, pos := "law.go:94", after := #[{ on := 20, ground := Ground.data }, { on := 16, ground := Ground.chain }], guard := none }) (v := .bool true) rfl (by kernel_rfl) (by kernel_rfl) (by kernel_rfl) (fun _ _ _ h => h.elim) (Or.inl ⟨by rfl, ?y16⟩) hS4.out ?_
          case y16 =>
            intro V hV
            go_simp
          simp only [Act.put, List.setIfInBounds_toArray, List.set_cons_zero, List.set_cons_succ]
          refine wpAnyH_take (i := 22) (oi := { dst := some 113, op := Op.move (Operand.tmp 9), type := 25, pos := "law.go:94", after := #[{ on := 21, ground := Ground.guard }], guard := some (21, true) }) (v := .pointer (some ⟨L, 0, none⟩)) rfl (by kernel_rfl) (by kernel_rfl) (by kernel_rfl) (fun _ _ _ h => h.elim) (Or.inl ⟨by rfl, ?y17⟩) hS4.out ?_
          case y17 =>
            intro V hV
            go_simp
          simp only [Act.put, List.setIfInBounds_toArray, List.set_cons_zero, List.set_cons_succ]
          refine wpAnyH_take (i := 23) (oi := { dst := some 114, op := Op.binOp BinOp.eql 25 (Operand.tmp 113) (Operand.const (Value.pointer none)) 25, type := 4, pos := "law.go:94", after := #[{ on := 22, ground := Ground.data }, { on := 21, ground := Ground.guard }], guard := some (21, true) }) (v := .bool false) rfl (by kernel_rfl) (by kernel_rfl) (by kernel_rfl) (fun _ _ _ h => h.elim) (Or.inl ⟨by rfl, ?y18⟩) hS4.out ?_
          case y18 =>
            intro V hV
            go_simp
          simp only [Act.put, List.setIfInBounds_toArray, List.set_cons_zero, List.set_cons_succ]
          refine wpAnyH_take (i := 24) (oi := { dst := some 115, op := Op.move (Operand.tmp 114), type := 4, pos := "law.go:94", after := #[{ on := 23, ground := Ground.data }, { on := 21, ground := Ground.chain }, { on := 21, ground := Ground.guard }], guard := some (21, true) }) (v := .bool false) rfl (by kernel_rfl) (by kernel_rfl) (by kernel_rfl) (fun _ _ _ h => h.elim) (Or.inl ⟨by rfl, ?y19⟩) hS4.out ?_
          case y19 =>
            intro V hV
            go_simp
          simp only [Act.put, List.setIfInBounds_toArray, List.set_cons_zero, List.set_cons_succ]
          refine wpAnyH_take (i := 25) (oi := { dst := some 116, op := Op.move (Operand.tmp 9), type := 25, pos := "law.go:94", after := #[{ on := 24, ground := Ground.guard }], guard := some (24, false) }) (v := .pointer (some ⟨L, 0, none⟩)) rfl (by kernel_rfl) (by kernel_rfl) (by kernel_rfl) (fun _ _ _ h => h.elim) (Or.inl ⟨by rfl, ?y20⟩) hS4.out ?_
          case y20 =>
            intro V hV
            go_simp
          simp only [Act.put, List.setIfInBounds_toArray, List.set_cons_zero, List.set_cons_succ]
          refine wpAnyH_take (i := 27) (oi := { dst := some 118, op := Op.move (Operand.tmp 0), type := 27, pos := "law.go:94", after := #[{ on := 24, ground := Ground.guard }], guard := some (24, false) }) (v := .slice a n cap) rfl (by kernel_rfl) (by kernel_rfl) (by kernel_rfl) (fun _ _ _ h => h.elim) (Or.inl ⟨by rfl, ?y21⟩) hS4.out ?_
          case y21 =>
            intro V hV
            go_simp
          simp only [Act.put, List.setIfInBounds_toArray, List.set_cons_zero, List.set_cons_succ]
          refine wpAnyH_ready (rs := [26]) (by kernel_rfl) (by simp) (AllReadyH.cons (i := 26) (o := { dst := some 117, op := Op.call { callee := Callee.value (Operand.func 13), args := #[Operand.tmp 116], argTypes := #[25] }, type := 27, pos := "law.go:94", after := #[{ on := 25, ground := Ground.data }, { on := 24, ground := Ground.chain }, { on := 24, ground := Ground.guard }], guard := some (24, false) }) rfl ?_ AllReadyH.nil)
          · intro K1 hK1
            rw [if_pos (by rfl)]
            have HC5 := HEN.out V4 hS4.out
            go_wp2_with fail
            refine HC5.mono ?_
            rintro e V5 ⟨ve, rfl, hI, hb5⟩
            dsimp only
            clear HC5
            have hS5 : Hid (Below A.heap.size A V5) := hS4.out.trans (hb5.mono hS4.out.size)
            clear hb5
            refine hK1.out _ _ hS5.out ?_
            clear hK1
            intro _
            try simp only [Act.put, List.setIfInBounds_toArray, List.set_cons_zero, List.set_cons_succ]
            refine wpAnyH_ready (rs := [28]) (by kernel_rfl) (by simp) (AllReadyH.cons (i := 28) (o := { dst := some 119, op := Op.call { callee := Callee.value (Operand.func 18), args := #[Operand.tmp 117, Operand.tmp 118], argTypes := #[27, 27] }, type := 4, pos := "law.go:94", after := #[{ on := 26, ground := Ground.data }, { on := 27, ground := Ground.data }, { on := 26, ground := Ground.chain }, { on := 24, ground := Ground.guard }], guard := some (24, false) }) rfl ?_ AllReadyH.nil)
            · intro K1 hK1
              rw [if_pos (by rfl)]
              have HC6 := HSM.out V5 _ hS5.out hI.out
              go_wp2_with fail
              refine HC6.mono ?_
              rintro e V6 ⟨rfl, hb6⟩
              dsimp only
              clear HC6
              have hS6 : Hid (Below A.heap.size A V6) := hS5.out.trans (hb6.mono hS5.out.size)
              clear hb6
              refine hK1.out _ _ hS6.out ?_
              clear hK1
              intro _
              try simp only [Act.put, List.setIfInBounds_toArray, List.set_cons_zero, List.set_cons_succ]
              refine wpAnyH_take (i := 29) (oi := { dst := some 120, op := Op.pick (Operand.tmp 115) (Operand.const (Value.bool true)) (Operand.tmp 119), type := 4, pos := "law.go:94", after := #[{ on := 24, ground := Ground.data }, { on := 28, ground := Ground.data }, { on := 21, ground := Ground.guard }], guard := some (21, true) }) (v := .bool true) rfl (by kernel_rfl) (by kernel_rfl) (by kernel_rfl) (fun _ _ _ h => h.elim) (Or.inl ⟨by rfl, ?y22⟩) hS6.out ?_
              case y22 =>
                intro V hV
                go_simp
              simp only [Act.put, List.setIfInBounds_toArray, List.set_cons_zero, List.set_cons_succ]
              refine wpAnyH_take (i := 30) (oi := { dst := some 121, op := Op.pick (Operand.tmp 112) (Operand.tmp 120) (Operand.const (Value.bool false)), type := 4, pos := "law.go:94", after := #[{ on := 21, ground := Ground.data }, { on := 29, ground := Ground.data }], guard := none }) (v := .bool true) rfl (by kernel_rfl) (by kernel_rfl) (by kernel_rfl) (fun _ _ _ h => h.elim) (Or.inl ⟨by rfl, ?y23⟩) hS6.out ?_
              case y23 =>
                intro V hV
                go_simp
              simp only [Act.put, List.setIfInBounds_toArray, List.set_cons_zero, List.set_cons_succ]
              refine wpAnyH_take (i := 31) (oi := { dst := some 122, op := Op.move (Operand.tmp 121), type := 4, pos := "law.go:94", after := #[{ on := 30, ground := Ground.data }, { on := 28, ground := Ground.chain }], guard := none }) (v := .bool true) rfl (by kernel_rfl) (by kernel_rfl) (by kernel_rfl) (fun _ _ _ h => h.elim) (Or.inl ⟨by rfl, ?y24⟩) hS6.out ?_
              case y24 =>
                intro V hV
                go_simp
              simp only [Act.put, List.setIfInBounds_toArray, List.set_cons_zero, List.set_cons_succ]
              refine wpAnyH_ready (rs := [32]) (by kernel_rfl) (by simp) (AllReadyH.cons (i := 32) (o := { dst := some 123, op := Op.call { callee := Callee.value (Operand.func 10), args := #[], argTypes := #[] }, type := 4, pos := "law.go:94", after := #[{ on := 31, ground := Ground.chain }, { on := 31, ground := Ground.guard }], guard := some (31, true) }) rfl ?_ AllReadyH.nil)
              · intro K1 hK1
                rw [if_pos (by rfl)]
                have HC7 := H10.out V6 hS6.out
                go_wp2_with fail
                refine HC7.mono ?_
                rintro e V7 ⟨rfl, hb7⟩
                dsimp only
                clear HC7
                have hS7 : Hid (Below A.heap.size A V7) := hS6.out.trans (hb7.mono hS6.out.size)
                clear hb7
                refine hK1.out _ _ hS7.out ?_
                clear hK1
                intro _
                try simp only [Act.put, List.setIfInBounds_toArray, List.set_cons_zero, List.set_cons_succ]
                refine wpAnyH_take (i := 33) (oi := { dst := some 124, op := Op.pick (Operand.tmp 122) (Operand.tmp 123) (Operand.const (Value.bool false)), type := 4, pos := "law.go:94", after := #[{ on := 31, ground := Ground.data }, { on := 32, ground := Ground.data }], guard := none }) (v := .bool true) rfl (by kernel_rfl) (by kernel_rfl) (by kernel_rfl) (fun _ _ _ h => h.elim) (Or.inl ⟨by rfl, ?y25⟩) hS7.out ?_
                case y25 =>
                  intro V hV
                  go_simp
                simp only [Act.put, List.setIfInBounds_toArray, List.set_cons_zero, List.set_cons_succ]
                refine wpAnyH_take (i := 34) (oi := { dst := some 4, op := Op.assign (Operand.tmp 124), type := 4, pos := "law.go:94", after := #[{ on := 33, ground := Ground.data }, { on := 32, ground := Ground.chain }, { on := 0, ground := Ground.phase }, { on := 1, ground := Ground.phase }, { on := 2, ground := Ground.phase }, { on := 3, ground := Ground.phase }, { on := 4, ground := Ground.phase }, { on := 5, ground := Ground.phase }, { on := 6, ground := Ground.phase }, { on := 7, ground := Ground.phase }, { on := 8, ground := Ground.phase }, { on := 9, ground := Ground.phase }, { on := 10, ground := Ground.phase }, { on := 11, ground := Ground.phase }, { on := 12, ground := Ground.phase }, { on := 13, ground := Ground.phase }, { on := 14, ground := Ground.phase }, { on := 15, ground := Ground.phase }, { on := 16, ground := Ground.phase }, { on := 17, ground := Ground.phase }, { on := 18, ground := Ground.phase }, { on := 19, ground := Ground.phase }, { on := 20, ground := Ground.phase }, { on := 21, ground := Ground.phase }, { on := 22, ground := Ground.phase }, { on := 23, ground := Ground.phase }, { on := 24, ground := Ground.phase }, { on := 25, ground := Ground.phase }, { on := 26, ground := Ground.phase }, { on := 27, ground := Ground.phase }, { on := 28, ground := Ground.phase }, { on := 29, ground := Ground.phase }, { on := 30, ground := Ground.phase }, { on := 31, ground := Ground.phase }, { on := 32, ground := Ground.phase }, { on := 33, ground := Ground.phase }], guard := none }) (v := .bool true) rfl (by kernel_rfl) (by kernel_rfl) (by kernel_rfl) (fun _ _ _ h => h.elim) (Or.inl ⟨by rfl, ?y26⟩) hS7.out ?_
                case y26 =>
                  intro V hV
                  go_simp
                simp only [Act.put, List.setIfInBounds_toArray, List.set_cons_zero, List.set_cons_succ]
                refine wpAnyH_done (by kernel_rfl) ?_ _
                exact hQ V7 _ hS7.out
set_option maxRecDepth 100000 in
set_option maxHeartbeats 4000000 in
theorem vs21b {Q : Exit → Act → World → Prop} {x1 x2 x4 x5 x6 x8 x10 x11 x12 x13 x14 x15 x16 x17 x18 x19 x20 x21 x22 x23 x24 x25 x26 x27 x28 x29 x30 x31 x32 x33 x34 x35 x36 x37 x38 x39 x40 x41 x42 x43 x44 x45 x46 x47 x48 x49 x50 x51 x52 x53 x54 x55 x56 x57 x58 x59 x60 x61 x62 x63 x64 x65 x66 x67 x68 x69 x70 x71 x72 x73 x74 x75 x76 x77 x78 x79 x80 x81 x82 x83 x84 x85 x86 x87 x88 x89 x90 x91 x92 x93 x94 x95 x96 x97 x98 x99 x100 x101 x102 x103 x104 x105 x106 x107 x108 x109 x110 x111 x112 x113 x114 x115 x116 x117 x118 x119 x120 x121 x122 x123 x124 : Value} {ds : List Deferred} {A : World} {a : Option Addr} {n cap h : Nat} {k : Int} {Dh D : List UInt8}
    (HR : Hid (A.rangeAt h 0 (U Dh) ∧ h < A.heap.size)) (HDL : Hid (Dh.length = 32)) (H24 : Hid (∀ V, Below A.heap.size A V → Calls Tryd.prog 24 #[.slice a n cap, .agg (U Dh).toArray] V fun e V2 => e = .returned (.bool false) ∧ Below V.heap.size V V2)) (H17 : Hid (∀ V, Below A.heap.size A V → Calls Tryd.prog 17 #[.slice a n cap] V fun e V2 => e = .returned (.agg (U D).toArray) ∧ Below V.heap.size V V2)) (H24b : Hid (∀ V, Below A.heap.size A V → Calls Tryd.prog 24 #[.slice a n cap, .agg (U D).toArray] V fun e V2 => e = .returned (.bool false) ∧ Below V.heap.size V V2)) (H10 : Hid (∀ V, Below A.heap.size A V → Calls Tryd.prog 10 #[] V fun e V2 => e = .returned (.bool true) ∧ Below V.heap.size V V2)) (q0 : 0 ≤ (k : Int))
    (hQ : ∀ V1, Below A.heap.size A V1 → Q .normal { tmps := #[.slice a n cap, x1, x2, .pointer (some ⟨h, 0, none⟩), .bool true, x5, x6, iv k, x8, .pointer none, x10, x11, x12, x13, x14, x15, x16, x17, x18, x19, x20, x21, x22, x23, x24, x25, x26, x27, x28, x29, x30, x31, x32, x33, x34, x35, x36, x37, x38, x39, x40, x41, x42, x43, x44, x45, x46, x47, x48, x49, x50, x51, x52, x53, x54, x55, x56, x57, x58, x59, x60, x61, x62, x63, x64, x65, x66, x67, x68, x69, x70, x71, x72, x73, x74, x75, x76, x77, x78, x79, x80, x81, x82, x83, x84, x85, x86, x87, x88, x89, x90, .slice a n cap, .agg (U Dh).toArray, .bool false, iv k, .bool false, .bool false, undef, undef, undef, undef, .bool false, .bool true, .bool true, .slice a n cap, .slice a n cap, .agg (U D).toArray, .bool false, iv k, .bool false, .bool true, .bool true, .bool true, .pointer none, .bool true, .bool true, undef, undef, undef, undef, .bool true, .bool true, .bool true, .bool true, .bool true], defers := ds } V1) :
    (Code.region 21 #[{ dst := some 91, op := Op.move (Operand.tmp 0), type := 27, pos := "law.go:94", after := #[], guard := none }, { dst := some 92, op := Op.load 35 (Operand.tmp 3), type := 35, pos := "law.go:94", after := #[], guard := none }, { dst := some 93, op := Op.call { callee := Callee.value (Operand.func 24), args := #[Operand.tmp 91, Operand.tmp 92], argTypes := #[27, 35] }, type := 4, pos := "law.go:94", after := #[{ on := 0, ground := Ground.data }, { on := 1, ground := Ground.data }], guard := none }, { dst := some 94, op := Op.move (Operand.tmp 7), type := 3, pos := "law.go:94", after := #[], guard := none }, { dst := some 95, op := Op.binOp BinOp.lss 3 (Operand.tmp 94) (Operand.const (Value.int IntKind.i64 0)) 3, type := 4, pos := "law.go:94", after := #[{ on := 3, ground := Ground.data }], guard := none }, { dst := some 96, op := Op.move (Operand.tmp 95), type := 4, pos := "law.go:94", after := #[{ on := 4, ground := Ground.data }, { on := 2, ground := Ground.chain }], guard := none }, { dst := some 97, op := Op.load 35 (Operand.tmp 3), type := 35, pos := "law.go:94", after := #[{ on := 5, ground := Ground.guard }], guard := some (5, true) }, { dst := some 98, op := Op.move (Operand.tmp 0), type := 27, pos := "law.go:94", after := #[{ on := 5, ground := Ground.guard }], guard := some (5, true) }, { dst := some 99, op := Op.call { callee := Callee.value (Operand.func 17), args := #[Operand.tmp 98], argTypes := #[27] }, type := 35, pos := "law.go:94", after := #[{ on := 7, ground := Ground.data }, { on := 5, ground := Ground.chain }, { on := 5, ground := Ground.guard }], guard := some (5, true) }, { dst := some 100, op := Op.binOp BinOp.eql 35 (Operand.tmp 97) (Operand.tmp 99) 35, type := 4, pos := "law.go:94", after := #[{ on := 6, ground := Ground.data }, { on := 8, ground := Ground.data }, { on := 5, ground := Ground.guard }], guard := some (5, true) }, { dst := some 101, op := Op.pick (Operand.tmp 96) (Operand.tmp 100) (Operand.const (Value.bool false)), type := 4, pos := "law.go:94", after := #[{ on := 5, ground := Ground.data }, { on := 9, ground := Ground.data }], guard := none }, { dst := some 102, op := Op.binOp BinOp.eql 4 (Operand.tmp 93) (Operand.tmp 101) 4, type := 4, pos := "law.go:94", after := #[{ on := 2, ground := Ground.data }, { on := 10, ground := Ground.data }], guard := none }, { dst := some 103, op := Op.move (Operand.tmp 102), type := 4, pos := "law.go:94", after := #[{ on := 11, ground := Ground.data }, { on := 8, ground := Ground.chain }], guard := none }, { dst := some 104, op := Op.move (Operand.tmp 0), type := 27, pos := "law.go:94", after := #[{ on := 12, ground := Ground.guard }], guard := some (12, true) }, { dst := some 105, op := Op.move (Operand.tmp 0), type := 27, pos := "law.go:94", after := #[{ on := 12, ground := Ground.guard }], guard := some (12, true) }, { dst := some 106, op := Op.call { callee := Callee.value (Operand.func 17), args := #[Operand.tmp 105], argTypes := #[27] }, type := 35, pos := "law.go:94", after := #[{ on := 14, ground := Ground.data }, { on := 12, ground := Ground.chain }, { on := 12, ground := Ground.guard }], guard := some (12, true) }, { dst := some 107, op := Op.call { callee := Callee.value (Operand.func 24), args := #[Operand.tmp 104, Operand.tmp 106], argTypes := #[27, 35] }, type := 4, pos := "law.go:94", after := #[{ on := 13, ground := Ground.data }, { on := 15, ground := Ground.data }, { on := 15, ground := Ground.chain }, { on := 12, ground := Ground.guard }], guard := some (12, true) }, { dst := some 108, op := Op.move (Operand.tmp 7), type := 3, pos := "law.go:94", after := #[{ on := 12, ground := Ground.guard }], guard := some (12, true) }, { dst := some 109, op := Op.binOp BinOp.lss 3 (Operand.tmp 108) (Operand.const (Value.int IntKind.i64 0)) 3, type := 4, pos := "law.go:94", after := #[{ on := 17, ground := Ground.data }, { on := 12, ground := Ground.guard }], guard := some (12, true) }, { dst := some 110, op := Op.binOp BinOp.eql 4 (Operand.tmp 107) (Operand.tmp 109) 4, type := 4, pos := "law.go:94", after := #[{ on := 16, ground := Ground.data }, { on := 18, ground := Ground.data }, { on := 12, ground := Ground.guard }], guard := some (12, true) }, { dst := some 111, op := Op.pick (Operand.tmp 103) (Operand.tmp 110) (Operand.const (Value.bool false)), type := 4, pos := "law.go:94", after := #[{ on := 12, ground := Ground.data }, { on := 19, ground := Ground.data }], guard := none }, { dst := some 112, op := Op.move (Operand.tmp 111), type := 4, pos := "law.go:94", after := #[{ on := 20, ground := Ground.data }, { on := 16, ground := Ground.chain }], guard := none }, { dst := some 113, op := Op.move (Operand.tmp 9), type := 25, pos := "law.go:94", after := #[{ on := 21, ground := Ground.guard }], guard := some (21, true) }, { dst := some 114, op := Op.binOp BinOp.eql 25 (Operand.tmp 113) (Operand.const (Value.pointer none)) 25, type := 4, pos := "law.go:94", after := #[{ on := 22, ground := Ground.data }, { on := 21, ground := Ground.guard }], guard := some (21, true) }, { dst := some 115, op := Op.move (Operand.tmp 114), type := 4, pos := "law.go:94", after := #[{ on := 23, ground := Ground.data }, { on := 21, ground := Ground.chain }, { on := 21, ground := Ground.guard }], guard := some (21, true) }, { dst := some 116, op := Op.move (Operand.tmp 9), type := 25, pos := "law.go:94", after := #[{ on := 24, ground := Ground.guard }], guard := some (24, false) }, { dst := some 117, op := Op.call { callee := Callee.value (Operand.func 13), args := #[Operand.tmp 116], argTypes := #[25] }, type := 27, pos := "law.go:94", after := #[{ on := 25, ground := Ground.data }, { on := 24, ground := Ground.chain }, { on := 24, ground := Ground.guard }], guard := some (24, false) }, { dst := some 118, op := Op.move (Operand.tmp 0), type := 27, pos := "law.go:94", after := #[{ on := 24, ground := Ground.guard }], guard := some (24, false) }, { dst := some 119, op := Op.call { callee := Callee.value (Operand.func 18), args := #[Operand.tmp 117, Operand.tmp 118], argTypes := #[27, 27] }, type := 4, pos := "law.go:94", after := #[{ on := 26, ground := Ground.data }, { on := 27, ground := Ground.data }, { on := 26, ground := Ground.chain }, { on := 24, ground := Ground.guard }], guard := some (24, false) }, { dst := some 120, op := Op.pick (Operand.tmp 115) (Operand.const (Value.bool true)) (Operand.tmp 119), type := 4, pos := "law.go:94", after := #[{ on := 24, ground := Ground.data }, { on := 28, ground := Ground.data }, { on := 21, ground := Ground.guard }], guard := some (21, true) }, { dst := some 121, op := Op.pick (Operand.tmp 112) (Operand.tmp 120) (Operand.const (Value.bool false)), type := 4, pos := "law.go:94", after := #[{ on := 21, ground := Ground.data }, { on := 29, ground := Ground.data }], guard := none }, { dst := some 122, op := Op.move (Operand.tmp 121), type := 4, pos := "law.go:94", after := #[{ on := 30, ground := Ground.data }, { on := 28, ground := Ground.chain }], guard := none }, { dst := some 123, op := Op.call { callee := Callee.value (Operand.func 10), args := #[], argTypes := #[] }, type := 4, pos := "law.go:94", after := #[{ on := 31, ground := Ground.chain }, { on := 31, ground := Ground.guard }], guard := some (31, true) }, { dst := some 124, op := Op.pick (Operand.tmp 122) (Operand.tmp 123) (Operand.const (Value.bool false)), type := 4, pos := "law.go:94", after := #[{ on := 31, ground := Ground.data }, { on := 32, ground := Ground.data }], guard := none }, { dst := some 4, op := Op.assign (Operand.tmp 124), type := 4, pos := "law.go:94", after := #[{ on := 33, ground := Ground.data }, { on := 32, ground := Ground.chain }, { on := 0, ground := Ground.phase }, { on := 1, ground := Ground.phase }, { on := 2, ground := Ground.phase }, { on := 3, ground := Ground.phase }, { on := 4, ground := Ground.phase }, { on := 5, ground := Ground.phase }, { on := 6, ground := Ground.phase }, { on := 7, ground := Ground.phase }, { on := 8, ground := Ground.phase }, { on := 9, ground := Ground.phase }, { on := 10, ground := Ground.phase }, { on := 11, ground := Ground.phase }, { on := 12, ground := Ground.phase }, { on := 13, ground := Ground.phase }, { on := 14, ground := Ground.phase }, { on := 15, ground := Ground.phase }, { on := 16, ground := Ground.phase }, { on := 17, ground := Ground.phase }, { on := 18, ground := Ground.phase }, { on := 19, ground := Ground.phase }, { on := 20, ground := Ground.phase }, { on := 21, ground := Ground.phase }, { on := 22, ground := Ground.phase }, { on := 23, ground := Ground.phase }, { on := 24, ground := Ground.phase }, { on := 25, ground := Ground.phase }, { on := 26, ground := Ground.phase }, { on := 27, ground := Ground.phase }, { on := 28, ground := Ground.phase }, { on := 29, ground := Ground.phase }, { on := 30, ground := Ground.phase }, { on := 31, ground := Ground.phase }, { on := 32, ground := Ground.phase }, { on := 33, ground := Ground.phase }], guard := none }] true).wp Tryd.prog Q { tmps := #[.slice a n cap, x1, x2, .pointer (some ⟨h, 0, none⟩), x4, x5, x6, iv k, x8, .pointer none, x10, x11, x12, x13, x14, x15, x16, x17, x18, x19, x20, x21, x22, x23, x24, x25, x26, x27, x28, x29, x30, x31, x32, x33, x34, x35, x36, x37, x38, x39, x40, x41, x42, x43, x44, x45, x46, x47, x48, x49, x50, x51, x52, x53, x54, x55, x56, x57, x58, x59, x60, x61, x62, x63, x64, x65, x66, x67, x68, x69, x70, x71, x72, x73, x74, x75, x76, x77, x78, x79, x80, x81, x82, x83, x84, x85, x86, x87, x88, x89, x90, x91, x92, x93, x94, x95, x96, x97, x98, x99, x100, x101, x102, x103, x104, x105, x106, x107, x108, x109, x110, x111, x112, x113, x114, x115, x116, x117, x118, x119, x120, x121, x122, x123, x124], defers := ds } A := by
  refine Code.wp_mono (Q := fun x a' w' => match x with | .normal => Q .normal a' w' | _ => False) (by intro x a' w' h; cases x <;> first | exact h | exact h.elim) ?_
  refine wp_region_held (S := fun V => Below A.heap.size A V) (by kernel_rfl) ?_
  have hS0 : Hid (Below A.heap.size A A.drew) := below_drew0 A
  change wpAnyH Tryd.prog .any _ _ (fun V => Below A.heap.size A V) 35 (Array.replicate 35 false) _ A.drew
  obtain ⟨V0, hV0⟩ : ∃ V0, A.drew = V0 := ⟨_, rfl⟩
  rw [hV0]
  rw [hV0] at hS0
  clear hV0
  refine wpAnyH_take (i := 0) (oi := { dst := some 91, op := Op.move (Operand.tmp 0), type := 27, pos := "law.go:94", after := #[], guard := none }) (v := .slice a n cap) rfl (by kernel_rfl) (by kernel_rfl) (by kernel_rfl) (fun _ _ _ h => h.elim) (Or.inl ⟨by rfl, ?y1⟩) hS0.out ?_
  case y1 =>
    intro V hV
    go_simp
  simp only [Act.put, List.setIfInBounds_toArray, List.set_cons_zero, List.set_cons_succ]
  refine wpAnyH_take (i := 1) (oi := { dst := some 92, op := Op.load 35 (Operand.tmp 3), type := 35, pos := "law.go:94", after := #[], guard := none }) (v := .agg (U Dh).toArray) rfl (by kernel_rfl) (by kernel_rfl) (by kernel_rfl) (fun _ _ _ h => h.elim) (yieldsIf_load_mid (by rfl) _ _ rfl _ _ rfl (U Dh) _ (fun V hV => rangeAt_same (HR.out.1) ((show Below A.heap.size A V from hV).block _ (HR.out.2))) Tryd.underlying35 rfl ((by rw [U_length, HDL.out]; exact size35))) hS0.out ?_
  simp only [Act.put, List.setIfInBounds_toArray, List.set_cons_zero, List.set_cons_succ]
  refine wpAnyH_take (i := 3) (oi := { dst := some 94, op := Op.move (Operand.tmp 7), type := 3, pos := "law.go:94", after := #[], guard := none }) (v := iv k) rfl (by kernel_rfl) (by kernel_rfl) (by kernel_rfl) (fun _ _ _ h => h.elim) (Or.inl ⟨by rfl, ?y2⟩) hS0.out ?_
  case y2 =>
    intro V hV
    go_simp
  simp only [Act.put, List.setIfInBounds_toArray, List.set_cons_zero, List.set_cons_succ]
  refine wpAnyH_take (i := 4) (oi := { dst := some 95, op := Op.binOp BinOp.lss 3 (Operand.tmp 94) (Operand.const (Value.int IntKind.i64 0)) 3, type := 4, pos := "law.go:94", after := #[{ on := 3, ground := Ground.data }], guard := none }) (v := .bool false) rfl (by kernel_rfl) (by kernel_rfl) (by kernel_rfl) (fun _ _ _ h => h.elim) (Or.inl ⟨by rfl, ?y3⟩) hS0.out ?_
  case y3 =>
    intro V hV
    have hcmp := q0
    go_simp
  simp only [Act.put, List.setIfInBounds_toArray, List.set_cons_zero, List.set_cons_succ]
  refine wpAnyH_ready (rs := [2]) (by kernel_rfl) (by simp) (AllReadyH.cons (i := 2) (o := { dst := some 93, op := Op.call { callee := Callee.value (Operand.func 24), args := #[Operand.tmp 91, Operand.tmp 92], argTypes := #[27, 35] }, type := 4, pos := "law.go:94", after := #[{ on := 0, ground := Ground.data }, { on := 1, ground := Ground.data }], guard := none }) rfl ?_ AllReadyH.nil)
  · intro K1 hK1
    rw [if_pos (by rfl)]
    have HC1 := H24.out V0 hS0.out
    go_wp2_with fail
    refine HC1.mono ?_
    rintro e V1 ⟨rfl, hb1⟩
    dsimp only
    clear HC1
    have hS1 : Hid (Below A.heap.size A V1) := hS0.out.trans (hb1.mono hS0.out.size)
    clear hb1
    refine hK1.out _ _ hS1.out ?_
    clear hK1
    intro _
    try simp only [Act.put, List.setIfInBounds_toArray, List.set_cons_zero, List.set_cons_succ]
    refine wpAnyH_take (i := 5) (oi := { dst := some 96, op := Op.move (Operand.tmp 95), type := 4, pos := "law.go:94", after := #[{ on := 4, ground := Ground.data }, { on := 2, ground := Ground.chain }], guard := none }) (v := .bool false) rfl (by kernel_rfl) (by kernel_rfl) (by kernel_rfl) (fun _ _ _ h => h.elim) (Or.inl ⟨by rfl, ?y4⟩) hS1.out ?_
    case y4 =>
      intro V hV
      go_simp
    simp only [Act.put, List.setIfInBounds_toArray, List.set_cons_zero, List.set_cons_succ]
    refine wpAnyH_take (i := 6) (oi := { dst := some 97, op := Op.load 35 (Operand.tmp 3), type := 35, pos := "law.go:94", after := #[{ on := 5, ground := Ground.guard }], guard := some (5, true) }) (v := undef) rfl (by kernel_rfl) (by kernel_rfl) (by kernel_rfl) (fun _ _ _ h => h.elim) (Or.inr ⟨by rfl, rfl⟩) hS1.out ?_
    simp only [Act.put, List.setIfInBounds_toArray, List.set_cons_zero, List.set_cons_succ]
    refine wpAnyH_take (i := 7) (oi := { dst := some 98, op := Op.move (Operand.tmp 0), type := 27, pos := "law.go:94", after := #[{ on := 5, ground := Ground.guard }], guard := some (5, true) }) (v := undef) rfl (by kernel_rfl) (by kernel_rfl) (by kernel_rfl) (fun _ _ _ h => h.elim) (Or.inr ⟨by rfl, rfl⟩) hS1.out ?_
    simp only [Act.put, List.setIfInBounds_toArray, List.set_cons_zero, List.set_cons_succ]
    refine wpAnyH_take (i := 8) (oi := { dst := some 99, op := Op.call { callee := Callee.value (Operand.func 17), args := #[Operand.tmp 98], argTypes := #[27] }, type := 35, pos := "law.go:94", after := #[{ on := 7, ground := Ground.data }, { on := 5, ground := Ground.chain }, { on := 5, ground := Ground.guard }], guard := some (5, true) }) (v := undef) rfl (by kernel_rfl) (by kernel_rfl) (by kernel_rfl) (fun _ _ _ h => h.elim) (Or.inr ⟨by rfl, rfl⟩) hS1.out ?_
    simp only [Act.put, List.setIfInBounds_toArray, List.set_cons_zero, List.set_cons_succ]
    refine wpAnyH_take (i := 9) (oi := { dst := some 100, op := Op.binOp BinOp.eql 35 (Operand.tmp 97) (Operand.tmp 99) 35, type := 4, pos := "law.go:94", after := #[{ on := 6, ground := Ground.data }, { on := 8, ground := Ground.data }, { on := 5, ground := Ground.guard }], guard := some (5, true) }) (v := undef) rfl (by kernel_rfl) (by kernel_rfl) (by kernel_rfl) (fun _ _ _ h => h.elim) (Or.inr ⟨by rfl, rfl⟩) hS1.out ?_
    simp only [Act.put, List.setIfInBounds_toArray, List.set_cons_zero, List.set_cons_succ]
    refine wpAnyH_take (i := 10) (oi := { dst := some 101, op := Op.pick (Operand.tmp 96) (Operand.tmp 100) (Operand.const (Value.bool false)), type := 4, pos := "law.go:94", after := #[{ on := 5, ground := Ground.data }, { on := 9, ground := Ground.data }], guard := none }) (v := .bool false) rfl (by kernel_rfl) (by kernel_rfl) (by kernel_rfl) (fun _ _ _ h => h.elim) (Or.inl ⟨by rfl, ?y5⟩) hS1.out ?_
    case y5 =>
      intro V hV
      go_simp
    simp only [Act.put, List.setIfInBounds_toArray, List.set_cons_zero, List.set_cons_succ]
    refine wpAnyH_take (i := 11) (oi := { dst := some 102, op := Op.binOp BinOp.eql 4 (Operand.tmp 93) (Operand.tmp 101) 4, type := 4, pos := "law.go:94", after := #[{ on := 2, ground := Ground.data }, { on := 10, ground := Ground.data }], guard := none }) (v := .bool true) rfl (by kernel_rfl) (by kernel_rfl) (by kernel_rfl) (fun _ _ _ h => h.elim) (Or.inl ⟨by rfl, ?y6⟩) hS1.out ?_
    case y6 =>
      intro V hV
      go_simp
    simp only [Act.put, List.setIfInBounds_toArray, List.set_cons_zero, List.set_cons_succ]
    refine wpAnyH_take (i := 12) (oi := { dst := some 103, op := Op.move (Operand.tmp 102), type := 4, pos := "law.go:94", after := #[{ on := 11, ground := Ground.data }, { on := 8, ground := Ground.chain }], guard := none }) (v := .bool true) rfl (by kernel_rfl) (by kernel_rfl) (by kernel_rfl) (fun _ _ _ h => h.elim) (Or.inl ⟨by rfl, ?y7⟩) hS1.out ?_
    case y7 =>
      intro V hV
      go_simp
    simp only [Act.put, List.setIfInBounds_toArray, List.set_cons_zero, List.set_cons_succ]
    refine wpAnyH_take (i := 13) (oi := { dst := some 104, op := Op.move (Operand.tmp 0), type := 27, pos := "law.go:94", after := #[{ on := 12, ground := Ground.guard }], guard := some (12, true) }) (v := .slice a n cap) rfl (by kernel_rfl) (by kernel_rfl) (by kernel_rfl) (fun _ _ _ h => h.elim) (Or.inl ⟨by rfl, ?y8⟩) hS1.out ?_
    case y8 =>
      intro V hV
      go_simp
    simp only [Act.put, List.setIfInBounds_toArray, List.set_cons_zero, List.set_cons_succ]
    refine wpAnyH_take (i := 14) (oi := { dst := some 105, op := Op.move (Operand.tmp 0), type := 27, pos := "law.go:94", after := #[{ on := 12, ground := Ground.guard }], guard := some (12, true) }) (v := .slice a n cap) rfl (by kernel_rfl) (by kernel_rfl) (by kernel_rfl) (fun _ _ _ h => h.elim) (Or.inl ⟨by rfl, ?y9⟩) hS1.out ?_
    case y9 =>
      intro V hV
      go_simp
    simp only [Act.put, List.setIfInBounds_toArray, List.set_cons_zero, List.set_cons_succ]
    refine wpAnyH_take (i := 17) (oi := { dst := some 108, op := Op.move (Operand.tmp 7), type := 3, pos := "law.go:94", after := #[{ on := 12, ground := Ground.guard }], guard := some (12, true) }) (v := iv k) rfl (by kernel_rfl) (by kernel_rfl) (by kernel_rfl) (fun _ _ _ h => h.elim) (Or.inl ⟨by rfl, ?y10⟩) hS1.out ?_
    case y10 =>
      intro V hV
      go_simp
    simp only [Act.put, List.setIfInBounds_toArray, List.set_cons_zero, List.set_cons_succ]
    refine wpAnyH_take (i := 18) (oi := { dst := some 109, op := Op.binOp BinOp.lss 3 (Operand.tmp 108) (Operand.const (Value.int IntKind.i64 0)) 3, type := 4, pos := "law.go:94", after := #[{ on := 17, ground := Ground.data }, { on := 12, ground := Ground.guard }], guard := some (12, true) }) (v := .bool false) rfl (by kernel_rfl) (by kernel_rfl) (by kernel_rfl) (fun _ _ _ h => h.elim) (Or.inl ⟨by rfl, ?y11⟩) hS1.out ?_
    case y11 =>
      intro V hV
      have hcmp := q0
      go_simp
    simp only [Act.put, List.setIfInBounds_toArray, List.set_cons_zero, List.set_cons_succ]
    refine wpAnyH_ready (rs := [15]) (by kernel_rfl) (by simp) (AllReadyH.cons (i := 15) (o := { dst := some 106, op := Op.call { callee := Callee.value (Operand.func 17), args := #[Operand.tmp 105], argTypes := #[27] }, type := 35, pos := "law.go:94", after := #[{ on := 14, ground := Ground.data }, { on := 12, ground := Ground.chain }, { on := 12, ground := Ground.guard }], guard := some (12, true) }) rfl ?_ AllReadyH.nil)
    · intro K1 hK1
      rw [if_pos (by rfl)]
      have HC2 := H17.out V1 hS1.out
      go_wp2_with fail
      refine HC2.mono ?_
      rintro e V2 ⟨rfl, hb2⟩
      dsimp only
      clear HC2
      have hS2 : Hid (Below A.heap.size A V2) := hS1.out.trans (hb2.mono hS1.out.size)
      clear hb2
      refine hK1.out _ _ hS2.out ?_
      clear hK1
      intro _
      try simp only [Act.put, List.setIfInBounds_toArray, List.set_cons_zero, List.set_cons_succ]
      refine wpAnyH_ready (rs := [16]) (by kernel_rfl) (by simp) (AllReadyH.cons (i := 16) (o := { dst := some 107, op := Op.call { callee := Callee.value (Operand.func 24), args := #[Operand.tmp 104, Operand.tmp 106], argTypes := #[27, 35] }, type := 4, pos := "law.go:94", after := #[{ on := 13, ground := Ground.data }, { on := 15, ground := Ground.data }, { on := 15, ground := Ground.chain }, { on := 12, ground := Ground.guard }], guard := some (12, true) }) rfl ?_ AllReadyH.nil)
      · intro K1 hK1
        rw [if_pos (by rfl)]
        have HC3 := H24b.out V2 hS2.out
        go_wp2_with fail
        refine HC3.mono ?_
        rintro e V3 ⟨rfl, hb3⟩
        dsimp only
        clear HC3
        have hS3 : Hid (Below A.heap.size A V3) := hS2.out.trans (hb3.mono hS2.out.size)
        clear hb3
        refine hK1.out _ _ hS3.out ?_
        clear hK1
        intro _
        try simp only [Act.put, List.setIfInBounds_toArray, List.set_cons_zero, List.set_cons_succ]
        refine wpAnyH_take (i := 19) (oi := { dst := some 110, op := Op.binOp BinOp.eql 4 (Operand.tmp 107) (Operand.tmp 109) 4, type := 4, pos := "law.go:94", after := #[{ on := 16, ground := Ground.data }, { on := 18, ground := Ground.data }, { on := 12, ground := Ground.guard }], guard := some (12, true) }) (v := .bool true) rfl (by kernel_rfl) (by kernel_rfl) (by kernel_rfl) (fun _ _ _ h => h.elim) (Or.inl ⟨by rfl, ?y12⟩) hS3.out ?_
        case y12 =>
          intro V hV
          go_simp
        simp only [Act.put, List.setIfInBounds_toArray, List.set_cons_zero, List.set_cons_succ]
        refine wpAnyH_take (i := 20) (oi := { dst := some 111, op := Op.pick (Operand.tmp 103) (Operand.tmp 110) (Operand.const (Value.bool false)), type := 4, pos := "law.go:94", after := #[{ on := 12, ground := Ground.data }, { on := 19, ground := Ground.data }], guard := none }) (v := .bool true) rfl (by kernel_rfl) (by kernel_rfl) (by kernel_rfl) (fun _ _ _ h => h.elim) (Or.inl ⟨by rfl, ?y13⟩) hS3.out ?_
        case y13 =>
          intro V hV
          go_simp
        simp only [Act.put, List.setIfInBounds_toArray, List.set_cons_zero, List.set_cons_succ]
        refine wpAnyH_take (i := 21) (oi := { dst := some 112, op := Op.move (Operand.tmp 111), type := 4, pos := "law.go:94", after := #[{ on := 20, ground := Ground.data }, { on := 16, ground := Ground.chain }], guard := none }) (v := .bool true) rfl (by kernel_rfl) (by kernel_rfl) (by kernel_rfl) (fun _ _ _ h => h.elim) (Or.inl ⟨by rfl, ?y14⟩) hS3.out ?_
        case y14 =>
          intro V hV
          go_simp
        simp only [Act.put, List.setIfInBounds_toArray, List.set_cons_zero, List.set_cons_succ]
        refine wpAnyH_take (i := 22) (oi := { dst := some 113, op := Op.move (Operand.tmp 9), type := 25, pos := "law.go:94", after := #[{ on := 21, ground := Ground.guard }], guard := some (21, true) }) (v := .pointer none) rfl (by kernel_rfl) (by kernel_rfl) (by kernel_rfl) (fun _ _ _ h => h.elim) (Or.inl ⟨by rfl, ?y15⟩) hS3.out ?_
        case y15 =>
          intro V hV
          go_simp
        simp only [Act.put, List.setIfInBounds_toArray, List.set_cons_zero, List.set_cons_succ]
        refine wpAnyH_take (i := 23) (oi := { dst := some 114, op := Op.binOp BinOp.eql 25 (Operand.tmp 113) (Operand.const (Value.pointer none)) 25, type := 4, pos := "law.go:94", after := #[{ on := 22, ground := Ground.data }, { on := 21, ground := Ground.guard }], guard := some (21, true) }) (v := .bool true) rfl (by kernel_rfl) (by kernel_rfl) (by kernel_rfl) (fun _ _ _ h => h.elim) (Or.inl ⟨by rfl, ?y16⟩) hS3.out ?_
        case y16 =>
          intro V hV
          go_simp
        simp only [Act.put, List.setIfInBounds_toArray, List.set_cons_zero, List.set_cons_succ]
        refine wpAnyH_take (i := 24) (oi := { dst := some 115, op := Op.move (Operand.tmp 114), type := 4, pos := "law.go:94", after := #[{ on := 23, ground := Ground.data }, { on := 21, ground := Ground.chain }, { on := 21, ground := Ground.guard }], guard := some (21, true) }) (v := .bool true) rfl (by kernel_rfl) (by kernel_rfl) (by kernel_rfl) (fun _ _ _ h => h.elim) (Or.inl ⟨by rfl, ?y17⟩) hS3.out ?_
        case y17 =>
          intro V hV
          go_simp
        simp only [Act.put, List.setIfInBounds_toArray, List.set_cons_zero, List.set_cons_succ]
        refine wpAnyH_take (i := 25) (oi := { dst := some 116, op := Op.move (Operand.tmp 9), type := 25, pos := "law.go:94", after := #[{ on := 24, ground := Ground.guard }], guard := some (24, false) }) (v := undef) rfl (by kernel_rfl) (by kernel_rfl) (by kernel_rfl) (fun _ _ _ h => h.elim) (Or.inr ⟨by rfl, rfl⟩) hS3.out ?_
        simp only [Act.put, List.setIfInBounds_toArray, List.set_cons_zero, List.set_cons_succ]
        refine wpAnyH_take (i := 26) (oi := { dst := some 117, op := Op.call { callee := Callee.value (Operand.func 13), args := #[Operand.tmp 116], argTypes := #[25] }, type := 27, pos := "law.go:94", after := #[{ on := 25, ground := Ground.data }, { on := 24, ground := Ground.chain }, { on := 24, ground := Ground.guard }], guard := some (24, false) }) (v := undef) rfl (by kernel_rfl) (by kernel_rfl) (by kernel_rfl) (fun _ _ _ h => h.elim) (Or.inr ⟨by rfl, rfl⟩) hS3.out ?_
        simp only [Act.put, List.setIfInBounds_toArray, List.set_cons_zero, List.set_cons_succ]
        refine wpAnyH_take (i := 27) (oi := { dst := some 118, op := Op.move (Operand.tmp 0), type := 27, pos := "law.go:94", after := #[{ on := 24, ground := Ground.guard }], guard := some (24, false) }) (v := undef) rfl (by kernel_rfl) (by kernel_rfl) (by kernel_rfl) (fun _ _ _ h => h.elim) (Or.inr ⟨by rfl, rfl⟩) hS3.out ?_
        simp only [Act.put, List.setIfInBounds_toArray, List.set_cons_zero, List.set_cons_succ]
        refine wpAnyH_take (i := 28) (oi := { dst := some 119, op := Op.call { callee := Callee.value (Operand.func 18), args := #[Operand.tmp 117, Operand.tmp 118], argTypes := #[27, 27] }, type := 4, pos := "law.go:94", after := #[{ on := 26, ground := Ground.data }, { on := 27, ground := Ground.data }, { on := 26, ground := Ground.chain }, { on := 24, ground := Ground.guard }], guard := some (24, false) }) (v := undef) rfl (by kernel_rfl) (by kernel_rfl) (by kernel_rfl) (fun _ _ _ h => h.elim) (Or.inr ⟨by rfl, rfl⟩) hS3.out ?_
        simp only [Act.put, List.setIfInBounds_toArray, List.set_cons_zero, List.set_cons_succ]
        refine wpAnyH_take (i := 29) (oi := { dst := some 120, op := Op.pick (Operand.tmp 115) (Operand.const (Value.bool true)) (Operand.tmp 119), type := 4, pos := "law.go:94", after := #[{ on := 24, ground := Ground.data }, { on := 28, ground := Ground.data }, { on := 21, ground := Ground.guard }], guard := some (21, true) }) (v := .bool true) rfl (by kernel_rfl) (by kernel_rfl) (by kernel_rfl) (fun _ _ _ h => h.elim) (Or.inl ⟨by rfl, ?y18⟩) hS3.out ?_
        case y18 =>
          intro V hV
          go_simp
        simp only [Act.put, List.setIfInBounds_toArray, List.set_cons_zero, List.set_cons_succ]
        refine wpAnyH_take (i := 30) (oi := { dst := some 121, op := Op.pick (Operand.tmp 112) (Operand.tmp 120) (Operand.const (Value.bool false)), type := 4, pos := "law.go:94", after := #[{ on := 21, ground := Ground.data }, { on := 29, ground := Ground.data }], guard := none }) (v := .bool true) rfl (by kernel_rfl) (by kernel_rfl) (by kernel_rfl) (fun _ _ _ h => h.elim) (Or.inl ⟨by rfl, ?y19⟩) hS3.out ?_
        case y19 =>
          intro V hV
          go_simp
        simp only [Act.put, List.setIfInBounds_toArray, List.set_cons_zero, List.set_cons_succ]
        refine wpAnyH_take (i := 31) (oi := { dst := some 122, op := Op.move (Operand.tmp 121), type := 4, pos := "law.go:94", after := #[{ on := 30, ground := Ground.data }, { on := 28, ground := Ground.chain }], guard := none }) (v := .bool true) rfl (by kernel_rfl) (by kernel_rfl) (by kernel_rfl) (fun _ _ _ h => h.elim) (Or.inl ⟨by rfl, ?y20⟩) hS3.out ?_
        case y20 =>
          intro V hV
          go_simp
        simp only [Act.put, List.setIfInBounds_toArray, List.set_cons_zero, List.set_cons_succ]
        refine wpAnyH_ready (rs := [32]) (by kernel_rfl) (by simp) (AllReadyH.cons (i := 32) (o := { dst := some 123, op := Op.call { callee := Callee.value (Operand.func 10), args := #[], argTypes := #[] }, type := 4, pos := "law.go:94", after := #[{ on := 31, ground := Ground.chain }, { on := 31, ground := Ground.guard }], guard := some (31, true) }) rfl ?_ AllReadyH.nil)
        · intro K1 hK1
          rw [if_pos (by rfl)]
          have HC4 := H10.out V3 hS3.out
          go_wp2_with fail
          refine HC4.mono ?_
          rintro e V4 ⟨rfl, hb4⟩
          dsimp only
          clear HC4
          have hS4 : Hid (Below A.heap.size A V4) := hS3.out.trans (hb4.mono hS3.out.size)
          clear hb4
          refine hK1.out _ _ hS4.out ?_
          clear hK1
          intro _
          try simp only [Act.put, List.setIfInBounds_toArray, List.set_cons_zero, List.set_cons_succ]
          refine wpAnyH_take (i := 33) (oi := { dst := some 124, op := Op.pick (Operand.tmp 122) (Operand.tmp 123) (Operand.const (Value.bool false)), type := 4, pos := "law.go:94", after := #[{ on := 31, ground := Ground.data }, { on := 32, ground := Ground.data }], guard := none }) (v := .bool true) rfl (by kernel_rfl) (by kernel_rfl) (by kernel_rfl) (fun _ _ _ h => h.elim) (Or.inl ⟨by rfl, ?y21⟩) hS4.out ?_
          case y21 =>
            intro V hV
            go_simp
          simp only [Act.put, List.setIfInBounds_toArray, List.set_cons_zero, List.set_cons_succ]
          refine wpAnyH_take (i := 34) (oi := { dst := some 4, op := Op.assign (Operand.tmp 124), type := 4, pos := "law.go:94", after := #[{ on := 33, ground := Ground.data }, { on := 32, ground := Ground.chain }, { on := 0, ground := Ground.phase }, { on := 1, ground := Ground.phase }, { on := 2, ground := Ground.phase }, { on := 3, ground := Ground.phase }, { on := 4, ground := Ground.phase }, { on := 5, ground := Ground.phase }, { on := 6, ground := Ground.phase }, { on := 7, ground := Ground.phase }, { on := 8, ground := Ground.phase }, { on := 9, ground := Ground.phase }, { on := 10, ground := Ground.phase }, { on := 11, ground := Ground.phase }, { on := 12, ground := Ground.phase }, { on := 13, ground := Ground.phase }, { on := 14, ground := Ground.phase }, { on := 15, ground := Ground.phase }, { on := 16, ground := Ground.phase }, { on := 17, ground := Ground.phase }, { on := 18, ground := Ground.phase }, { on := 19, ground := Ground.phase }, { on := 20, ground := Ground.phase }, { on := 21, ground := Ground.phase }, { on := 22, ground := Ground.phase }, { on := 23, ground := Ground.phase }, { on := 24, ground := Ground.phase }, { on := 25, ground := Ground.phase }, { on := 26, ground := Ground.phase }, { on := 27, ground := Ground.phase }, { on := 28, ground := Ground.phase }, { on := 29, ground := Ground.phase }, { on := 30, ground := Ground.phase }, { on := 31, ground := Ground.phase }, { on := 32, ground := Ground.phase }, { on := 33, ground := Ground.phase }], guard := none }) (v := .bool true) rfl (by kernel_rfl) (by kernel_rfl) (by kernel_rfl) (fun _ _ _ h => h.elim) (Or.inl ⟨by rfl, ?y22⟩) hS4.out ?_
          case y22 =>
            intro V hV
            go_simp
          simp only [Act.put, List.setIfInBounds_toArray, List.set_cons_zero, List.set_cons_succ]
          refine wpAnyH_done (by kernel_rfl) ?_ _
          exact hQ V4 hS4.out
end Go.Proofs.YtmmpafaegmejlaaDoor.Oct

/- Layer 19 (audit): the law AuditVerifies. -/
namespace Go.Proofs.YtmmpafaegmejlaaDoor.Oct
open Go.RowKit Sha
set_option linter.unusedSimpArgs false
set_option linter.unusedVariables false

set_option maxRecDepth 100000 in
set_option maxHeartbeats 8000000 in
theorem verifies_law {w : World} {a : Option Addr} {n cap : Nat} {l : List En} {Dh : List UInt8} (h : EsR w (.slice a l.length cap) l) (hn : l.length = n) (hd : Dh.length = 32) (hk : KT w) (hs : ST w) : Calls Tryd.prog 4 #[.slice a n cap, .agg (U Dh).toArray] w fun e w' => e = .returned (.bool true) ∧ Below w.heap.size w w' := by
  have HE : Hid (EsR w (.slice a l.length cap) l ∧ l.length = n ∧ Dh.length = 32) := ⟨h, hn, hd⟩
  have HK : Hid (KT w ∧ ST w) := ⟨hk, hs⟩
  obtain ⟨hok, a', cap', heq, hle, hcap, hr⟩ := h
  cases heq
  have qn : (n : Int) ≤ 9223372036854775807 := by unfold maxLen at hcap; omega
  obtain ⟨C, hC⟩ : ∃ C, U Dh = C := ⟨_, rfl⟩
  obtain ⟨b, hb⟩ : ∃ b, w.heap.size = b := ⟨_, rfl⟩
  obtain ⟨A, hA⟩ : ∃ A, w.alloc (.cells C.toArray 35) = A := ⟨_, rfl⟩
  have hB : Below w.heap.size w A := by rw [← hA]; exact below_al _ _
  have hbA : Blk A b 35 (U Dh) := by rw [hC, ← hA, ← hb]; exact Blk.new w _ _
  have HB : Hid (Below w.heap.size w A ∧ Blk A b 35 (U Dh)) := ⟨hB, hbA⟩
  rw [hn] at hr
  have HRR : Hid (0 < n → ∃ b off, a = some ⟨b, off, none⟩ ∧ b < w.heap.size ∧ ∀ i e, l[i]? = some e → w.rangeAt b (off + i * 36) e.cells) := hr
  rw [hC]
  clear hok hle hcap hr hn hd hk hs hB hbA hC
  go_enter Tryd.func4, Tryd.ntmps4
  by_cases hbig : 200 < (n : Int)
  · go_wp2_with fail
    refine (lives_is A (HK.out.1.below HB.out.1) (HK.out.2.below HB.out.1)).mono ?_
    rintro e X2 ⟨rfl, hb2⟩
    have HF : Hid (Below w.heap.size w X2) := below_tr HB.out.1 hb2
    clear hb2 hb hA
    go_wp2
    go_ret
    exact ⟨rfl, HF.out⟩
  have qn2 : (n : Int) ≤ 200 := by omega
  clear hbig qn
  go_wp2
  clear hA hb
  go_loopw [17, 5] (fun u v wr => ∃ i t : Nat, u = iv (i : Int) ∧ v = iv (t : Int) ∧ t ≤ 100000 ∧ Hid (i ≤ n ∧ (∀ j e, j < i → l[j]? = some e → e.who.size + e.what.size ≤ t) ∧ Below A.heap.size A wr)) (fun u _ _ => n - (intOf u).toNat)
  case atStart => exact ⟨0, 0, rfl, rfl, by omega, Nat.zero_le _, fun j e hj => absurd hj (by omega), Below.refl _ _⟩
  case round =>
    obtain ⟨i, t, rfl, rfl, ht, HI⟩ := hrel
    by_cases hi : i = n
    · subst hi
      have HW : Hid (Below w.heap.size w wr ∧ KT wr ∧ ST wr ∧ (∀ e ∈ l, e.rz) ∧ (∀ e ∈ l, e.sz) ∧ Blk wr b 35 (U Dh) ∧ l.length ≤ 200 ∧ EsR wr (.slice a i cap) l) := by
        have hb := below_tr HB.out.1 HI.out.2.2
        have hall : ∀ e ∈ l, e.who.size + e.what.size ≤ 100000 := fun e he => by
          obtain ⟨j, hj, he2⟩ := List.mem_iff_getElem.1 he
          have := HI.out.2.1 j e (by have := HE.out.2.1; omega) (by rw [List.getElem?_eq_getElem hj, he2])
          omega
        refine ⟨hb, HK.out.1.below hb, HK.out.2.below hb, fun e he => by show _ ≤ _; have := hall e he; omega, fun e he => by show _ ≤ _; have := hall e he; omega, HB.out.2.below HI.out.2.2 HB.out.2.lt, by have := HE.out.2.1; omega, ?_⟩
        have := HE.out.1.below hb
        rw [HE.out.2.1] at this
        exact this
      obtain ⟨k, hkv⟩ := vf_some l
      have HKV : Hid (VfP l k ∧ Dh.length = 32 ∧ l.length = i) := ⟨hkv, HE.out.2.2, HE.out.2.1⟩
      clear hkv HI
      obtain ⟨W0, hW0⟩ : ∃ W0, W0 = wr := ⟨_, rfl⟩
      subst hW0
      go_wp2_with fail
      refine (refVerify_is HW.out.2.2.2.2.2.2.2 (by have := HW.out.2.2.2.2.2.2.1; omega) HW.out.2.2.2.1 k HKV.out.1).mono ?_
      rintro e W1 ⟨rfl, hb1⟩
      have H1 : Hid (Below W0.heap.size W0 W1) := hb1
      clear hb1
      go_wp2
      go_loopw [43] (fun u wq => ∃ j : Nat, u = iv (j : Int) ∧ Hid (j ≤ i ∧ Below W0.heap.size W0 wq)) (fun u _ => i - (intOf u).toNat)
      case atStart => exact ⟨0, rfl, Nat.zero_le _, H1.out⟩
      case round =>
        obtain ⟨j, rfl, HJ⟩ := hrel
        by_cases hj : j = i
        · subst hj
          have HX : Hid (Below W0.heap.size W0 wr) := HJ.out.2
          clear HJ
          go_wp2_with fail
          refine (fresh_is (HW.out.2.2.2.2.2.2.2.below HX.out) (by have := HW.out.2.2.2.2.2.2.1; omega)).mono ?_
          rintro e Y1 ⟨v1, rfl, ho1, hb1⟩
          have HY1 : Hid (EsR Y1 v1 l ∧ Below W0.heap.size W0 Y1) := ⟨ho1.out.esr, below_tr HX.out hb1⟩
          clear ho1 hb1
          go_wp2_with fail
          refine (load_is HY1.out.1 HW.out.2.2.2.2.1 (by have := HW.out.2.2.2.2.2.2.1; omega) (HW.out.2.1.below HY1.out.2) (HW.out.2.2.1.below HY1.out.2)).mono ?_
          intro e Y2 hld
          rcases hld with ⟨⟨p, hp1, hp2⟩, rfl, hb2⟩ | ⟨hall, L, c, v2, rfl, hlg, hb2⟩
          · have q0 : 0 ≤ k := by
              rcases HKV.out.1 with ⟨_, hh⟩ | ⟨p2, rfl, _⟩
              · exact absurd (hh p hp1) hp2
              · omega
            have HY2 : Hid (Below W0.heap.size W0 Y2 ∧ ¬ ∀ i, i < l.length → okAt l i) := ⟨below_tr HY1.out.2 hb2, fun h => hp2 (h p hp1)⟩
            clear hb2 hp1 hp2
            dsimp only
            go_wp2_with fail
            refine (fresh_is (HW.out.2.2.2.2.2.2.2.below HY2.out.1) (by have := HW.out.2.2.2.2.2.2.1; omega)).mono ?_
            rintro e Y3 ⟨v3, rfl, ho3, hb3⟩
            have HY3 : Hid (EsR Y3 v3 l ∧ Below W0.heap.size W0 Y3) := ⟨ho3.out.esr, below_tr HY2.out.1 hb3⟩
            clear ho3 hb3
            go_wp2_with fail
            refine (verify_k HKV.out.1 HY3.out.1 HW.out.2.2.2.2.1 (by have := HW.out.2.2.2.2.2.2.1; omega) (HW.out.2.1.below HY3.out.2) (HW.out.2.2.1.below HY3.out.2)).mono ?_
            rintro e Y4 ⟨rfl, hb4⟩
            have HY4 : Hid (Below W0.heap.size W0 Y4) := below_tr HY3.out.2 hb4
            clear hb4
            obtain ⟨D, hD⟩ : ∃ D, hdE l = D := ⟨_, rfl⟩
            have HD : Hid (hdE l = D ∧ D.length = 32) := ⟨hD, by rw [← hD]; exact hdE_len l⟩
            have HQ : Hid (∀ V, Below Y4.heap.size Y4 V → Below W0.heap.size W0 V ∧ EsR V (.slice a j cap) l ∧ KT V ∧ ST V) := fun V hV => by
              have hb := below_tr HY4.out hV
              exact ⟨hb, HW.out.2.2.2.2.2.2.2.below hb, HW.out.2.1.below hb, HW.out.2.2.1.below hb⟩
            have HBk : Hid (Blk Y4 b 35 (U Dh)) := HW.out.2.2.2.2.2.1.below HY4.out HW.out.2.2.2.2.2.1.lt
            have hll : l.length ≤ 1000000 := by have := HW.out.2.2.2.2.2.2.1; omega
            clear hD
            go_wp2_with fail
            refine vs21b (D := D) ⟨HBk.out.range0, HBk.out.lt⟩ HKV.out.2.1 (fun V hV => holds_is (HQ.out V hV).2.1 HW.out.2.2.2.2.1 hll (HQ.out V hV).2.2.1 (HQ.out V hV).2.2.2 HKV.out.2.1 false ⟨(fun h => nomatch h), fun h => absurd h.1 HY2.out.2⟩) (fun V hV => refHead_is (HQ.out V hV).2.1 hll HW.out.2.2.2.1 D HD.out.1) (fun V hV => holds_is (HQ.out V hV).2.1 HW.out.2.2.2.2.1 hll (HQ.out V hV).2.2.1 (HQ.out V hV).2.2.2 HD.out.2 false ⟨(fun h => nomatch h), fun h => absurd h.1 HY2.out.2⟩) (fun V hV => lives_is V (HQ.out V hV).2.2.1 (HQ.out V hV).2.2.2) q0 ?_
            intro V hV
            have HV : Hid (Below w.heap.size w V) := below_tr HW.out.1 (HQ.out V hV).1
            clear hV
            go_wp2
            go_ret
            exact ⟨rfl, HV.out⟩
          · have hk1 : k = -1 := HKV.out.1.one (vf_ok hall)
            subst hk1
            have HY2 : Hid (Below W0.heap.size W0 Y2 ∧ (∀ i, i < l.length → okAt l i)) := ⟨below_tr HY1.out.2 hb2, hall⟩
            have HLG : Hid (Lg Y2 Y1.heap.size L c v2 l) := hlg
            clear hb2 hlg hall
            dsimp only
            go_wp2_with fail
            refine (fresh_is (HW.out.2.2.2.2.2.2.2.below HY2.out.1) (by have := HW.out.2.2.2.2.2.2.1; omega)).mono ?_
            rintro e Y3 ⟨v3, rfl, ho3, hb3⟩
            have HY3 : Hid (EsR Y3 v3 l ∧ Below W0.heap.size W0 Y3 ∧ Lg Y3 Y1.heap.size L c v2 l) := ⟨ho3.out.esr, below_tr HY2.out.1 hb3, HLG.out.below hb3⟩
            clear ho3 hb3
            go_wp2_with fail
            refine (verify_k HKV.out.1 HY3.out.1 HW.out.2.2.2.2.1 (by have := HW.out.2.2.2.2.2.2.1; omega) (HW.out.2.1.below HY3.out.2.1) (HW.out.2.2.1.below HY3.out.2.1)).mono ?_
            rintro e Y4 ⟨rfl, hb4⟩
            have HY4 : Hid (Below W0.heap.size W0 Y4) := below_tr HY3.out.2.1 hb4
            have HL4 : Hid (Lg Y4 Y1.heap.size L c v2 l) := HY3.out.2.2.below hb4
            clear hb4
            obtain ⟨D, hD⟩ : ∃ D, hdE l = D := ⟨_, rfl⟩
            have HD : Hid (hdE l = D ∧ D.length = 32) := ⟨hD, by rw [← hD]; exact hdE_len l⟩
            have HQ : Hid (∀ V, Below Y4.heap.size Y4 V → Below W0.heap.size W0 V ∧ EsR V (.slice a j cap) l ∧ KT V ∧ ST V) := fun V hV => by
              have hb := below_tr HY4.out hV
              exact ⟨hb, HW.out.2.2.2.2.2.2.2.below hb, HW.out.2.1.below hb, HW.out.2.2.1.below hb⟩
            have HBk : Hid (Blk Y4 b 35 (U Dh)) := HW.out.2.2.2.2.2.1.below HY4.out HW.out.2.2.2.2.2.1.lt
            have hll : l.length ≤ 1000000 := by have := HW.out.2.2.2.2.2.2.1; omega
            clear hD
            go_wp2_with fail
            refine vs21a (l := l) (D := D) (E := decide (Dh = D)) ⟨HBk.out.range0, HBk.out.lt⟩ HKV.out.2.1 (fun V hV => holds_is (HQ.out V hV).2.1 HW.out.2.2.2.2.1 hll (HQ.out V hV).2.2.1 (HQ.out V hV).2.2.2 HKV.out.2.1 _ ⟨fun h => ⟨HY2.out.2, HD.out.1.trans (of_decide_eq_true h).symm⟩, fun h => decide_eq_true (h.2.symm.trans HD.out.1)⟩) (fun V hV => refHead_is (HQ.out V hV).2.1 hll HW.out.2.2.2.1 D HD.out.1) (fun V hV => holds_is (HQ.out V hV).2.1 HW.out.2.2.2.2.1 hll (HQ.out V hV).2.2.1 (HQ.out V hV).2.2.2 HD.out.2 true ⟨fun _ => ⟨HY2.out.2, HD.out.1⟩, fun _ => rfl⟩) (fun V hV => lives_is V (HQ.out V hV).2.2.1 (HQ.out V hV).2.2.2) (fun W => eqHb Dh D HKV.out.2.1 HD.out.2 W) (fun V hV => (entries_is (HL4.out.below hV)).mono (fun e V2 h => by obtain ⟨v', h1, h2, h3⟩ := h; exact ⟨v', h1, h2.out.esr, h3⟩)) (fun V v2 hV h => same_is h (HQ.out V hV).2.1 hll hll true ⟨fun _ => rfl, fun _ => rfl⟩) ?_
            intro V ve hV
            have HV : Hid (Below w.heap.size w V) := below_tr HW.out.1 (HQ.out V hV).1
            clear hV
            go_wp2
            go_ret
            exact ⟨rfl, HV.out⟩
        · have q2 : j < i := by have := HJ.out.1; omega
          have q1 : (j : Int) < (i : Int) := by omega
          obtain ⟨x, hx⟩ : ∃ x, l[j]? = some x := ⟨_, List.getElem?_eq_getElem (by have := HKV.out.2.2; omega)⟩
          obtain ⟨s, off, rfl, hs1, hs2⟩ := HRR.out (by omega)
          have hxm := List.mem_of_getElem? hx
          have hbw := below_tr HW.out.1 HJ.out.2
          obtain ⟨D, hD⟩ : ∃ D, dgE x = D := ⟨_, rfl⟩
          have HD : Hid (dgE x = D ∧ D.length = 32) := ⟨hD, by rw [← hD]; exact dgE_len x⟩
          have HXX : Hid (x.ok ∧ x.rz ∧ x.sz ∧ j < i) := ⟨HE.out.1.1 x hxm, HW.out.2.2.2.1 x hxm, HW.out.2.2.2.2.1 x hxm, q2⟩
          have HR : Hid (wr.rangeAt s (off + j * 36) x.cells ∧ s < wr.heap.size) := ⟨rangeAt_same (hs2 j x hx) (hbw.block s hs1), Nat.lt_of_lt_of_le hs1 hbw.size⟩
          clear hj hx hs1 hs2 hxm hbw hD
          go_wp2_with fail
          refine vs15 (D := D) HXX.out.1 HR (fun V hV => digest_is x HXX.out.1 HXX.out.2.2.1 D HD.out.1 V (HW.out.2.1.below (below_tr HJ.out.2 hV)) (HW.out.2.2.1.below (below_tr HJ.out.2 hV))) (fun V hV => refDigest_is x HXX.out.1 HXX.out.2.1 D HD.out.1 V) (fun W => by rw [neHb D D HD.out.2 HD.out.2 W, decide_eq_true rfl]; rfl) q1 q2 ?_
          intro V hV
          have HF : Hid (j + 1 ≤ i ∧ Below W0.heap.size W0 V) := ⟨HXX.out.2.2.2, below_tr HJ.out.2 hV⟩
          clear hV
          go_wp2
          go_roundw
          case rel => exact ⟨j + 1, rfl, HF.out⟩
          case measure => show i - (j + 1) < i - j; have := HXX.out.2.2.2; omega
    · have q2 : i < n := by have := HI.out.1; omega
      have q1 : (i : Int) < (n : Int) := by omega
      obtain ⟨x, hx⟩ : ∃ x, l[i]? = some x := ⟨_, List.getElem?_eq_getElem (by have := HE.out.2.1; omega)⟩
      obtain ⟨s, off, rfl, hs1, hs2⟩ := HRR.out (by omega)
      have hxo := HE.out.1.1 x (List.mem_of_getElem? hx)
      have hbw := below_tr HB.out.1 HI.out.2.2
      have HS : Hid (s < wr.heap.size) := Nat.lt_of_lt_of_le hs1 hbw.size
      have k2 : wr.cell? ⟨s, off + i * 36 + 2, none⟩ = some (.string x.who) := (hbw.cell (p := ⟨s, off + i * 36 + 2, none⟩) hs1).trans (hs2 i x hx 2 (.string x.who) rfl)
      have k3 : wr.cell? ⟨s, off + i * 36 + 3, none⟩ = some (.string x.what) := (hbw.cell (p := ⟨s, off + i * 36 + 3, none⟩) hs1).trans (hs2 i x hx 3 (.string x.what) rfl)
      have qw : (x.who.size : Int) ≤ 140737488355328 := by have := hxo.2.2.2.1; omega
      have qa : (x.what.size : Int) ≤ 140737488355328 := by have := hxo.2.2.2.2; omega
      have qt : (t : Int) ≤ 100000 := by omega
      have HX : Hid (l[i]? = some x ∧ i < n) := ⟨hx, q2⟩
      clear hi hx hs1 hs2 hxo hbw
      go_wp2_with fail
      refine vs7 HS k2 k3 q1 q2 qw qa qt ?_
      intro V hV
      have HV : Hid (Below A.heap.size A V) := below_tr HI.out.2.2 hV
      clear hV k2 k3
      by_cases hb : t + (x.who.size + x.what.size) ≤ 100000
      · have q3 : (t : Int) + ((x.who.size : Int) + (x.what.size : Int)) ≤ 100000 := by omega
        have HF : Hid (i + 1 ≤ n ∧ (∀ j e, j < i + 1 → l[j]? = some e → e.who.size + e.what.size ≤ t + (x.who.size + x.what.size)) ∧ Below A.heap.size A V) := by
          refine ⟨HX.out.2, fun j e hj he => ?_, HV.out⟩
          by_cases ej : j = i
          · subst ej
            rw [HX.out.1] at he
            cases he
            omega
          · have := HI.out.2.1 j e (by omega) he; omega
        go_wp2
        go_roundw
        case rel => exact ⟨i + 1, t + (x.who.size + x.what.size), by simp, by simp, hb, HF.out⟩
        case measure =>
          have := HX.out.2
          simp only [intOf]
          omega
      · have q3 : 100000 < (t : Int) + ((x.who.size : Int) + (x.what.size : Int)) := by omega
        clear hb
        go_wp2_with fail
        refine (lives_is V (HK.out.1.below (below_tr HB.out.1 HV.out)) (HK.out.2.below (below_tr HB.out.1 HV.out))).mono ?_
        rintro e X2 ⟨rfl, hb2⟩
        have HF : Hid (Below w.heap.size w X2) := below_tr (below_tr HB.out.1 HV.out) hb2
        clear hb2
        go_wp2
        go_ret
        exact ⟨rfl, HF.out⟩
end Go.Proofs.YtmmpafaegmejlaaDoor.Oct

/- Layer 19 (audit): a digest among the arguments. -/
namespace Go.Proofs.YtmmpafaegmejlaaDoor.Oct
open Go.RowKit Sha
set_option linter.unusedSimpArgs false
set_option linter.unusedVariables false

theorem arr35 : Go.WideMaps.ArrKey Tryd.prog 35 5 32 := ⟨Tryd.underlying35, by kernel_rfl, by kernel_rfl, by kernel_rfl⟩
end Go.Proofs.YtmmpafaegmejlaaDoor.Oct
