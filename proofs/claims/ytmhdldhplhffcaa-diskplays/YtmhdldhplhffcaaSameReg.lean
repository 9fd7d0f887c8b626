/-
  Layer 5 (disk): same: its drawn statements, whatever their order.
-/
import Derived.Test.YtmhdldhplhffcaaRefNew
namespace Go.Proofs.Ytmhdldhplhffcaa.Oct
open Go.RowKit Go.Lib
set_option linter.unusedSimpArgs false

theorem sectors_tell {w : World} {S : Nat → Prop} {d : Nat} {D : Disk} (h : Dk w S d D) : Calls Try.prog 25 #[.pointer (some ⟨d, 0, none⟩)] w fun e w' => e = .returned (.int .i64 (D.n : Int)) ∧ Hid (Below w.heap.size w w') :=
  (sectors_dk h).mono fun e w' ⟨he, hw⟩ => ⟨he, by subst hw; exact Below.refl _ _⟩
theorem down_tell {w : World} {S : Nat → Prop} {d : Nat} {D : Disk} (h : Dk w S d D) : Calls Try.prog 22 #[.pointer (some ⟨d, 0, none⟩)] w fun e w' => e = .returned (.bool D.down) ∧ Hid (Below w.heap.size w w') :=
  (down_dk h).mono fun e w' ⟨he, hw⟩ => ⟨he, by subst hw; exact Below.refl _ _⟩
theorem ops_tell {w : World} {S : Nat → Prop} {d : Nat} {D : Disk} (h : Dk w S d D) : Calls Try.prog 26 #[.pointer (some ⟨d, 0, none⟩)] w fun e w' => e = .returned (.int .i64 (D.ops : Int)) ∧ Hid (Below w.heap.size w w') :=
  (ops_dk h).mono fun e w' ⟨he, hw⟩ => ⟨he, by subst hw; exact Below.refl _ _⟩
set_option maxRecDepth 100000 in
set_option maxHeartbeats 2000000 in
theorem same_region {Q : Exit → Act → World → Prop} {x2 x3 x4 x7 x8 x9 x10 x11 x12 x13 x14 x15 x16 x17 x18 x19 x20 x21 x22 x23 x24 x25 x26 x27 x28 x29 x30 x31 x32 x33 x34 x35 x36 x37 x38 x39 x40 x41 x42 x43 x44 x45 x46 x47 x48 x49 x50 x51 x52 x53 x54 x55 x56 x57 x58 x59 x60 x61 x62 x63 x64 x65 x66 x67 x68 x69 x70 x71 x72 x73 x74 x75 x76 x77 x78 x79 x80 x81 x82 x83 x84 x85 x86 x87 x88 x89 x90 x91 x92 x93 x94 x95 x96 x97 x98 x99 x100 x101 x102 x103 x104 x105 x106 x107 x108 x109 x110 x111 x112 x113 x114 x115 : Value} {ds : List Deferred} {A : World} {d r g c cp c5 c6 : Nat} {a a5 a6 : Option Addr} {D : Disk} {S : Nat → Prop}
    (HD : Hid (Dk A S d D)) (HR : Hid (RAt A r (.slice (some ⟨g, 0, none⟩) D.n c) (.slice a D.pend.length cp) D))
    (hQ : ∀ (V : World), Below A.heap.size A V → Q .normal { tmps := #[.pointer (some ⟨d, 0, none⟩), .pointer (some ⟨r, 0, none⟩), x2, x3, x4, .slice a5 D.pend.length c5, .slice a6 D.n c6, x7, x8, x9, x10, x11, x12, x13, .pointer (some ⟨d, 0, none⟩), .int .i64 (D.n : Int), .pointer (some ⟨r, 0, none⟩), .pointer (some ⟨r, 0, none⟩), .pointer (some ⟨r, 0, none⟩), .slice (some ⟨g, 0, none⟩) D.n c, .int .i64 (D.n : Int), .bool false, .bool false, .pointer (some ⟨d, 0, none⟩), .bool D.down, .pointer (some ⟨r, 0, none⟩), .pointer (some ⟨r, 0, none⟩), .pointer (some ⟨r, 2, none⟩), .bool D.down, .bool false, .bool false, .bool false, .pointer (some ⟨d, 0, none⟩), .int .i64 (D.ops : Int), .pointer (some ⟨r, 0, none⟩), .pointer (some ⟨r, 0, none⟩), .pointer (some ⟨r, 5, none⟩), .int .i64 (D.ops : Int), .bool false, .bool false, .bool false, .slice a5 D.pend.length c5, .int .i64 (D.pend.length : Int), .pointer (some ⟨r, 0, none⟩), .pointer (some ⟨r, 0, none⟩), .pointer (some ⟨r, 1, none⟩), .slice a D.pend.length cp, .int .i64 (D.pend.length : Int), .bool false, .bool false, .bool false, .slice a6 D.n c6, .int .i64 (D.n : Int), .pointer (some ⟨r, 0, none⟩), .pointer (some ⟨r, 0, none⟩), .pointer (some ⟨r, 0, none⟩), .slice (some ⟨g, 0, none⟩) D.n c, .int .i64 (D.n : Int), .bool false, .bool false, x60, x61, x62, x63, x64, x65, x66, x67, x68, x69, x70, x71, x72, x73, x74, x75, x76, x77, x78, x79, x80, x81, x82, x83, x84, x85, x86, x87, x88, x89, x90, x91, x92, x93, x94, x95, x96, x97, x98, x99, x100, x101, x102, x103, x104, x105, x106, x107, x108, x109, x110, x111, x112, x113, x114, x115], defers := ds } V) :
    (Code.region 2 #[{ dst := some 14, op := Op.move (Operand.tmp 0), type := 23, pos := "law.go:46", after := #[], guard := none }, { dst := some 15, op := Op.call { callee := Callee.value (Operand.func 25), args := #[Operand.tmp 14], argTypes := #[23] }, type := 3, pos := "law.go:46", after := #[{ on := 0, ground := Ground.data }], guard := none }, { dst := some 16, op := Op.move (Operand.tmp 1), type := 27, pos := "law.go:46", after := #[], guard := none }, { dst := some 17, op := Op.nilCheck (Operand.tmp 16), type := 0, pos := "law.go:46", after := #[{ on := 2, ground := Ground.data }], guard := none }, { dst := some 18, op := Op.fieldAddr 68 (Operand.tmp 17) 0, type := 0, pos := "law.go:46", after := #[{ on := 3, ground := Ground.data }], guard := none }, { dst := some 19, op := Op.load 65 (Operand.tmp 18), type := 65, pos := "law.go:46", after := #[{ on := 4, ground := Ground.data }], guard := none }, { dst := some 20, op := Op.call { callee := Callee.builtin Builtin.len, args := #[Operand.tmp 19], argTypes := #[65] }, type := 3, pos := "law.go:46", after := #[{ on := 5, ground := Ground.data }], guard := none }, { dst := some 21, op := Op.binOp BinOp.neq 3 (Operand.tmp 15) (Operand.tmp 20) 3, type := 4, pos := "law.go:46", after := #[{ on := 1, ground := Ground.data }, { on := 6, ground := Ground.data }], guard := none }, { dst := some 22, op := Op.move (Operand.tmp 21), type := 4, pos := "law.go:46", after := #[{ on := 7, ground := Ground.data }, { on := 1, ground := Ground.chain }], guard := none }, { dst := some 23, op := Op.move (Operand.tmp 0), type := 23, pos := "law.go:46", after := #[{ on := 8, ground := Ground.guard }], guard := some (8, false) }, { dst := some 24, op := Op.call { callee := Callee.value (Operand.func 22), args := #[Operand.tmp 23], argTypes := #[23] }, type := 4, pos := "law.go:46", after := #[{ on := 9, ground := Ground.data }, { on := 8, ground := Ground.chain }, { on := 8, ground := Ground.guard }], guard := some (8, false) }, { dst := some 25, op := Op.move (Operand.tmp 1), type := 27, pos := "law.go:46", after := #[{ on := 8, ground := Ground.guard }], guard := some (8, false) }, { dst := some 26, op := Op.nilCheck (Operand.tmp 25), type := 0, pos := "law.go:46", after := #[{ on := 11, ground := Ground.data }, { on := 8, ground := Ground.guard }], guard := some (8, false) }, { dst := some 27, op := Op.fieldAddr 68 (Operand.tmp 26) 2, type := 0, pos := "law.go:46", after := #[{ on := 12, ground := Ground.data }, { on := 8, ground := Ground.guard }], guard := some (8, false) }, { dst := some 28, op := Op.load 4 (Operand.tmp 27), type := 4, pos := "law.go:46", after := #[{ on := 13, ground := Ground.data }, { on := 8, ground := Ground.guard }], guard := some (8, false) }, { dst := some 29, op := Op.binOp BinOp.neq 4 (Operand.tmp 24) (Operand.tmp 28) 4, type := 4, pos := "law.go:46", after := #[{ on := 10, ground := Ground.data }, { on := 14, ground := Ground.data }, { on := 8, ground := Ground.guard }], guard := some (8, false) }, { dst := some 30, op := Op.pick (Operand.tmp 22) (Operand.const (Value.bool true)) (Operand.tmp 29), type := 4, pos := "law.go:46", after := #[{ on := 8, ground := Ground.data }, { on := 15, ground := Ground.data }], guard := none }, { dst := some 31, op := Op.move (Operand.tmp 30), type := 4, pos := "law.go:46", after := #[{ on := 16, ground := Ground.data }, { on := 10, ground := Ground.chain }], guard := none }, { dst := some 32, op := Op.move (Operand.tmp 0), type := 23, pos := "law.go:46", after := #[{ on := 17, ground := Ground.guard }], guard := some (17, false) }, { dst := some 33, op := Op.call { callee := Callee.value (Operand.func 26), args := #[Operand.tmp 32], argTypes := #[23] }, type := 3, pos := "law.go:46", after := #[{ on := 18, ground := Ground.data }, { on := 17, ground := Ground.chain }, { on := 17, ground := Ground.guard }], guard := some (17, false) }, { dst := some 34, op := Op.move (Operand.tmp 1), type := 27, pos := "law.go:46", after := #[{ on := 17, ground := Ground.guard }], guard := some (17, false) }, { dst := some 35, op := Op.nilCheck (Operand.tmp 34), type := 0, pos := "law.go:46", after := #[{ on := 20, ground := Ground.data }, { on := 17, ground := Ground.guard }], guard := some (17, false) }, { dst := some 36, op := Op.fieldAddr 68 (Operand.tmp 35) 5, type := 0, pos := "law.go:46", after := #[{ on := 21, ground := Ground.data }, { on := 17, ground := Ground.guard }], guard := some (17, false) }, { dst := some 37, op := Op.load 3 (Operand.tmp 36), type := 3, pos := "law.go:46", after := #[{ on := 22, ground := Ground.data }, { on := 17, ground := Ground.guard }], guard := some (17, false) }, { dst := some 38, op := Op.binOp BinOp.neq 3 (Operand.tmp 33) (Operand.tmp 37) 3, type := 4, pos := "law.go:46", after := #[{ on := 19, ground := Ground.data }, { on := 23, ground := Ground.data }, { on := 17, ground := Ground.guard }], guard := some (17, false) }, { dst := some 39, op := Op.pick (Operand.tmp 31) (Operand.const (Value.bool true)) (Operand.tmp 38), type := 4, pos := "law.go:46", after := #[{ on := 17, ground := Ground.data }, { on := 24, ground := Ground.data }], guard := none }, { dst := some 40, op := Op.move (Operand.tmp 39), type := 4, pos := "law.go:46", after := #[{ on := 25, ground := Ground.data }, { on := 19, ground := Ground.chain }], guard := none }, { dst := some 41, op := Op.move (Operand.tmp 5), type := 31, pos := "law.go:46", after := #[{ on := 26, ground := Ground.guard }], guard := some (26, false) }, { dst := some 42, op := Op.call { callee := Callee.builtin Builtin.len, args := #[Operand.tmp 41], argTypes := #[31] }, type := 3, pos := "law.go:46", after := #[{ on := 27, ground := Ground.data }, { on := 26, ground := Ground.guard }], guard := some (26, false) }, { dst := some 43, op := Op.move (Operand.tmp 1), type := 27, pos := "law.go:46", after := #[{ on := 26, ground := Ground.guard }], guard := some (26, false) }, { dst := some 44, op := Op.nilCheck (Operand.tmp 43), type := 0, pos := "law.go:46", after := #[{ on := 29, ground := Ground.data }, { on := 26, ground := Ground.guard }], guard := some (26, false) }, { dst := some 45, op := Op.fieldAddr 68 (Operand.tmp 44) 1, type := 0, pos := "law.go:46", after := #[{ on := 30, ground := Ground.data }, { on := 26, ground := Ground.guard }], guard := some (26, false) }, { dst := some 46, op := Op.load 66 (Operand.tmp 45), type := 66, pos := "law.go:46", after := #[{ on := 31, ground := Ground.data }, { on := 26, ground := Ground.guard }], guard := some (26, false) }, { dst := some 47, op := Op.call { callee := Callee.builtin Builtin.len, args := #[Operand.tmp 46], argTypes := #[66] }, type := 3, pos := "law.go:46", after := #[{ on := 32, ground := Ground.data }, { on := 26, ground := Ground.guard }], guard := some (26, false) }, { dst := some 48, op := Op.binOp BinOp.neq 3 (Operand.tmp 42) (Operand.tmp 47) 3, type := 4, pos := "law.go:46", after := #[{ on := 28, ground := Ground.data }, { on := 33, ground := Ground.data }, { on := 26, ground := Ground.guard }], guard := some (26, false) }, { dst := some 49, op := Op.pick (Operand.tmp 40) (Operand.const (Value.bool true)) (Operand.tmp 48), type := 4, pos := "law.go:46", after := #[{ on := 26, ground := Ground.data }, { on := 34, ground := Ground.data }], guard := none }, { dst := some 50, op := Op.move (Operand.tmp 49), type := 4, pos := "law.go:46", after := #[{ on := 35, ground := Ground.data }, { on := 26, ground := Ground.chain }], guard := none }, { dst := some 51, op := Op.move (Operand.tmp 6), type := 44, pos := "law.go:46", after := #[{ on := 36, ground := Ground.guard }], guard := some (36, false) }, { dst := some 52, op := Op.call { callee := Callee.builtin Builtin.len, args := #[Operand.tmp 51], argTypes := #[44] }, type := 3, pos := "law.go:46", after := #[{ on := 37, ground := Ground.data }, { on := 36, ground := Ground.guard }], guard := some (36, false) }, { dst := some 53, op := Op.move (Operand.tmp 1), type := 27, pos := "law.go:46", after := #[{ on := 36, ground := Ground.guard }], guard := some (36, false) }, { dst := some 54, op := Op.nilCheck (Operand.tmp 53), type := 0, pos := "law.go:46", after := #[{ on := 39, ground := Ground.data }, { on := 36, ground := Ground.guard }], guard := some (36, false) }, { dst := some 55, op := Op.fieldAddr 68 (Operand.tmp 54) 0, type := 0, pos := "law.go:46", after := #[{ on := 40, ground := Ground.data }, { on := 36, ground := Ground.guard }], guard := some (36, false) }, { dst := some 56, op := Op.load 65 (Operand.tmp 55), type := 65, pos := "law.go:46", after := #[{ on := 41, ground := Ground.data }, { on := 36, ground := Ground.guard }], guard := some (36, false) }, { dst := some 57, op := Op.call { callee := Callee.builtin Builtin.len, args := #[Operand.tmp 56], argTypes := #[65] }, type := 3, pos := "law.go:46", after := #[{ on := 42, ground := Ground.data }, { on := 36, ground := Ground.guard }], guard := some (36, false) }, { dst := some 58, op := Op.binOp BinOp.neq 3 (Operand.tmp 52) (Operand.tmp 57) 3, type := 4, pos := "law.go:46", after := #[{ on := 38, ground := Ground.data }, { on := 43, ground := Ground.data }, { on := 36, ground := Ground.guard }], guard := some (36, false) }, { dst := some 59, op := Op.pick (Operand.tmp 50) (Operand.const (Value.bool true)) (Operand.tmp 58), type := 4, pos := "law.go:46", after := #[{ on := 36, ground := Ground.data }, { on := 44, ground := Ground.data }], guard := none }] true).wp Try.prog Q { tmps := #[.pointer (some ⟨d, 0, none⟩), .pointer (some ⟨r, 0, none⟩), x2, x3, x4, .slice a5 D.pend.length c5, .slice a6 D.n c6, x7, x8, x9, x10, x11, x12, x13, x14, x15, x16, x17, x18, x19, x20, x21, x22, x23, x24, x25, x26, x27, x28, x29, x30, x31, x32, x33, x34, x35, x36, x37, x38, x39, x40, x41, x42, x43, x44, x45, x46, x47, x48, x49, x50, x51, x52, x53, x54, x55, x56, x57, x58, x59, x60, x61, x62, x63, x64, x65, x66, x67, x68, x69, x70, x71, x72, x73, x74, x75, x76, x77, x78, x79, x80, x81, x82, x83, x84, x85, x86, x87, x88, x89, x90, x91, x92, x93, x94, x95, x96, x97, x98, x99, x100, x101, x102, x103, x104, x105, x106, x107, x108, x109, x110, x111, x112, x113, x114, x115], defers := ds } A := by
  refine Code.wp_mono (Q := fun x a' w' => match x with | .normal => Q .normal a' w' | _ => False) (by intro x a' w' h; cases x <;> first | exact h | exact h.elim) ?_
  refine wp_region_held (S := fun V => Below A.heap.size A V) (by kernel_rfl) ?_
  have hS0 : Hid (Below A.heap.size A A.drew) := below_drew A
  change wpAnyH Try.prog .any _ _ (fun V => Below A.heap.size A V) 46 (Array.replicate 46 false) _ A.drew
  refine wpAnyH_take (i := 0) (oi := { dst := some 14, op := Op.move (Operand.tmp 0), type := 23, pos := "law.go:46", after := #[], guard := none }) (v := .pointer (some ⟨d, 0, none⟩)) rfl (by kernel_rfl) (by kernel_rfl) (by kernel_rfl) (fun _ _ _ h => h.elim) (Or.inl ⟨by rfl, ?y0⟩) hS0.out ?_
  case y0 =>
    intro V hV
    go_simp
  simp only [Act.put, List.setIfInBounds_toArray, List.set_cons_zero, List.set_cons_succ]
  refine wpAnyH_take (i := 2) (oi := { dst := some 16, op := Op.move (Operand.tmp 1), type := 27, pos := "law.go:46", after := #[], guard := none }) (v := .pointer (some ⟨r, 0, none⟩)) rfl (by kernel_rfl) (by kernel_rfl) (by kernel_rfl) (fun _ _ _ h => h.elim) (Or.inl ⟨by rfl, ?y2⟩) hS0.out ?_
  case y2 =>
    intro V hV
    go_simp
  simp only [Act.put, List.setIfInBounds_toArray, List.set_cons_zero, List.set_cons_succ]
  refine wpAnyH_take (i := 3) (oi := { dst := some 17, op := Op.nilCheck (Operand.tmp 16), type := 0, pos := "law.go:46", after := #[{ on := 2, ground := Ground.data }], guard := none }) (v := .pointer (some ⟨r, 0, none⟩)) rfl (by kernel_rfl) (by kernel_rfl) (by kernel_rfl) (fun _ _ _ h => h.elim) (Or.inl ⟨by rfl, ?y3⟩) hS0.out ?_
  case y3 =>
    intro V hV
    go_simp
  simp only [Act.put, List.setIfInBounds_toArray, List.set_cons_zero, List.set_cons_succ]
  refine wpAnyH_take (i := 4) (oi := { dst := some 18, op := Op.fieldAddr 68 (Operand.tmp 17) 0, type := 0, pos := "law.go:46", after := #[{ on := 3, ground := Ground.data }], guard := none }) (v := .pointer (some ⟨r, 0, none⟩)) rfl (by kernel_rfl) (by kernel_rfl) (by kernel_rfl) (fun _ _ _ h => h.elim) (Or.inl ⟨by rfl, ?y4⟩) hS0.out ?_
  case y4 =>
    intro V hV
    go_simp
  simp only [Act.put, List.setIfInBounds_toArray, List.set_cons_zero, List.set_cons_succ]
  refine wpAnyH_take (i := 5) (oi := { dst := some 19, op := Op.load 65 (Operand.tmp 18), type := 65, pos := "law.go:46", after := #[{ on := 4, ground := Ground.data }], guard := none }) (v := .slice (some ⟨g, 0, none⟩) D.n c) rfl (by kernel_rfl) (by kernel_rfl) (by kernel_rfl) (fun _ _ _ h => h.elim) (Or.inl ⟨by rfl, ?y5⟩) hS0.out ?_
  case y5 =>
    intro V hV
    have q : V.cell? ⟨r, 0, none⟩ = some (.slice (some ⟨g, 0, none⟩) D.n c) := ((show Below A.heap.size A V from hV).cell (p := ⟨r, _, none⟩) HR.out.blk.lt).trans HR.out.c0
    go_simp
  simp only [Act.put, List.setIfInBounds_toArray, List.set_cons_zero, List.set_cons_succ]
  refine wpAnyH_take (i := 6) (oi := { dst := some 20, op := Op.call { callee := Callee.builtin Builtin.len, args := #[Operand.tmp 19], argTypes := #[65] }, type := 3, pos := "law.go:46", after := #[{ on := 5, ground := Ground.data }], guard := none }) (v := .int .i64 (D.n : Int)) rfl (by kernel_rfl) (by kernel_rfl) (by kernel_rfl) (fun _ _ _ h => h.elim) (Or.inl ⟨by rfl, ?y6⟩) hS0.out ?_
  case y6 =>
    intro V hV
    go_simp
  simp only [Act.put, List.setIfInBounds_toArray, List.set_cons_zero, List.set_cons_succ]
  refine wpAnyH_ready (rs := [1]) (by kernel_rfl) (by simp) (AllReadyH.cons (i := 1) (o := { dst := some 15, op := Op.call { callee := Callee.value (Operand.func 25), args := #[Operand.tmp 14], argTypes := #[23] }, type := 3, pos := "law.go:46", after := #[{ on := 0, ground := Ground.data }], guard := none }) rfl ?_ AllReadyH.nil)
  intro K1 hK1
  rw [if_pos (by rfl)]
  have HC1 := sectors_tell (HD.out.below hS0.out)
  go_wp2_with fail
  refine HC1.mono ?_
  rintro e V1 ⟨rfl, HB1⟩
  dsimp only
  clear HC1
  have hS1 : Hid (Below A.heap.size A V1) := hS0.out.trans (HB1.out.mono hS0.out.size)
  refine hK1.out _ _ hS1.out ?_
  clear hK1
  intro _
  try simp only [Act.put, List.setIfInBounds_toArray, List.set_cons_zero, List.set_cons_succ]
  refine wpAnyH_take (i := 7) (oi := { dst := some 21, op := Op.binOp BinOp.neq 3 (Operand.tmp 15) (Operand.tmp 20) 3, type := 4, pos := "law.go:46", after := #[{ on := 1, ground := Ground.data }, { on := 6, ground := Ground.data }], guard := none }) (v := .bool false) rfl (by kernel_rfl) (by kernel_rfl) (by kernel_rfl) (fun _ _ _ h => h.elim) (Or.inl ⟨by rfl, ?y7⟩) hS1.out ?_
  case y7 =>
    intro V hV
    go_simp
  simp only [Act.put, List.setIfInBounds_toArray, List.set_cons_zero, List.set_cons_succ]
  refine wpAnyH_take (i := 8) (oi := { dst := some 22, op := Op.move (Operand.tmp 21), type := 4, pos := "law.go:46", after := #[{ on := 7, ground := Ground.data }, { on := 1, ground := Ground.chain }], guard := none }) (v := .bool false) rfl (by kernel_rfl) (by kernel_rfl) (by kernel_rfl) (fun _ _ _ h => h.elim) (Or.inl ⟨by rfl, ?y8⟩) hS1.out ?_
  case y8 =>
    intro V hV
    go_simp
  simp only [Act.put, List.setIfInBounds_toArray, List.set_cons_zero, List.set_cons_succ]
  refine wpAnyH_take (i := 9) (oi := { dst := some 23, op := Op.move (Operand.tmp 0), type := 23, pos := "law.go:46", after := #[{ on := 8, ground := Ground.guard }], guard := some (8, false) }) (v := .pointer (some ⟨d, 0, none⟩)) rfl (by kernel_rfl) (by kernel_rfl) (by kernel_rfl) (fun _ _ _ h => h.elim) (Or.inl ⟨by rfl, ?y9⟩) hS1.out ?_
  case y9 =>
    intro V hV
    go_simp
  simp only [Act.put, List.setIfInBounds_toArray, List.set_cons_zero, List.set_cons_succ]
  refine wpAnyH_take (i := 11) (oi := { dst := some 25, op := Op.move (Operand.tmp 1), type := 27, pos := "law.go:46", after := #[{ on := 8, ground := Ground.guard }], guard := some (8, false) }) (v := .pointer (some ⟨r, 0, none⟩)) rfl (by kernel_rfl) (by kernel_rfl) (by kernel_rfl) (fun _ _ _ h => h.elim) (Or.inl ⟨by rfl, ?y11⟩) hS1.out ?_
  case y11 =>
    intro V hV
    go_simp
  simp only [Act.put, List.setIfInBounds_toArray, List.set_cons_zero, List.set_cons_succ]
  refine wpAnyH_take (i := 12) (oi := { dst := some 26, op := Op.nilCheck (Operand.tmp 25), type := 0, pos := "law.go:46", after := #[{ on := 11, ground := Ground.data }, { on := 8, ground := Ground.guard }], guard := some (8, false) }) (v := .pointer (some ⟨r, 0, none⟩)) rfl (by kernel_rfl) (by kernel_rfl) (by kernel_rfl) (fun _ _ _ h => h.elim) (Or.inl ⟨by rfl, ?y12⟩) hS1.out ?_
  case y12 =>
    intro V hV
    go_simp
  simp only [Act.put, List.setIfInBounds_toArray, List.set_cons_zero, List.set_cons_succ]
  refine wpAnyH_take (i := 13) (oi := { dst := some 27, op := Op.fieldAddr 68 (Operand.tmp 26) 2, type := 0, pos := "law.go:46", after := #[{ on := 12, ground := Ground.data }, { on := 8, ground := Ground.guard }], guard := some (8, false) }) (v := .pointer (some ⟨r, 2, none⟩)) rfl (by kernel_rfl) (by kernel_rfl) (by kernel_rfl) (fun _ _ _ h => h.elim) (Or.inl ⟨by rfl, ?y13⟩) hS1.out ?_
  case y13 =>
    intro V hV
    go_simp
  simp only [Act.put, List.setIfInBounds_toArray, List.set_cons_zero, List.set_cons_succ]
  refine wpAnyH_take (i := 14) (oi := { dst := some 28, op := Op.load 4 (Operand.tmp 27), type := 4, pos := "law.go:46", after := #[{ on := 13, ground := Ground.data }, { on := 8, ground := Ground.guard }], guard := some (8, false) }) (v := .bool D.down) rfl (by kernel_rfl) (by kernel_rfl) (by kernel_rfl) (fun _ _ _ h => h.elim) (Or.inl ⟨by rfl, ?y14⟩) hS1.out ?_
  case y14 =>
    intro V hV
    have q : V.cell? ⟨r, 2, none⟩ = some (.bool D.down) := ((show Below A.heap.size A V from hV).cell (p := ⟨r, _, none⟩) HR.out.blk.lt).trans HR.out.c2
    go_simp
  simp only [Act.put, List.setIfInBounds_toArray, List.set_cons_zero, List.set_cons_succ]
  refine wpAnyH_ready (rs := [10]) (by kernel_rfl) (by simp) (AllReadyH.cons (i := 10) (o := { dst := some 24, op := Op.call { callee := Callee.value (Operand.func 22), args := #[Operand.tmp 23], argTypes := #[23] }, type := 4, pos := "law.go:46", after := #[{ on := 9, ground := Ground.data }, { on := 8, ground := Ground.chain }, { on := 8, ground := Ground.guard }], guard := some (8, false) }) rfl ?_ AllReadyH.nil)
  intro K1 hK1
  rw [if_pos (by rfl)]
  have HC2 := down_tell (HD.out.below hS1.out)
  go_wp2_with fail
  refine HC2.mono ?_
  rintro e V2 ⟨rfl, HB2⟩
  dsimp only
  clear HC2
  have hS2 : Hid (Below A.heap.size A V2) := hS1.out.trans (HB2.out.mono hS1.out.size)
  refine hK1.out _ _ hS2.out ?_
  clear hK1
  intro _
  try simp only [Act.put, List.setIfInBounds_toArray, List.set_cons_zero, List.set_cons_succ]
  refine wpAnyH_take (i := 15) (oi := { dst := some 29, op := Op.binOp BinOp.neq 4 (Operand.tmp 24) (Operand.tmp 28) 4, type := 4, pos := "law.go:46", after := #[{ on := 10, ground := Ground.data }, { on := 14, ground := Ground.data }, { on := 8, ground := Ground.guard }], guard := some (8, false) }) (v := .bool false) rfl (by kernel_rfl) (by kernel_rfl) (by kernel_rfl) (fun _ _ _ h => h.elim) (Or.inl ⟨by rfl, ?y15⟩) hS2.out ?_
  case y15 =>
    intro V hV
    go_simp
  simp only [Act.put, List.setIfInBounds_toArray, List.set_cons_zero, List.set_cons_succ]
  refine wpAnyH_take (i := 16) (oi := { dst := some 30, op := Op.pick (Operand.tmp 22) (Operand.const (Value.bool true)) (Operand.tmp 29), type := 4, pos := "law.go:46", after := #[{ on := 8, ground := Ground.data }, { on := 15, ground := Ground.data }], guard := none }) (v := .bool false) rfl (by kernel_rfl) (by kernel_rfl) (by kernel_rfl) (fun _ _ _ h => h.elim) (Or.inl ⟨by rfl, ?y16⟩) hS2.out ?_
  case y16 =>
    intro V hV
    go_simp
  simp only [Act.put, List.setIfInBounds_toArray, List.set_cons_zero, List.set_cons_succ]
  refine wpAnyH_take (i := 17) (oi := { dst := some 31, op := Op.move (Operand.tmp 30), type := 4, pos := "law.go:46", after := #[{ on := 16, ground := Ground.data }, { on := 10, ground := Ground.chain }], guard := none }) (v := .bool false) rfl (by kernel_rfl) (by kernel_rfl) (by kernel_rfl) (fun _ _ _ h => h.elim) (Or.inl ⟨by rfl, ?y17⟩) hS2.out ?_
  case y17 =>
    intro V hV
    go_simp
  simp only [Act.put, List.setIfInBounds_toArray, List.set_cons_zero, List.set_cons_succ]
  refine wpAnyH_take (i := 18) (oi := { dst := some 32, op := Op.move (Operand.tmp 0), type := 23, pos := "law.go:46", after := #[{ on := 17, ground := Ground.guard }], guard := some (17, false) }) (v := .pointer (some ⟨d, 0, none⟩)) rfl (by kernel_rfl) (by kernel_rfl) (by kernel_rfl) (fun _ _ _ h => h.elim) (Or.inl ⟨by rfl, ?y18⟩) hS2.out ?_
  case y18 =>
    intro V hV
    go_simp
  simp only [Act.put, List.setIfInBounds_toArray, List.set_cons_zero, List.set_cons_succ]
  refine wpAnyH_take (i := 20) (oi := { dst := some 34, op := Op.move (Operand.tmp 1), type := 27, pos := "law.go:46", after := #[{ on := 17, ground := Ground.guard }], guard := some (17, false) }) (v := .pointer (some ⟨r, 0, none⟩)) rfl (by kernel_rfl) (by kernel_rfl) (by kernel_rfl) (fun _ _ _ h => h.elim) (Or.inl ⟨by rfl, ?y20⟩) hS2.out ?_
  case y20 =>
    intro V hV
    go_simp
  simp only [Act.put, List.setIfInBounds_toArray, List.set_cons_zero, List.set_cons_succ]
  refine wpAnyH_take (i := 21) (oi := { dst := some 35, op := Op.nilCheck (Operand.tmp 34), type := 0, pos := "law.go:46", after := #[{ on := 20, ground := Ground.data }, { on := 17, ground := Ground.guard }], guard := some (17, false) }) (v := .pointer (some ⟨r, 0, none⟩)) rfl (by kernel_rfl) (by kernel_rfl) (by kernel_rfl) (fun _ _ _ h => h.elim) (Or.inl ⟨by rfl, ?y21⟩) hS2.out ?_
  case y21 =>
    intro V hV
    go_simp
  simp only [Act.put, List.setIfInBounds_toArray, List.set_cons_zero, List.set_cons_succ]
  refine wpAnyH_take (i := 22) (oi := { dst := some 36, op := Op.fieldAddr 68 (Operand.tmp 35) 5, type := 0, pos := "law.go:46", after := #[{ on := 21, ground := Ground.data }, { on := 17, ground := Ground.guard }], guard := some (17, false) }) (v := .pointer (some ⟨r, 5, none⟩)) rfl (by kernel_rfl) (by kernel_rfl) (by kernel_rfl) (fun _ _ _ h => h.elim) (Or.inl ⟨by rfl, ?y22⟩) hS2.out ?_
  case y22 =>
    intro V hV
    go_simp
  simp only [Act.put, List.setIfInBounds_toArray, List.set_cons_zero, List.set_cons_succ]
  refine wpAnyH_take (i := 23) (oi := { dst := some 37, op := Op.load 3 (Operand.tmp 36), type := 3, pos := "law.go:46", after := #[{ on := 22, ground := Ground.data }, { on := 17, ground := Ground.guard }], guard := some (17, false) }) (v := .int .i64 (D.ops : Int)) rfl (by kernel_rfl) (by kernel_rfl) (by kernel_rfl) (fun _ _ _ h => h.elim) (Or.inl ⟨by rfl, ?y23⟩) hS2.out ?_
  case y23 =>
    intro V hV
    have q : V.cell? ⟨r, 5, none⟩ = some (.int .i64 (D.ops : Int)) := ((show Below A.heap.size A V from hV).cell (p := ⟨r, _, none⟩) HR.out.blk.lt).trans HR.out.c5
    go_simp
  simp only [Act.put, List.setIfInBounds_toArray, List.set_cons_zero, List.set_cons_succ]
  refine wpAnyH_ready (rs := [19]) (by kernel_rfl) (by simp) (AllReadyH.cons (i := 19) (o := { dst := some 33, op := Op.call { callee := Callee.value (Operand.func 26), args := #[Operand.tmp 32], argTypes := #[23] }, type := 3, pos := "law.go:46", after := #[{ on := 18, ground := Ground.data }, { on := 17, ground := Ground.chain }, { on := 17, ground := Ground.guard }], guard := some (17, false) }) rfl ?_ AllReadyH.nil)
  intro K1 hK1
  rw [if_pos (by rfl)]
  have HC3 := ops_tell (HD.out.below hS2.out)
  go_wp2_with fail
  refine HC3.mono ?_
  rintro e V3 ⟨rfl, HB3⟩
  dsimp only
  clear HC3
  have hS3 : Hid (Below A.heap.size A V3) := hS2.out.trans (HB3.out.mono hS2.out.size)
  refine hK1.out _ _ hS3.out ?_
  clear hK1
  intro _
  try simp only [Act.put, List.setIfInBounds_toArray, List.set_cons_zero, List.set_cons_succ]
  refine wpAnyH_take (i := 24) (oi := { dst := some 38, op := Op.binOp BinOp.neq 3 (Operand.tmp 33) (Operand.tmp 37) 3, type := 4, pos := "law.go:46", after := #[{ on := 19, ground := Ground.data }, { on := 23, ground := Ground.data }, { on := 17, ground := Ground.guard }], guard := some (17, false) }) (v := .bool false) rfl (by kernel_rfl) (by kernel_rfl) (by kernel_rfl) (fun _ _ _ h => h.elim) (Or.inl ⟨by rfl, ?y24⟩) hS3.out ?_
  case y24 =>
    intro V hV
    go_simp
  simp only [Act.put, List.setIfInBounds_toArray, List.set_cons_zero, List.set_cons_succ]
  refine wpAnyH_take (i := 25) (oi := { dst := some 39, op := Op.pick (Operand.tmp 31) (Operand.const (Value.bool true)) (Operand.tmp 38), type := 4, pos := "law.go:46", after := #[{ on := 17, ground := Ground.data }, { on := 24, ground := Ground.data }], guard := none }) (v := .bool false) rfl (by kernel_rfl) (by kernel_rfl) (by kernel_rfl) (fun _ _ _ h => h.elim) (Or.inl ⟨by rfl, ?y25⟩) hS3.out ?_
  case y25 =>
    intro V hV
    go_simp
  simp only [Act.put, List.setIfInBounds_toArray, List.set_cons_zero, List.set_cons_succ]
  refine wpAnyH_take (i := 26) (oi := { dst := some 40, op := Op.move (Operand.tmp 39), type := 4, pos := "law.go:46", after := #[{ on := 25, ground := Ground.data }, { on := 19, ground := Ground.chain }], guard := none }) (v := .bool false) rfl (by kernel_rfl) (by kernel_rfl) (by kernel_rfl) (fun _ _ _ h => h.elim) (Or.inl ⟨by rfl, ?y26⟩) hS3.out ?_
  case y26 =>
    intro V hV
    go_simp
  simp only [Act.put, List.setIfInBounds_toArray, List.set_cons_zero, List.set_cons_succ]
  refine wpAnyH_take (i := 27) (oi := { dst := some 41, op := Op.move (Operand.tmp 5), type := 31, pos := "law.go:46", after := #[{ on := 26, ground := Ground.guard }], guard := some (26, false) }) (v := .slice a5 D.pend.length c5) rfl (by kernel_rfl) (by kernel_rfl) (by kernel_rfl) (fun _ _ _ h => h.elim) (Or.inl ⟨by rfl, ?y27⟩) hS3.out ?_
  case y27 =>
    intro V hV
    go_simp
  simp only [Act.put, List.setIfInBounds_toArray, List.set_cons_zero, List.set_cons_succ]
  refine wpAnyH_take (i := 28) (oi := { dst := some 42, op := Op.call { callee := Callee.builtin Builtin.len, args := #[Operand.tmp 41], argTypes := #[31] }, type := 3, pos := "law.go:46", after := #[{ on := 27, ground := Ground.data }, { on := 26, ground := Ground.guard }], guard := some (26, false) }) (v := .int .i64 (D.pend.length : Int)) rfl (by kernel_rfl) (by kernel_rfl) (by kernel_rfl) (fun _ _ _ h => h.elim) (Or.inl ⟨by rfl, ?y28⟩) hS3.out ?_
  case y28 =>
    intro V hV
    go_simp
  simp only [Act.put, List.setIfInBounds_toArray, List.set_cons_zero, List.set_cons_succ]
  refine wpAnyH_take (i := 29) (oi := { dst := some 43, op := Op.move (Operand.tmp 1), type := 27, pos := "law.go:46", after := #[{ on := 26, ground := Ground.guard }], guard := some (26, false) }) (v := .pointer (some ⟨r, 0, none⟩)) rfl (by kernel_rfl) (by kernel_rfl) (by kernel_rfl) (fun _ _ _ h => h.elim) (Or.inl ⟨by rfl, ?y29⟩) hS3.out ?_
  case y29 =>
    intro V hV
    go_simp
  simp only [Act.put, List.setIfInBounds_toArray, List.set_cons_zero, List.set_cons_succ]
  refine wpAnyH_take (i := 30) (oi := { dst := some 44, op := Op.nilCheck (Operand.tmp 43), type := 0, pos := "law.go:46", after := #[{ on := 29, ground := Ground.data }, { on := 26, ground := Ground.guard }], guard := some (26, false) }) (v := .pointer (some ⟨r, 0, none⟩)) rfl (by kernel_rfl) (by kernel_rfl) (by kernel_rfl) (fun _ _ _ h => h.elim) (Or.inl ⟨by rfl, ?y30⟩) hS3.out ?_
  case y30 =>
    intro V hV
    go_simp
  simp only [Act.put, List.setIfInBounds_toArray, List.set_cons_zero, List.set_cons_succ]
  refine wpAnyH_take (i := 31) (oi := { dst := some 45, op := Op.fieldAddr 68 (Operand.tmp 44) 1, type := 0, pos := "law.go:46", after := #[{ on := 30, ground := Ground.data }, { on := 26, ground := Ground.guard }], guard := some (26, false) }) (v := .pointer (some ⟨r, 1, none⟩)) rfl (by kernel_rfl) (by kernel_rfl) (by kernel_rfl) (fun _ _ _ h => h.elim) (Or.inl ⟨by rfl, ?y31⟩) hS3.out ?_
  case y31 =>
    intro V hV
    go_simp
  simp only [Act.put, List.setIfInBounds_toArray, List.set_cons_zero, List.set_cons_succ]
  refine wpAnyH_take (i := 32) (oi := { dst := some 46, op := Op.load 66 (Operand.tmp 45), type := 66, pos := "law.go:46", after := #[{ on := 31, ground := Ground.data }, { on := 26, ground := Ground.guard }], guard := some (26, false) }) (v := .slice a D.pend.length cp) rfl (by kernel_rfl) (by kernel_rfl) (by kernel_rfl) (fun _ _ _ h => h.elim) (Or.inl ⟨by rfl, ?y32⟩) hS3.out ?_
  case y32 =>
    intro V hV
    have q : V.cell? ⟨r, 1, none⟩ = some (.slice a D.pend.length cp) := ((show Below A.heap.size A V from hV).cell (p := ⟨r, _, none⟩) HR.out.blk.lt).trans HR.out.c1
    go_simp
  simp only [Act.put, List.setIfInBounds_toArray, List.set_cons_zero, List.set_cons_succ]
  refine wpAnyH_take (i := 33) (oi := { dst := some 47, op := Op.call { callee := Callee.builtin Builtin.len, args := #[Operand.tmp 46], argTypes := #[66] }, type := 3, pos := "law.go:46", after := #[{ on := 32, ground := Ground.data }, { on := 26, ground := Ground.guard }], guard := some (26, false) }) (v := .int .i64 (D.pend.length : Int)) rfl (by kernel_rfl) (by kernel_rfl) (by kernel_rfl) (fun _ _ _ h => h.elim) (Or.inl ⟨by rfl, ?y33⟩) hS3.out ?_
  case y33 =>
    intro V hV
    go_simp
  simp only [Act.put, List.setIfInBounds_toArray, List.set_cons_zero, List.set_cons_succ]
  refine wpAnyH_take (i := 34) (oi := { dst := some 48, op := Op.binOp BinOp.neq 3 (Operand.tmp 42) (Operand.tmp 47) 3, type := 4, pos := "law.go:46", after := #[{ on := 28, ground := Ground.data }, { on := 33, ground := Ground.data }, { on := 26, ground := Ground.guard }], guard := some (26, false) }) (v := .bool false) rfl (by kernel_rfl) (by kernel_rfl) (by kernel_rfl) (fun _ _ _ h => h.elim) (Or.inl ⟨by rfl, ?y34⟩) hS3.out ?_
  case y34 =>
    intro V hV
    go_simp
  simp only [Act.put, List.setIfInBounds_toArray, List.set_cons_zero, List.set_cons_succ]
  refine wpAnyH_take (i := 35) (oi := { dst := some 49, op := Op.pick (Operand.tmp 40) (Operand.const (Value.bool true)) (Operand.tmp 48), type := 4, pos := "law.go:46", after := #[{ on := 26, ground := Ground.data }, { on := 34, ground := Ground.data }], guard := none }) (v := .bool false) rfl (by kernel_rfl) (by kernel_rfl) (by kernel_rfl) (fun _ _ _ h => h.elim) (Or.inl ⟨by rfl, ?y35⟩) hS3.out ?_
  case y35 =>
    intro V hV
    go_simp
  simp only [Act.put, List.setIfInBounds_toArray, List.set_cons_zero, List.set_cons_succ]
  refine wpAnyH_take (i := 36) (oi := { dst := some 50, op := Op.move (Operand.tmp 49), type := 4, pos := "law.go:46", after := #[{ on := 35, ground := Ground.data }, { on := 26, ground := Ground.chain }], guard := none }) (v := .bool false) rfl (by kernel_rfl) (by kernel_rfl) (by kernel_rfl) (fun _ _ _ h => h.elim) (Or.inl ⟨by rfl, ?y36⟩) hS3.out ?_
  case y36 =>
    intro V hV
    go_simp
  simp only [Act.put, List.setIfInBounds_toArray, List.set_cons_zero, List.set_cons_succ]
  refine wpAnyH_take (i := 37) (oi := { dst := some 51, op := Op.move (Operand.tmp 6), type := 44, pos := "law.go:46", after := #[{ on := 36, ground := Ground.guard }], guard := some (36, false) }) (v := .slice a6 D.n c6) rfl (by kernel_rfl) (by kernel_rfl) (by kernel_rfl) (fun _ _ _ h => h.elim) (Or.inl ⟨by rfl, ?y37⟩) hS3.out ?_
  case y37 =>
    intro V hV
    go_simp
  simp only [Act.put, List.setIfInBounds_toArray, List.set_cons_zero, List.set_cons_succ]
  refine wpAnyH_take (i := 38) (oi := { dst := some 52, op := Op.call { callee := Callee.builtin Builtin.len, args := #[Operand.tmp 51], argTypes := #[44] }, type := 3, pos := "law.go:46", after := #[{ on := 37, ground := Ground.data }, { on := 36, ground := Ground.guard }], guard := some (36, false) }) (v := .int .i64 (D.n : Int)) rfl (by kernel_rfl) (by kernel_rfl) (by kernel_rfl) (fun _ _ _ h => h.elim) (Or.inl ⟨by rfl, ?y38⟩) hS3.out ?_
  case y38 =>
    intro V hV
    go_simp
  simp only [Act.put, List.setIfInBounds_toArray, List.set_cons_zero, List.set_cons_succ]
  refine wpAnyH_take (i := 39) (oi := { dst := some 53, op := Op.move (Operand.tmp 1), type := 27, pos := "law.go:46", after := #[{ on := 36, ground := Ground.guard }], guard := some (36, false) }) (v := .pointer (some ⟨r, 0, none⟩)) rfl (by kernel_rfl) (by kernel_rfl) (by kernel_rfl) (fun _ _ _ h => h.elim) (Or.inl ⟨by rfl, ?y39⟩) hS3.out ?_
  case y39 =>
    intro V hV
    go_simp
  simp only [Act.put, List.setIfInBounds_toArray, List.set_cons_zero, List.set_cons_succ]
  refine wpAnyH_take (i := 40) (oi := { dst := some 54, op := Op.nilCheck (Operand.tmp 53), type := 0, pos := "law.go:46", after := #[{ on := 39, ground := Ground.data }, { on := 36, ground := Ground.guard }], guard := some (36, false) }) (v := .pointer (some ⟨r, 0, none⟩)) rfl (by kernel_rfl) (by kernel_rfl) (by kernel_rfl) (fun _ _ _ h => h.elim) (Or.inl ⟨by rfl, ?y40⟩) hS3.out ?_
  case y40 =>
    intro V hV
    go_simp
  simp only [Act.put, List.setIfInBounds_toArray, List.set_cons_zero, List.set_cons_succ]
  refine wpAnyH_take (i := 41) (oi := { dst := some 55, op := Op.fieldAddr 68 (Operand.tmp 54) 0, type := 0, pos := "law.go:46", after := #[{ on := 40, ground := Ground.data }, { on := 36, ground := Ground.guard }], guard := some (36, false) }) (v := .pointer (some ⟨r, 0, none⟩)) rfl (by kernel_rfl) (by kernel_rfl) (by kernel_rfl) (fun _ _ _ h => h.elim) (Or.inl ⟨by rfl, ?y41⟩) hS3.out ?_
  case y41 =>
    intro V hV
    go_simp
  simp only [Act.put, List.setIfInBounds_toArray, List.set_cons_zero, List.set_cons_succ]
  refine wpAnyH_take (i := 42) (oi := { dst := some 56, op := Op.load 65 (Operand.tmp 55), type := 65, pos := "law.go:46", after := #[{ on := 41, ground := Ground.data }, { on := 36, ground := Ground.guard }], guard := some (36, false) }) (v := .slice (some ⟨g, 0, none⟩) D.n c) rfl (by kernel_rfl) (by kernel_rfl) (by kernel_rfl) (fun _ _ _ h => h.elim) (Or.inl ⟨by rfl, ?y42⟩) hS3.out ?_
  case y42 =>
    intro V hV
    have q : V.cell? ⟨r, 0, none⟩ = some (.slice (some ⟨g, 0, none⟩) D.n c) := ((show Below A.heap.size A V from hV).cell (p := ⟨r, _, none⟩) HR.out.blk.lt).trans HR.out.c0
    go_simp
  simp only [Act.put, List.setIfInBounds_toArray, List.set_cons_zero, List.set_cons_succ]
  refine wpAnyH_take (i := 43) (oi := { dst := some 57, op := Op.call { callee := Callee.builtin Builtin.len, args := #[Operand.tmp 56], argTypes := #[65] }, type := 3, pos := "law.go:46", after := #[{ on := 42, ground := Ground.data }, { on := 36, ground := Ground.guard }], guard := some (36, false) }) (v := .int .i64 (D.n : Int)) rfl (by kernel_rfl) (by kernel_rfl) (by kernel_rfl) (fun _ _ _ h => h.elim) (Or.inl ⟨by rfl, ?y43⟩) hS3.out ?_
  case y43 =>
    intro V hV
    go_simp
  simp only [Act.put, List.setIfInBounds_toArray, List.set_cons_zero, List.set_cons_succ]
  refine wpAnyH_take (i := 44) (oi := { dst := some 58, op := Op.binOp BinOp.neq 3 (Operand.tmp 52) (Operand.tmp 57) 3, type := 4, pos := "law.go:46", after := #[{ on := 38, ground := Ground.data }, { on := 43, ground := Ground.data }, { on := 36, ground := Ground.guard }], guard := some (36, false) }) (v := .bool false) rfl (by kernel_rfl) (by kernel_rfl) (by kernel_rfl) (fun _ _ _ h => h.elim) (Or.inl ⟨by rfl, ?y44⟩) hS3.out ?_
  case y44 =>
    intro V hV
    go_simp
  simp only [Act.put, List.setIfInBounds_toArray, List.set_cons_zero, List.set_cons_succ]
  refine wpAnyH_take (i := 45) (oi := { dst := some 59, op := Op.pick (Operand.tmp 50) (Operand.const (Value.bool true)) (Operand.tmp 58), type := 4, pos := "law.go:46", after := #[{ on := 36, ground := Ground.data }, { on := 44, ground := Ground.data }], guard := none }) (v := .bool false) rfl (by kernel_rfl) (by kernel_rfl) (by kernel_rfl) (fun _ _ _ h => h.elim) (Or.inl ⟨by rfl, ?y45⟩) hS3.out ?_
  case y45 =>
    intro V hV
    go_simp
  simp only [Act.put, List.setIfInBounds_toArray, List.set_cons_zero, List.set_cons_succ]
  refine wpAnyH_done (by kernel_rfl) ?_ _
  exact hQ V3 hS3.out
#print axioms same_region
set_option maxRecDepth 100000 in
set_option maxHeartbeats 2000000 in
theorem same_region7 {Q : Exit → Act → World → Prop} {x0 x2 x3 x4 x6 x8 x9 x10 x11 x12 x13 x14 x15 x16 x17 x18 x19 x20 x21 x22 x23 x24 x25 x26 x27 x28 x29 x30 x31 x32 x33 x34 x35 x36 x37 x38 x39 x40 x41 x42 x43 x44 x45 x46 x47 x48 x49 x50 x51 x52 x53 x54 x55 x56 x57 x58 x59 x60 x61 x62 x63 x64 x65 x66 x67 x68 x69 x70 x71 x72 x73 x74 x75 x76 x77 x78 x79 x80 x81 x82 x83 x84 x85 x86 x87 x88 x89 x90 x91 x92 x93 x94 x95 x96 x97 x98 x99 x100 x101 x102 x103 x104 x105 x106 x107 x108 x109 x110 x111 x112 x113 x114 x115 : Value} {ds : List Deferred} {A : World} {r g5 gp m c5 cp i x : Nat}
    (q1 : (i : Int) < (m : Int)) (HC : Hid (A.cell? ⟨g5, i, none⟩ = some (.int .i64 (x : Int)) ∧ A.cell? ⟨r, 1, none⟩ = some (.slice (some ⟨gp, 0, none⟩) m cp) ∧ A.cell? ⟨gp, i * 2, none⟩ = some (.int .i64 (x : Int)))) (HL : Hid (g5 < A.heap.size ∧ r < A.heap.size ∧ gp < A.heap.size))
    (hQ : Q .normal { tmps := #[x0, .pointer (some ⟨r, 0, none⟩), x2, x3, x4, .slice (some ⟨g5, 0, none⟩) m c5, x6, .int .i64 (i : Int), x8, x9, x10, x11, x12, x13, x14, x15, x16, x17, x18, x19, x20, x21, x22, x23, x24, x25, x26, x27, x28, x29, x30, x31, x32, x33, x34, x35, x36, x37, x38, x39, x40, x41, x42, x43, x44, x45, x46, x47, x48, x49, x50, x51, x52, x53, x54, x55, x56, x57, x58, x59, x60, x61, x62, x63, x64, .slice (some ⟨g5, 0, none⟩) m c5, .int .i64 (i : Int), .pointer (some ⟨g5, i, none⟩), .int .i64 (x : Int), .pointer (some ⟨r, 0, none⟩), .pointer (some ⟨r, 0, none⟩), .pointer (some ⟨r, 1, none⟩), .slice (some ⟨gp, 0, none⟩) m cp, .int .i64 (i : Int), .pointer (some ⟨gp, i * 2, none⟩), .pointer (some ⟨gp, i * 2, none⟩), .int .i64 (x : Int), .bool false, x78, x79, x80, x81, x82, x83, x84, x85, x86, x87, x88, x89, x90, x91, x92, x93, x94, x95, x96, x97, x98, x99, x100, x101, x102, x103, x104, x105, x106, x107, x108, x109, x110, x111, x112, x113, x114, x115], defers := ds } A.drew) :
    (Code.region 7 #[{ dst := some 65, op := Op.move (Operand.tmp 5), type := 31, pos := "law.go:50", after := #[], guard := none }, { dst := some 66, op := Op.move (Operand.tmp 7), type := 3, pos := "law.go:50", after := #[], guard := none }, { dst := some 67, op := Op.indexAddr 31 (Operand.tmp 65) (Operand.tmp 66), type := 0, pos := "law.go:50", after := #[{ on := 0, ground := Ground.data }, { on := 1, ground := Ground.data }], guard := none }, { dst := some 68, op := Op.load 3 (Operand.tmp 67), type := 3, pos := "law.go:50", after := #[{ on := 2, ground := Ground.data }], guard := none }, { dst := some 69, op := Op.move (Operand.tmp 1), type := 27, pos := "law.go:50", after := #[], guard := none }, { dst := some 70, op := Op.nilCheck (Operand.tmp 69), type := 0, pos := "law.go:50", after := #[{ on := 4, ground := Ground.data }], guard := none }, { dst := some 71, op := Op.fieldAddr 68 (Operand.tmp 70) 1, type := 0, pos := "law.go:50", after := #[{ on := 5, ground := Ground.data }], guard := none }, { dst := some 72, op := Op.load 66 (Operand.tmp 71), type := 66, pos := "law.go:50", after := #[{ on := 6, ground := Ground.data }], guard := none }, { dst := some 73, op := Op.move (Operand.tmp 7), type := 3, pos := "law.go:50", after := #[], guard := none }, { dst := some 74, op := Op.indexAddr 66 (Operand.tmp 72) (Operand.tmp 73), type := 0, pos := "law.go:50", after := #[{ on := 7, ground := Ground.data }, { on := 8, ground := Ground.data }], guard := none }, { dst := some 75, op := Op.fieldAddr 78 (Operand.tmp 74) 0, type := 0, pos := "law.go:50", after := #[{ on := 9, ground := Ground.data }], guard := none }, { dst := some 76, op := Op.load 3 (Operand.tmp 75), type := 3, pos := "law.go:50", after := #[{ on := 10, ground := Ground.data }], guard := none }, { dst := some 77, op := Op.binOp BinOp.neq 3 (Operand.tmp 68) (Operand.tmp 76) 3, type := 4, pos := "law.go:50", after := #[{ on := 3, ground := Ground.data }, { on := 11, ground := Ground.data }], guard := none }] true).wp Try.prog Q { tmps := #[x0, .pointer (some ⟨r, 0, none⟩), x2, x3, x4, .slice (some ⟨g5, 0, none⟩) m c5, x6, .int .i64 (i : Int), x8, x9, x10, x11, x12, x13, x14, x15, x16, x17, x18, x19, x20, x21, x22, x23, x24, x25, x26, x27, x28, x29, x30, x31, x32, x33, x34, x35, x36, x37, x38, x39, x40, x41, x42, x43, x44, x45, x46, x47, x48, x49, x50, x51, x52, x53, x54, x55, x56, x57, x58, x59, x60, x61, x62, x63, x64, x65, x66, x67, x68, x69, x70, x71, x72, x73, x74, x75, x76, x77, x78, x79, x80, x81, x82, x83, x84, x85, x86, x87, x88, x89, x90, x91, x92, x93, x94, x95, x96, x97, x98, x99, x100, x101, x102, x103, x104, x105, x106, x107, x108, x109, x110, x111, x112, x113, x114, x115], defers := ds } A := by
  refine Code.wp_mono (Q := fun x a' w' => match x with | .normal => Q .normal a' w' | _ => False) (by intro x a' w' h; cases x <;> first | exact h | exact h.elim) ?_
  refine wp_region_held (S := fun V => Below A.heap.size A V) (by kernel_rfl) ?_
  have hS0 : Hid (Below A.heap.size A A.drew) := below_drew A
  change wpAnyH Try.prog .any _ _ (fun V => Below A.heap.size A V) 13 (Array.replicate 13 false) _ A.drew
  refine wpAnyH_take (i := 0) (oi := { dst := some 65, op := Op.move (Operand.tmp 5), type := 31, pos := "law.go:50", after := #[], guard := none }) (v := .slice (some ⟨g5, 0, none⟩) m c5) rfl (by kernel_rfl) (by kernel_rfl) (by kernel_rfl) (fun _ _ _ h => h.elim) (Or.inl ⟨by rfl, ?y0⟩) hS0.out ?_
  case y0 =>
    intro V hV
    go_simp
  simp only [Act.put, List.setIfInBounds_toArray, List.set_cons_zero, List.set_cons_succ]
  refine wpAnyH_take (i := 1) (oi := { dst := some 66, op := Op.move (Operand.tmp 7), type := 3, pos := "law.go:50", after := #[], guard := none }) (v := .int .i64 (i : Int)) rfl (by kernel_rfl) (by kernel_rfl) (by kernel_rfl) (fun _ _ _ h => h.elim) (Or.inl ⟨by rfl, ?y1⟩) hS0.out ?_
  case y1 =>
    intro V hV
    go_simp
  simp only [Act.put, List.setIfInBounds_toArray, List.set_cons_zero, List.set_cons_succ]
  refine wpAnyH_take (i := 2) (oi := { dst := some 67, op := Op.indexAddr 31 (Operand.tmp 65) (Operand.tmp 66), type := 0, pos := "law.go:50", after := #[{ on := 0, ground := Ground.data }, { on := 1, ground := Ground.data }], guard := none }) (v := .pointer (some ⟨g5, i, none⟩)) rfl (by kernel_rfl) (by kernel_rfl) (by kernel_rfl) (fun _ _ _ h => h.elim) (Or.inl ⟨by rfl, ?y2⟩) hS0.out ?_
  case y2 =>
    intro V hV
    go_simp
  simp only [Act.put, List.setIfInBounds_toArray, List.set_cons_zero, List.set_cons_succ]
  refine wpAnyH_take (i := 3) (oi := { dst := some 68, op := Op.load 3 (Operand.tmp 67), type := 3, pos := "law.go:50", after := #[{ on := 2, ground := Ground.data }], guard := none }) (v := .int .i64 (x : Int)) rfl (by kernel_rfl) (by kernel_rfl) (by kernel_rfl) (fun _ _ _ h => h.elim) (Or.inl ⟨by rfl, ?y3⟩) hS0.out ?_
  case y3 =>
    intro V hV
    have q : V.cell? ⟨g5, i, none⟩ = some (.int .i64 (x : Int)) := ((show Below A.heap.size A V from hV).cell (p := ⟨g5, _, none⟩) HL.out.1).trans HC.out.1
    go_simp
  simp only [Act.put, List.setIfInBounds_toArray, List.set_cons_zero, List.set_cons_succ]
  refine wpAnyH_take (i := 4) (oi := { dst := some 69, op := Op.move (Operand.tmp 1), type := 27, pos := "law.go:50", after := #[], guard := none }) (v := .pointer (some ⟨r, 0, none⟩)) rfl (by kernel_rfl) (by kernel_rfl) (by kernel_rfl) (fun _ _ _ h => h.elim) (Or.inl ⟨by rfl, ?y4⟩) hS0.out ?_
  case y4 =>
    intro V hV
    go_simp
  simp only [Act.put, List.setIfInBounds_toArray, List.set_cons_zero, List.set_cons_succ]
  refine wpAnyH_take (i := 5) (oi := { dst := some 70, op := Op.nilCheck (Operand.tmp 69), type := 0, pos := "law.go:50", after := #[{ on := 4, ground := Ground.data }], guard := none }) (v := .pointer (some ⟨r, 0, none⟩)) rfl (by kernel_rfl) (by kernel_rfl) (by kernel_rfl) (fun _ _ _ h => h.elim) (Or.inl ⟨by rfl, ?y5⟩) hS0.out ?_
  case y5 =>
    intro V hV
    go_simp
  simp only [Act.put, List.setIfInBounds_toArray, List.set_cons_zero, List.set_cons_succ]
  refine wpAnyH_take (i := 6) (oi := { dst := some 71, op := Op.fieldAddr 68 (Operand.tmp 70) 1, type := 0, pos := "law.go:50", after := #[{ on := 5, ground := Ground.data }], guard := none }) (v := .pointer (some ⟨r, 1, none⟩)) rfl (by kernel_rfl) (by kernel_rfl) (by kernel_rfl) (fun _ _ _ h => h.elim) (Or.inl ⟨by rfl, ?y6⟩) hS0.out ?_
  case y6 =>
    intro V hV
    go_simp
  simp only [Act.put, List.setIfInBounds_toArray, List.set_cons_zero, List.set_cons_succ]
  refine wpAnyH_take (i := 7) (oi := { dst := some 72, op := Op.load 66 (Operand.tmp 71), type := 66, pos := "law.go:50", after := #[{ on := 6, ground := Ground.data }], guard := none }) (v := .slice (some ⟨gp, 0, none⟩) m cp) rfl (by kernel_rfl) (by kernel_rfl) (by kernel_rfl) (fun _ _ _ h => h.elim) (Or.inl ⟨by rfl, ?y7⟩) hS0.out ?_
  case y7 =>
    intro V hV
    have q : V.cell? ⟨r, 1, none⟩ = some (.slice (some ⟨gp, 0, none⟩) m cp) := ((show Below A.heap.size A V from hV).cell (p := ⟨r, _, none⟩) HL.out.2.1).trans HC.out.2.1
    go_simp
  simp only [Act.put, List.setIfInBounds_toArray, List.set_cons_zero, List.set_cons_succ]
  refine wpAnyH_take (i := 8) (oi := { dst := some 73, op := Op.move (Operand.tmp 7), type := 3, pos := "law.go:50", after := #[], guard := none }) (v := .int .i64 (i : Int)) rfl (by kernel_rfl) (by kernel_rfl) (by kernel_rfl) (fun _ _ _ h => h.elim) (Or.inl ⟨by rfl, ?y8⟩) hS0.out ?_
  case y8 =>
    intro V hV
    go_simp
  simp only [Act.put, List.setIfInBounds_toArray, List.set_cons_zero, List.set_cons_succ]
  refine wpAnyH_take (i := 9) (oi := { dst := some 74, op := Op.indexAddr 66 (Operand.tmp 72) (Operand.tmp 73), type := 0, pos := "law.go:50", after := #[{ on := 7, ground := Ground.data }, { on := 8, ground := Ground.data }], guard := none }) (v := .pointer (some ⟨gp, i * 2, none⟩)) rfl (by kernel_rfl) (by kernel_rfl) (by kernel_rfl) (fun _ _ _ h => h.elim) (Or.inl ⟨by rfl, ?y9⟩) hS0.out ?_
  case y9 =>
    intro V hV
    go_simp
  simp only [Act.put, List.setIfInBounds_toArray, List.set_cons_zero, List.set_cons_succ]
  refine wpAnyH_take (i := 10) (oi := { dst := some 75, op := Op.fieldAddr 78 (Operand.tmp 74) 0, type := 0, pos := "law.go:50", after := #[{ on := 9, ground := Ground.data }], guard := none }) (v := .pointer (some ⟨gp, i * 2, none⟩)) rfl (by kernel_rfl) (by kernel_rfl) (by kernel_rfl) (fun _ _ _ h => h.elim) (Or.inl ⟨by rfl, ?y10⟩) hS0.out ?_
  case y10 =>
    intro V hV
    go_simp
  simp only [Act.put, List.setIfInBounds_toArray, List.set_cons_zero, List.set_cons_succ]
  refine wpAnyH_take (i := 11) (oi := { dst := some 76, op := Op.load 3 (Operand.tmp 75), type := 3, pos := "law.go:50", after := #[{ on := 10, ground := Ground.data }], guard := none }) (v := .int .i64 (x : Int)) rfl (by kernel_rfl) (by kernel_rfl) (by kernel_rfl) (fun _ _ _ h => h.elim) (Or.inl ⟨by rfl, ?y11⟩) hS0.out ?_
  case y11 =>
    intro V hV
    have q : V.cell? ⟨gp, i * 2, none⟩ = some (.int .i64 (x : Int)) := ((show Below A.heap.size A V from hV).cell (p := ⟨gp, _, none⟩) HL.out.2.2).trans HC.out.2.2
    go_simp
  simp only [Act.put, List.setIfInBounds_toArray, List.set_cons_zero, List.set_cons_succ]
  refine wpAnyH_take (i := 12) (oi := { dst := some 77, op := Op.binOp BinOp.neq 3 (Operand.tmp 68) (Operand.tmp 76) 3, type := 4, pos := "law.go:50", after := #[{ on := 3, ground := Ground.data }, { on := 11, ground := Ground.data }], guard := none }) (v := .bool false) rfl (by kernel_rfl) (by kernel_rfl) (by kernel_rfl) (fun _ _ _ h => h.elim) (Or.inl ⟨by rfl, ?y12⟩) hS0.out ?_
  case y12 =>
    intro V hV
    go_simp
  simp only [Act.put, List.setIfInBounds_toArray, List.set_cons_zero, List.set_cons_succ]
  refine wpAnyH_done (by kernel_rfl) ?_ _
  exact hQ
#print axioms same_region7
theorem conv_sec {w : World} {g : Nat} {l : List UInt8} (hl : l.length = 256) (h : Blk w g 72 (U l)) : (convert 30 9 (.slice (some ⟨g, 0, none⟩) 256 256)).run Try.prog w = .ok (.string (strOf l)) w := by
  have := run_convert_bytes_back (P := Try.prog) w 30 9 5 ⟨g, 0, none⟩ 256 l Try.underlying30 Try.underlying5 Try.underlying9 (fun j hj => by
    rw [Addr.add_lit, Nat.zero_add]
    exact h.cell (U_get l j hj))
  rw [hl] at this
  exact this
set_option maxRecDepth 100000 in
set_option maxHeartbeats 2000000 in
theorem same_region13 {Q : Exit → Act → World → Prop} {x0 x2 x3 x4 x5 x7 x9 x10 x11 x12 x13 x14 x15 x16 x17 x18 x19 x20 x21 x22 x23 x24 x25 x26 x27 x28 x29 x30 x31 x32 x33 x34 x35 x36 x37 x38 x39 x40 x41 x42 x43 x44 x45 x46 x47 x48 x49 x50 x51 x52 x53 x54 x55 x56 x57 x58 x59 x60 x61 x62 x63 x64 x65 x66 x67 x68 x69 x70 x71 x72 x73 x74 x75 x76 x77 x78 x79 x80 x81 x82 x83 x84 x85 x86 x87 x88 x89 x90 x91 x92 x93 x94 x95 x96 x97 x98 x99 x100 x101 x102 x103 x104 x105 x106 x107 x108 x109 x110 x111 x112 x113 x114 x115 : Value} {ds : List Deferred} {A : World} {r g6 gi g n c6 c i : Nat} {l : List UInt8}
    (q1 : (i : Int) < (n : Int)) (hl : l.length = 256) (HB : Hid (Blk A gi 72 (U l))) (HC : Hid (A.cell? ⟨g6, i, none⟩ = some (.slice (some ⟨gi, 0, none⟩) 256 256) ∧ A.cell? ⟨r, 0, none⟩ = some (.slice (some ⟨g, 0, none⟩) n c) ∧ A.cell? ⟨g, i, none⟩ = some (.string (strOf l)))) (HL : Hid (g6 < A.heap.size ∧ r < A.heap.size ∧ g < A.heap.size))
    (hQ : Q .normal { tmps := #[x0, .pointer (some ⟨r, 0, none⟩), x2, x3, x4, x5, .slice (some ⟨g6, 0, none⟩) n c6, x7, .int .i64 (i : Int), x9, x10, x11, x12, x13, x14, x15, x16, x17, x18, x19, x20, x21, x22, x23, x24, x25, x26, x27, x28, x29, x30, x31, x32, x33, x34, x35, x36, x37, x38, x39, x40, x41, x42, x43, x44, x45, x46, x47, x48, x49, x50, x51, x52, x53, x54, x55, x56, x57, x58, x59, x60, x61, x62, x63, x64, x65, x66, x67, x68, x69, x70, x71, x72, x73, x74, x75, x76, x77, x78, x79, x80, x81, x82, x83, .slice (some ⟨g6, 0, none⟩) n c6, .int .i64 (i : Int), .pointer (some ⟨g6, i, none⟩), .slice (some ⟨gi, 0, none⟩) 256 256, .string (strOf l), .pointer (some ⟨r, 0, none⟩), .pointer (some ⟨r, 0, none⟩), .pointer (some ⟨r, 0, none⟩), .slice (some ⟨g, 0, none⟩) n c, .int .i64 (i : Int), .pointer (some ⟨g, i, none⟩), .string (strOf l), .bool false, x97, x98, x99, x100, x101, x102, x103, x104, x105, x106, x107, x108, x109, x110, x111, x112, x113, x114, x115], defers := ds } A.drew) :
    (Code.region 13 #[{ dst := some 84, op := Op.move (Operand.tmp 6), type := 44, pos := "law.go:55", after := #[], guard := none }, { dst := some 85, op := Op.move (Operand.tmp 8), type := 3, pos := "law.go:55", after := #[], guard := none }, { dst := some 86, op := Op.indexAddr 44 (Operand.tmp 84) (Operand.tmp 85), type := 0, pos := "law.go:55", after := #[{ on := 0, ground := Ground.data }, { on := 1, ground := Ground.data }], guard := none }, { dst := some 87, op := Op.load 30 (Operand.tmp 86), type := 30, pos := "law.go:55", after := #[{ on := 2, ground := Ground.data }], guard := none }, { dst := some 88, op := Op.convert 30 9 (Operand.tmp 87), type := 9, pos := "law.go:55", after := #[{ on := 3, ground := Ground.data }], guard := none }, { dst := some 89, op := Op.move (Operand.tmp 1), type := 27, pos := "law.go:55", after := #[], guard := none }, { dst := some 90, op := Op.nilCheck (Operand.tmp 89), type := 0, pos := "law.go:55", after := #[{ on := 5, ground := Ground.data }], guard := none }, { dst := some 91, op := Op.fieldAddr 68 (Operand.tmp 90) 0, type := 0, pos := "law.go:55", after := #[{ on := 6, ground := Ground.data }], guard := none }, { dst := some 92, op := Op.load 65 (Operand.tmp 91), type := 65, pos := "law.go:55", after := #[{ on := 7, ground := Ground.data }], guard := none }, { dst := some 93, op := Op.move (Operand.tmp 8), type := 3, pos := "law.go:55", after := #[], guard := none }, { dst := some 94, op := Op.indexAddr 65 (Operand.tmp 92) (Operand.tmp 93), type := 0, pos := "law.go:55", after := #[{ on := 8, ground := Ground.data }, { on := 9, ground := Ground.data }], guard := none }, { dst := some 95, op := Op.load 9 (Operand.tmp 94), type := 9, pos := "law.go:55", after := #[{ on := 10, ground := Ground.data }], guard := none }, { dst := some 96, op := Op.binOp BinOp.neq 9 (Operand.tmp 88) (Operand.tmp 95) 9, type := 4, pos := "law.go:55", after := #[{ on := 4, ground := Ground.data }, { on := 11, ground := Ground.data }], guard := none }] true).wp Try.prog Q { tmps := #[x0, .pointer (some ⟨r, 0, none⟩), x2, x3, x4, x5, .slice (some ⟨g6, 0, none⟩) n c6, x7, .int .i64 (i : Int), x9, x10, x11, x12, x13, x14, x15, x16, x17, x18, x19, x20, x21, x22, x23, x24, x25, x26, x27, x28, x29, x30, x31, x32, x33, x34, x35, x36, x37, x38, x39, x40, x41, x42, x43, x44, x45, x46, x47, x48, x49, x50, x51, x52, x53, x54, x55, x56, x57, x58, x59, x60, x61, x62, x63, x64, x65, x66, x67, x68, x69, x70, x71, x72, x73, x74, x75, x76, x77, x78, x79, x80, x81, x82, x83, x84, x85, x86, x87, x88, x89, x90, x91, x92, x93, x94, x95, x96, x97, x98, x99, x100, x101, x102, x103, x104, x105, x106, x107, x108, x109, x110, x111, x112, x113, x114, x115], defers := ds } A := by
  refine Code.wp_mono (Q := fun x a' w' => match x with | .normal => Q .normal a' w' | _ => False) (by intro x a' w' h; cases x <;> first | exact h | exact h.elim) ?_
  refine wp_region_held (S := fun V => Below A.heap.size A V) (by kernel_rfl) ?_
  have hS0 : Hid (Below A.heap.size A A.drew) := below_drew A
  change wpAnyH Try.prog .any _ _ (fun V => Below A.heap.size A V) 13 (Array.replicate 13 false) _ A.drew
  refine wpAnyH_take (i := 0) (oi := { dst := some 84, op := Op.move (Operand.tmp 6), type := 44, pos := "law.go:55", after := #[], guard := none }) (v := .slice (some ⟨g6, 0, none⟩) n c6) rfl (by kernel_rfl) (by kernel_rfl) (by kernel_rfl) (fun _ _ _ h => h.elim) (Or.inl ⟨by rfl, ?y0⟩) hS0.out ?_
  case y0 =>
    intro V hV
    go_simp
  simp only [Act.put, List.setIfInBounds_toArray, List.set_cons_zero, List.set_cons_succ]
  refine wpAnyH_take (i := 1) (oi := { dst := some 85, op := Op.move (Operand.tmp 8), type := 3, pos := "law.go:55", after := #[], guard := none }) (v := .int .i64 (i : Int)) rfl (by kernel_rfl) (by kernel_rfl) (by kernel_rfl) (fun _ _ _ h => h.elim) (Or.inl ⟨by rfl, ?y1⟩) hS0.out ?_
  case y1 =>
    intro V hV
    go_simp
  simp only [Act.put, List.setIfInBounds_toArray, List.set_cons_zero, List.set_cons_succ]
  refine wpAnyH_take (i := 2) (oi := { dst := some 86, op := Op.indexAddr 44 (Operand.tmp 84) (Operand.tmp 85), type := 0, pos := "law.go:55", after := #[{ on := 0, ground := Ground.data }, { on := 1, ground := Ground.data }], guard := none }) (v := .pointer (some ⟨g6, i, none⟩)) rfl (by kernel_rfl) (by kernel_rfl) (by kernel_rfl) (fun _ _ _ h => h.elim) (Or.inl ⟨by rfl, ?y2⟩) hS0.out ?_
  case y2 =>
    intro V hV
    go_simp
  simp only [Act.put, List.setIfInBounds_toArray, List.set_cons_zero, List.set_cons_succ]
  refine wpAnyH_take (i := 3) (oi := { dst := some 87, op := Op.load 30 (Operand.tmp 86), type := 30, pos := "law.go:55", after := #[{ on := 2, ground := Ground.data }], guard := none }) (v := .slice (some ⟨gi, 0, none⟩) 256 256) rfl (by kernel_rfl) (by kernel_rfl) (by kernel_rfl) (fun _ _ _ h => h.elim) (Or.inl ⟨by rfl, ?y3⟩) hS0.out ?_
  case y3 =>
    intro V hV
    have q : V.cell? ⟨g6, i, none⟩ = some (.slice (some ⟨gi, 0, none⟩) 256 256) := ((show Below A.heap.size A V from hV).cell (p := ⟨g6, _, none⟩) HL.out.1).trans HC.out.1
    go_simp
  simp only [Act.put, List.setIfInBounds_toArray, List.set_cons_zero, List.set_cons_succ]
  refine wpAnyH_take (i := 4) (oi := { dst := some 88, op := Op.convert 30 9 (Operand.tmp 87), type := 9, pos := "law.go:55", after := #[{ on := 3, ground := Ground.data }], guard := none }) (v := .string (strOf l)) rfl (by kernel_rfl) (by kernel_rfl) (by kernel_rfl) (fun _ _ _ h => h.elim) (Or.inl ⟨by rfl, ?y4⟩) hS0.out ?_
  case y4 =>
    intro V hV
    have q := conv_sec hl (HB.out.below (show Below A.heap.size A V from hV) HB.out.lt)
    go_simp
  simp only [Act.put, List.setIfInBounds_toArray, List.set_cons_zero, List.set_cons_succ]
  refine wpAnyH_take (i := 5) (oi := { dst := some 89, op := Op.move (Operand.tmp 1), type := 27, pos := "law.go:55", after := #[], guard := none }) (v := .pointer (some ⟨r, 0, none⟩)) rfl (by kernel_rfl) (by kernel_rfl) (by kernel_rfl) (fun _ _ _ h => h.elim) (Or.inl ⟨by rfl, ?y5⟩) hS0.out ?_
  case y5 =>
    intro V hV
    go_simp
  simp only [Act.put, List.setIfInBounds_toArray, List.set_cons_zero, List.set_cons_succ]
  refine wpAnyH_take (i := 6) (oi := { dst := some 90, op := Op.nilCheck (Operand.tmp 89), type := 0, pos := "law.go:55", after := #[{ on := 5, ground := Ground.data }], guard := none }) (v := .pointer (some ⟨r, 0, none⟩)) rfl (by kernel_rfl) (by kernel_rfl) (by kernel_rfl) (fun _ _ _ h => h.elim) (Or.inl ⟨by rfl, ?y6⟩) hS0.out ?_
  case y6 =>
    intro V hV
    go_simp
  simp only [Act.put, List.setIfInBounds_toArray, List.set_cons_zero, List.set_cons_succ]
  refine wpAnyH_take (i := 7) (oi := { dst := some 91, op := Op.fieldAddr 68 (Operand.tmp 90) 0, type := 0, pos := "law.go:55", after := #[{ on := 6, ground := Ground.data }], guard := none }) (v := .pointer (some ⟨r, 0, none⟩)) rfl (by kernel_rfl) (by kernel_rfl) (by kernel_rfl) (fun _ _ _ h => h.elim) (Or.inl ⟨by rfl, ?y7⟩) hS0.out ?_
  case y7 =>
    intro V hV
    go_simp
  simp only [Act.put, List.setIfInBounds_toArray, List.set_cons_zero, List.set_cons_succ]
  refine wpAnyH_take (i := 8) (oi := { dst := some 92, op := Op.load 65 (Operand.tmp 91), type := 65, pos := "law.go:55", after := #[{ on := 7, ground := Ground.data }], guard := none }) (v := .slice (some ⟨g, 0, none⟩) n c) rfl (by kernel_rfl) (by kernel_rfl) (by kernel_rfl) (fun _ _ _ h => h.elim) (Or.inl ⟨by rfl, ?y8⟩) hS0.out ?_
  case y8 =>
    intro V hV
    have q : V.cell? ⟨r, 0, none⟩ = some (.slice (some ⟨g, 0, none⟩) n c) := ((show Below A.heap.size A V from hV).cell (p := ⟨r, _, none⟩) HL.out.2.1).trans HC.out.2.1
    go_simp
  simp only [Act.put, List.setIfInBounds_toArray, List.set_cons_zero, List.set_cons_succ]
  refine wpAnyH_take (i := 9) (oi := { dst := some 93, op := Op.move (Operand.tmp 8), type := 3, pos := "law.go:55", after := #[], guard := none }) (v := .int .i64 (i : Int)) rfl (by kernel_rfl) (by kernel_rfl) (by kernel_rfl) (fun _ _ _ h => h.elim) (Or.inl ⟨by rfl, ?y9⟩) hS0.out ?_
  case y9 =>
    intro V hV
    go_simp
  simp only [Act.put, List.setIfInBounds_toArray, List.set_cons_zero, List.set_cons_succ]
  refine wpAnyH_take (i := 10) (oi := { dst := some 94, op := Op.indexAddr 65 (Operand.tmp 92) (Operand.tmp 93), type := 0, pos := "law.go:55", after := #[{ on := 8, ground := Ground.data }, { on := 9, ground := Ground.data }], guard := none }) (v := .pointer (some ⟨g, i, none⟩)) rfl (by kernel_rfl) (by kernel_rfl) (by kernel_rfl) (fun _ _ _ h => h.elim) (Or.inl ⟨by rfl, ?y10⟩) hS0.out ?_
  case y10 =>
    intro V hV
    go_simp
  simp only [Act.put, List.setIfInBounds_toArray, List.set_cons_zero, List.set_cons_succ]
  refine wpAnyH_take (i := 11) (oi := { dst := some 95, op := Op.load 9 (Operand.tmp 94), type := 9, pos := "law.go:55", after := #[{ on := 10, ground := Ground.data }], guard := none }) (v := .string (strOf l)) rfl (by kernel_rfl) (by kernel_rfl) (by kernel_rfl) (fun _ _ _ h => h.elim) (Or.inl ⟨by rfl, ?y11⟩) hS0.out ?_
  case y11 =>
    intro V hV
    have q : V.cell? ⟨g, i, none⟩ = some (.string (strOf l)) := ((show Below A.heap.size A V from hV).cell (p := ⟨g, _, none⟩) HL.out.2.2).trans HC.out.2.2
    go_simp
  simp only [Act.put, List.setIfInBounds_toArray, List.set_cons_zero, List.set_cons_succ]
  refine wpAnyH_take (i := 12) (oi := { dst := some 96, op := Op.binOp BinOp.neq 9 (Operand.tmp 88) (Operand.tmp 95) 9, type := 4, pos := "law.go:55", after := #[{ on := 4, ground := Ground.data }, { on := 11, ground := Ground.data }], guard := none }) (v := .bool false) rfl (by kernel_rfl) (by kernel_rfl) (by kernel_rfl) (fun _ _ _ h => h.elim) (Or.inl ⟨by rfl, ?y12⟩) hS0.out ?_
  case y12 =>
    intro V hV
    go_simp
  simp only [Act.put, List.setIfInBounds_toArray, List.set_cons_zero, List.set_cons_succ]
  refine wpAnyH_done (by kernel_rfl) ?_ _
  exact hQ
#print axioms same_region13
end Go.Proofs.Ytmhdldhplhffcaa.Oct
