/-
  Layer 5 (disk): the one condition within the law DiskSure's first loop, whatever its order.
-/
import Derived.Test.YtebgemidemiapaaTrio
import Derived.Deep.RegionHeldLaw
namespace Go.Proofs.Ytebgemidemiapaa.Oct
open Go.RowKit Go.Maps Go.Lib
set_option maxRecDepth 100000 in
set_option maxHeartbeats 2000000 in
theorem sr_no {Q : Exit → Act → World → Prop} {x0 x1 x2 x3 x4 x5 x6 x8 x9 x12 x13 x14 x15 x16 x17 x18 x19 x20 x21 x22 x23 x24 x25 x26 x27 x28 x29 x30 x31 x32 x33 x34 x35 x36 x37 x38 x39 x40 x41 x42 x43 x44 x45 x46 x47 x48 x49 x50 x51 x52 x53 x54 x55 x56 x57 x58 x59 x60 x61 x62 x63 x64 x65 x66 x67 x68 x69 x70 x71 x72 x73 x74 x75 x76 x77 x78 x79 x80 x81 x82 x83 x84 x85 x86 x87 x88 x89 x90 x91 x92 x93 x94 x95 x96 x97 x98 x99 x100 x101 x102 x103 x104 x105 x106 x107 x108 x109 x110 x111 x112 x113 x114 x115 x116 x117 x118 x119 x120 x121 : Value} {ds : List Deferred} {A : World} {d BA t : Nat}
    (ht : ¬ (t : Int) < 20) (hQ : Q .normal { tmps := #[x0, x1, x2, x3, x4, x5, x6, .pointer (some ⟨d, 0, none⟩), x8, x9, .int .i64 (t : Int), .pointer (some ⟨BA, 0, none⟩), x12, x13, x14, x15, x16, x17, x18, x19, x20, x21, x22, x23, x24, x25, x26, x27, x28, x29, x30, x31, x32, x33, x34, x35, x36, x37, .int .i64 (t : Int), .bool false, .bool false, undef, undef, undef, undef, undef, undef, undef, undef, undef, undef, undef, undef, .bool false, x54, x55, x56, x57, x58, x59, x60, x61, x62, x63, x64, x65, x66, x67, x68, x69, x70, x71, x72, x73, x74, x75, x76, x77, x78, x79, x80, x81, x82, x83, x84, x85, x86, x87, x88, x89, x90, x91, x92, x93, x94, x95, x96, x97, x98, x99, x100, x101, x102, x103, x104, x105, x106, x107, x108, x109, x110, x111, x112, x113, x114, x115, x116, x117, x118, x119, x120, x121], defers := ds } A.drew) :
    (Code.region 13 #[{ dst := some 38, op := Op.move (Operand.tmp 10), type := 3, pos := "law.go:157", after := #[], guard := none }, { dst := some 39, op := Op.binOp BinOp.lss 3 (Operand.tmp 38) (Operand.const (Value.int IntKind.i64 20)) 3, type := 4, pos := "law.go:157", after := #[{ on := 0, ground := Ground.data }], guard := none }, { dst := some 40, op := Op.move (Operand.tmp 39), type := 4, pos := "law.go:157", after := #[{ on := 1, ground := Ground.data }], guard := none }, { dst := some 41, op := Op.move (Operand.tmp 7), type := 23, pos := "law.go:157", after := #[{ on := 2, ground := Ground.guard }], guard := some (2, true) }, { dst := some 42, op := Op.fieldAddr 33 (Operand.tmp 11) 1, type := 0, pos := "law.go:157", after := #[{ on := 2, ground := Ground.guard }], guard := some (2, true) }, { dst := some 43, op := Op.load 3 (Operand.tmp 42), type := 3, pos := "law.go:157", after := #[{ on := 4, ground := Ground.data }, { on := 2, ground := Ground.guard }], guard := some (2, true) }, { dst := some 44, op := Op.convert 3 48 (Operand.tmp 43), type := 48, pos := "law.go:157", after := #[{ on := 5, ground := Ground.data }, { on := 2, ground := Ground.guard }], guard := some (2, true) }, { dst := some 45, op := Op.binOp BinOp.rem 48 (Operand.tmp 44) (Operand.const (Value.int IntKind.u64 4)) 48, type := 48, pos := "law.go:157", after := #[{ on := 6, ground := Ground.data }, { on := 2, ground := Ground.guard }], guard := some (2, true) }, { dst := some 46, op := Op.convert 48 3 (Operand.tmp 45), type := 3, pos := "law.go:157", after := #[{ on := 7, ground := Ground.data }, { on := 2, ground := Ground.guard }], guard := some (2, true) }, { dst := some 47, op := Op.fieldAddr 33 (Operand.tmp 11) 2, type := 0, pos := "law.go:157", after := #[{ on := 2, ground := Ground.guard }], guard := some (2, true) }, { dst := some 48, op := Op.load 30 (Operand.tmp 47), type := 30, pos := "law.go:157", after := #[{ on := 9, ground := Ground.data }, { on := 2, ground := Ground.guard }], guard := some (2, true) }, { dst := some 49, op := Op.call { callee := Callee.value (Operand.func 19), args := #[Operand.tmp 48], argTypes := #[30] }, type := 9, pos := "law.go:157", after := #[{ on := 10, ground := Ground.data }, { on := 2, ground := Ground.chain }, { on := 2, ground := Ground.guard }], guard := some (2, true) }, { dst := some 50, op := Op.convert 9 30 (Operand.tmp 49), type := 30, pos := "law.go:157", after := #[{ on := 11, ground := Ground.data }, { on := 2, ground := Ground.guard }], guard := some (2, true) }, { dst := some 51, op := Op.call { callee := Callee.value (Operand.func 18), args := #[Operand.tmp 41, Operand.tmp 46, Operand.tmp 50], argTypes := #[23, 3, 30] }, type := 24, pos := "law.go:157", after := #[{ on := 3, ground := Ground.data }, { on := 8, ground := Ground.data }, { on := 12, ground := Ground.data }, { on := 11, ground := Ground.chain }, { on := 2, ground := Ground.guard }], guard := some (2, true) }, { dst := some 52, op := Op.binOp BinOp.eql 24 (Operand.tmp 51) (Operand.const (Value.int IntKind.i64 0)) 24, type := 4, pos := "law.go:157", after := #[{ on := 13, ground := Ground.data }, { on := 2, ground := Ground.guard }], guard := some (2, true) }, { dst := some 53, op := Op.pick (Operand.tmp 40) (Operand.tmp 52) (Operand.const (Value.bool false)), type := 4, pos := "law.go:157", after := #[{ on := 2, ground := Ground.data }, { on := 14, ground := Ground.data }], guard := none }] true).wp Try.prog Q { tmps := #[x0, x1, x2, x3, x4, x5, x6, .pointer (some ⟨d, 0, none⟩), x8, x9, .int .i64 (t : Int), .pointer (some ⟨BA, 0, none⟩), x12, x13, x14, x15, x16, x17, x18, x19, x20, x21, x22, x23, x24, x25, x26, x27, x28, x29, x30, x31, x32, x33, x34, x35, x36, x37, x38, x39, x40, x41, x42, x43, x44, x45, x46, x47, x48, x49, x50, x51, x52, x53, x54, x55, x56, x57, x58, x59, x60, x61, x62, x63, x64, x65, x66, x67, x68, x69, x70, x71, x72, x73, x74, x75, x76, x77, x78, x79, x80, x81, x82, x83, x84, x85, x86, x87, x88, x89, x90, x91, x92, x93, x94, x95, x96, x97, x98, x99, x100, x101, x102, x103, x104, x105, x106, x107, x108, x109, x110, x111, x112, x113, x114, x115, x116, x117, x118, x119, x120, x121], defers := ds } A := by
  refine Code.wp_mono (Q := fun x a' w' => match x with | .normal => Q .normal a' w' | _ => False) (by intro x a' w' h; cases x <;> first | exact h | exact h.elim) ?_
  obtain ⟨S, hSd⟩ : ∃ S : World → Prop, S = fun W => W = W := ⟨_, rfl⟩
  refine wp_region_held (S := S) (by kernel_rfl) ?_
  have hS : S A.drew := by rw [hSd]
  change wpAnyH Try.prog .any _ _ S 16 (Array.replicate 16 false) _ A.drew
  refine wpAnyH_take (i := 0) (oi := { dst := some 38, op := Op.move (Operand.tmp 10), type := 3, pos := "law.go:157", after := #[], guard := none }) (v := .int .i64 (t : Int)) rfl (by kernel_rfl) (by kernel_rfl) (by kernel_rfl) (fun _ _ _ h => h.elim) (Or.inl ⟨by rfl, ?y0⟩) hS ?_
  case y0 =>
    intro W hW
    rw [hSd] at hW
    go_simp
  simp only [Act.put, List.setIfInBounds_toArray, List.set_cons_zero, List.set_cons_succ]
  refine wpAnyH_take (i := 1) (oi := { dst := some 39, op := Op.binOp BinOp.lss 3 (Operand.tmp 38) (Operand.const (Value.int IntKind.i64 20)) 3, type := 4, pos := "law.go:157", after := #[{ on := 0, ground := Ground.data }], guard := none }) (v := .bool false) rfl (by kernel_rfl) (by kernel_rfl) (by kernel_rfl) (fun _ _ _ h => h.elim) (Or.inl ⟨by rfl, ?y1⟩) hS ?_
  case y1 =>
    intro W hW
    rw [hSd] at hW
    go_simp
  simp only [Act.put, List.setIfInBounds_toArray, List.set_cons_zero, List.set_cons_succ]
  refine wpAnyH_take (i := 2) (oi := { dst := some 40, op := Op.move (Operand.tmp 39), type := 4, pos := "law.go:157", after := #[{ on := 1, ground := Ground.data }], guard := none }) (v := .bool false) rfl (by kernel_rfl) (by kernel_rfl) (by kernel_rfl) (fun _ _ _ h => h.elim) (Or.inl ⟨by rfl, ?y2⟩) hS ?_
  case y2 =>
    intro W hW
    rw [hSd] at hW
    go_simp
  simp only [Act.put, List.setIfInBounds_toArray, List.set_cons_zero, List.set_cons_succ]
  refine wpAnyH_take (i := 3) (oi := { dst := some 41, op := Op.move (Operand.tmp 7), type := 23, pos := "law.go:157", after := #[{ on := 2, ground := Ground.guard }], guard := some (2, true) }) (v := undef) rfl (by kernel_rfl) (by kernel_rfl) (by kernel_rfl) (fun _ _ _ h => h.elim) (Or.inr ⟨by rfl, rfl⟩) hS ?_
  simp only [Act.put, List.setIfInBounds_toArray, List.set_cons_zero, List.set_cons_succ]
  refine wpAnyH_take (i := 4) (oi := { dst := some 42, op := Op.fieldAddr 33 (Operand.tmp 11) 1, type := 0, pos := "law.go:157", after := #[{ on := 2, ground := Ground.guard }], guard := some (2, true) }) (v := undef) rfl (by kernel_rfl) (by kernel_rfl) (by kernel_rfl) (fun _ _ _ h => h.elim) (Or.inr ⟨by rfl, rfl⟩) hS ?_
  simp only [Act.put, List.setIfInBounds_toArray, List.set_cons_zero, List.set_cons_succ]
  refine wpAnyH_take (i := 5) (oi := { dst := some 43, op := Op.load 3 (Operand.tmp 42), type := 3, pos := "law.go:157", after := #[{ on := 4, ground := Ground.data }, { on := 2, ground := Ground.guard }], guard := some (2, true) }) (v := undef) rfl (by kernel_rfl) (by kernel_rfl) (by kernel_rfl) (fun _ _ _ h => h.elim) (Or.inr ⟨by rfl, rfl⟩) hS ?_
  simp only [Act.put, List.setIfInBounds_toArray, List.set_cons_zero, List.set_cons_succ]
  refine wpAnyH_take (i := 6) (oi := { dst := some 44, op := Op.convert 3 48 (Operand.tmp 43), type := 48, pos := "law.go:157", after := #[{ on := 5, ground := Ground.data }, { on := 2, ground := Ground.guard }], guard := some (2, true) }) (v := undef) rfl (by kernel_rfl) (by kernel_rfl) (by kernel_rfl) (fun _ _ _ h => h.elim) (Or.inr ⟨by rfl, rfl⟩) hS ?_
  simp only [Act.put, List.setIfInBounds_toArray, List.set_cons_zero, List.set_cons_succ]
  refine wpAnyH_take (i := 7) (oi := { dst := some 45, op := Op.binOp BinOp.rem 48 (Operand.tmp 44) (Operand.const (Value.int IntKind.u64 4)) 48, type := 48, pos := "law.go:157", after := #[{ on := 6, ground := Ground.data }, { on := 2, ground := Ground.guard }], guard := some (2, true) }) (v := undef) rfl (by kernel_rfl) (by kernel_rfl) (by kernel_rfl) (fun _ _ _ h => h.elim) (Or.inr ⟨by rfl, rfl⟩) hS ?_
  simp only [Act.put, List.setIfInBounds_toArray, List.set_cons_zero, List.set_cons_succ]
  refine wpAnyH_take (i := 8) (oi := { dst := some 46, op := Op.convert 48 3 (Operand.tmp 45), type := 3, pos := "law.go:157", after := #[{ on := 7, ground := Ground.data }, { on := 2, ground := Ground.guard }], guard := some (2, true) }) (v := undef) rfl (by kernel_rfl) (by kernel_rfl) (by kernel_rfl) (fun _ _ _ h => h.elim) (Or.inr ⟨by rfl, rfl⟩) hS ?_
  simp only [Act.put, List.setIfInBounds_toArray, List.set_cons_zero, List.set_cons_succ]
  refine wpAnyH_take (i := 9) (oi := { dst := some 47, op := Op.fieldAddr 33 (Operand.tmp 11) 2, type := 0, pos := "law.go:157", after := #[{ on := 2, ground := Ground.guard }], guard := some (2, true) }) (v := undef) rfl (by kernel_rfl) (by kernel_rfl) (by kernel_rfl) (fun _ _ _ h => h.elim) (Or.inr ⟨by rfl, rfl⟩) hS ?_
  simp only [Act.put, List.setIfInBounds_toArray, List.set_cons_zero, List.set_cons_succ]
  refine wpAnyH_take (i := 10) (oi := { dst := some 48, op := Op.load 30 (Operand.tmp 47), type := 30, pos := "law.go:157", after := #[{ on := 9, ground := Ground.data }, { on := 2, ground := Ground.guard }], guard := some (2, true) }) (v := undef) rfl (by kernel_rfl) (by kernel_rfl) (by kernel_rfl) (fun _ _ _ h => h.elim) (Or.inr ⟨by rfl, rfl⟩) hS ?_
  simp only [Act.put, List.setIfInBounds_toArray, List.set_cons_zero, List.set_cons_succ]
  refine wpAnyH_take (i := 11) (oi := { dst := some 49, op := Op.call { callee := Callee.value (Operand.func 19), args := #[Operand.tmp 48], argTypes := #[30] }, type := 9, pos := "law.go:157", after := #[{ on := 10, ground := Ground.data }, { on := 2, ground := Ground.chain }, { on := 2, ground := Ground.guard }], guard := some (2, true) }) (v := undef) rfl (by kernel_rfl) (by kernel_rfl) (by kernel_rfl) (fun _ _ _ h => h.elim) (Or.inr ⟨by rfl, rfl⟩) hS ?_
  simp only [Act.put, List.setIfInBounds_toArray, List.set_cons_zero, List.set_cons_succ]
  refine wpAnyH_take (i := 12) (oi := { dst := some 50, op := Op.convert 9 30 (Operand.tmp 49), type := 30, pos := "law.go:157", after := #[{ on := 11, ground := Ground.data }, { on := 2, ground := Ground.guard }], guard := some (2, true) }) (v := undef) rfl (by kernel_rfl) (by kernel_rfl) (by kernel_rfl) (fun _ _ _ h => h.elim) (Or.inr ⟨by rfl, rfl⟩) hS ?_
  simp only [Act.put, List.setIfInBounds_toArray, List.set_cons_zero, List.set_cons_succ]
  refine wpAnyH_take (i := 13) (oi := { dst := some 51, op := Op.call { callee := Callee.value (Operand.func 18), args := #[Operand.tmp 41, Operand.tmp 46, Operand.tmp 50], argTypes := #[23, 3, 30] }, type := 24, pos := "law.go:157", after := #[{ on := 3, ground := Ground.data }, { on := 8, ground := Ground.data }, { on := 12, ground := Ground.data }, { on := 11, ground := Ground.chain }, { on := 2, ground := Ground.guard }], guard := some (2, true) }) (v := undef) rfl (by kernel_rfl) (by kernel_rfl) (by kernel_rfl) (fun _ _ _ h => h.elim) (Or.inr ⟨by rfl, rfl⟩) hS ?_
  simp only [Act.put, List.setIfInBounds_toArray, List.set_cons_zero, List.set_cons_succ]
  refine wpAnyH_take (i := 14) (oi := { dst := some 52, op := Op.binOp BinOp.eql 24 (Operand.tmp 51) (Operand.const (Value.int IntKind.i64 0)) 24, type := 4, pos := "law.go:157", after := #[{ on := 13, ground := Ground.data }, { on := 2, ground := Ground.guard }], guard := some (2, true) }) (v := undef) rfl (by kernel_rfl) (by kernel_rfl) (by kernel_rfl) (fun _ _ _ h => h.elim) (Or.inr ⟨by rfl, rfl⟩) hS ?_
  simp only [Act.put, List.setIfInBounds_toArray, List.set_cons_zero, List.set_cons_succ]
  refine wpAnyH_take (i := 15) (oi := { dst := some 53, op := Op.pick (Operand.tmp 40) (Operand.tmp 52) (Operand.const (Value.bool false)), type := 4, pos := "law.go:157", after := #[{ on := 2, ground := Ground.data }, { on := 14, ground := Ground.data }], guard := none }) (v := .bool false) rfl (by kernel_rfl) (by kernel_rfl) (by kernel_rfl) (fun _ _ _ h => h.elim) (Or.inl ⟨by rfl, ?y15⟩) hS ?_
  case y15 =>
    intro W hW
    rw [hSd] at hW
    go_simp
  simp only [Act.put, List.setIfInBounds_toArray, List.set_cons_zero, List.set_cons_succ]
  refine wpAnyH_done (by kernel_rfl) ?_ _
  exact hQ
#print axioms sr_no
set_option maxRecDepth 100000 in
set_option maxHeartbeats 2000000 in
theorem sr_yes {Q : Exit → Act → World → Prop} {x0 x1 x2 x3 x4 x5 x6 x8 x9 x12 x13 x14 x15 x16 x17 x18 x19 x20 x21 x22 x23 x24 x25 x26 x27 x28 x29 x30 x31 x32 x33 x34 x35 x36 x37 x38 x39 x40 x41 x42 x43 x44 x45 x46 x47 x48 x49 x50 x51 x52 x53 x54 x55 x56 x57 x58 x59 x60 x61 x62 x63 x64 x65 x66 x67 x68 x69 x70 x71 x72 x73 x74 x75 x76 x77 x78 x79 x80 x81 x82 x83 x84 x85 x86 x87 x88 x89 x90 x91 x92 x93 x94 x95 x96 x97 x98 x99 x100 x101 x102 x103 x104 x105 x106 x107 x108 x109 x110 x111 x112 x113 x114 x115 x116 x117 x118 x119 x120 x121 : Value} {ds : List Deferred} {A : World} {d BA t : Nat} {q L C : Nat} {n un : Int} {Av : Option Addr} {R3 : ByteArray → World → World → Value → Prop} {R5 : World → Prop}
    (ht : (t : Int) < 20) (c1 : A.cell? ⟨BA, 1, none⟩ = some (.int .i64 n)) (c2 : A.cell? ⟨BA, 2, none⟩ = some (.slice Av L C)) (hun : IntKind.u64.wrap n = un) (hq : un.tmod 4 = (q : Int)) (hq4 : q < 4)
    (h19 : Calls Try.prog 19 #[.slice Av L C] A.drew fun e w3 => ∃ sw v4 w4, e = .returned (.string sw) ∧ (convert 9 30 (.string sw)).run Try.prog w3 = .ok v4 w4 ∧ Hid (R3 sw w3 w4 v4))
    (h34 : ∀ sw w3 w4 v4, R3 sw w3 w4 v4 → (w3.cell? ⟨BA, 1, none⟩ = some (.int .i64 n) ∧ w3.cell? ⟨BA, 2, none⟩ = some (.slice Av L C)) ∧ (w4.cell? ⟨BA, 1, none⟩ = some (.int .i64 n) ∧ w4.cell? ⟨BA, 2, none⟩ = some (.slice Av L C)))
    (h18 : ∀ sw w3 w4 v4, R3 sw w3 w4 v4 → Calls Try.prog 18 #[.pointer (some ⟨d, 0, none⟩), .int .i64 (q : Int), v4] w4 fun e w5 => e = .returned (.int .i64 0) ∧ Hid (R5 w5))
    (h5 : ∀ w5, R5 w5 → w5.cell? ⟨BA, 1, none⟩ = some (.int .i64 n) ∧ w5.cell? ⟨BA, 2, none⟩ = some (.slice Av L C))
    (hQ : ∀ sw v4 w5, R5 w5 → Q .normal { tmps := #[x0, x1, x2, x3, x4, x5, x6, .pointer (some ⟨d, 0, none⟩), x8, x9, .int .i64 (t : Int), .pointer (some ⟨BA, 0, none⟩), x12, x13, x14, x15, x16, x17, x18, x19, x20, x21, x22, x23, x24, x25, x26, x27, x28, x29, x30, x31, x32, x33, x34, x35, x36, x37, .int .i64 (t : Int), .bool true, .bool true, .pointer (some ⟨d, 0, none⟩), .pointer (some ⟨BA, 1, none⟩), .int .i64 n, .int .u64 un, .int .u64 (q : Int), .int .i64 (q : Int), .pointer (some ⟨BA, 2, none⟩), .slice Av L C, .string sw, v4, .int .i64 0, .bool true, .bool true, x54, x55, x56, x57, x58, x59, x60, x61, x62, x63, x64, x65, x66, x67, x68, x69, x70, x71, x72, x73, x74, x75, x76, x77, x78, x79, x80, x81, x82, x83, x84, x85, x86, x87, x88, x89, x90, x91, x92, x93, x94, x95, x96, x97, x98, x99, x100, x101, x102, x103, x104, x105, x106, x107, x108, x109, x110, x111, x112, x113, x114, x115, x116, x117, x118, x119, x120, x121], defers := ds } w5) :
    (Code.region 13 #[{ dst := some 38, op := Op.move (Operand.tmp 10), type := 3, pos := "law.go:157", after := #[], guard := none }, { dst := some 39, op := Op.binOp BinOp.lss 3 (Operand.tmp 38) (Operand.const (Value.int IntKind.i64 20)) 3, type := 4, pos := "law.go:157", after := #[{ on := 0, ground := Ground.data }], guard := none }, { dst := some 40, op := Op.move (Operand.tmp 39), type := 4, pos := "law.go:157", after := #[{ on := 1, ground := Ground.data }], guard := none }, { dst := some 41, op := Op.move (Operand.tmp 7), type := 23, pos := "law.go:157", after := #[{ on := 2, ground := Ground.guard }], guard := some (2, true) }, { dst := some 42, op := Op.fieldAddr 33 (Operand.tmp 11) 1, type := 0, pos := "law.go:157", after := #[{ on := 2, ground := Ground.guard }], guard := some (2, true) }, { dst := some 43, op := Op.load 3 (Operand.tmp 42), type := 3, pos := "law.go:157", after := #[{ on := 4, ground := Ground.data }, { on := 2, ground := Ground.guard }], guard := some (2, true) }, { dst := some 44, op := Op.convert 3 48 (Operand.tmp 43), type := 48, pos := "law.go:157", after := #[{ on := 5, ground := Ground.data }, { on := 2, ground := Ground.guard }], guard := some (2, true) }, { dst := some 45, op := Op.binOp BinOp.rem 48 (Operand.tmp 44) (Operand.const (Value.int IntKind.u64 4)) 48, type := 48, pos := "law.go:157", after := #[{ on := 6, ground := Ground.data }, { on := 2, ground := Ground.guard }], guard := some (2, true) }, { dst := some 46, op := Op.convert 48 3 (Operand.tmp 45), type := 3, pos := "law.go:157", after := #[{ on := 7, ground := Ground.data }, { on := 2, ground := Ground.guard }], guard := some (2, true) }, { dst := some 47, op := Op.fieldAddr 33 (Operand.tmp 11) 2, type := 0, pos := "law.go:157", after := #[{ on := 2, ground := Ground.guard }], guard := some (2, true) }, { dst := some 48, op := Op.load 30 (Operand.tmp 47), type := 30, pos := "law.go:157", after := #[{ on := 9, ground := Ground.data }, { on := 2, ground := Ground.guard }], guard := some (2, true) }, { dst := some 49, op := Op.call { callee := Callee.value (Operand.func 19), args := #[Operand.tmp 48], argTypes := #[30] }, type := 9, pos := "law.go:157", after := #[{ on := 10, ground := Ground.data }, { on := 2, ground := Ground.chain }, { on := 2, ground := Ground.guard }], guard := some (2, true) }, { dst := some 50, op := Op.convert 9 30 (Operand.tmp 49), type := 30, pos := "law.go:157", after := #[{ on := 11, ground := Ground.data }, { on := 2, ground := Ground.guard }], guard := some (2, true) }, { dst := some 51, op := Op.call { callee := Callee.value (Operand.func 18), args := #[Operand.tmp 41, Operand.tmp 46, Operand.tmp 50], argTypes := #[23, 3, 30] }, type := 24, pos := "law.go:157", after := #[{ on := 3, ground := Ground.data }, { on := 8, ground := Ground.data }, { on := 12, ground := Ground.data }, { on := 11, ground := Ground.chain }, { on := 2, ground := Ground.guard }], guard := some (2, true) }, { dst := some 52, op := Op.binOp BinOp.eql 24 (Operand.tmp 51) (Operand.const (Value.int IntKind.i64 0)) 24, type := 4, pos := "law.go:157", after := #[{ on := 13, ground := Ground.data }, { on := 2, ground := Ground.guard }], guard := some (2, true) }, { dst := some 53, op := Op.pick (Operand.tmp 40) (Operand.tmp 52) (Operand.const (Value.bool false)), type := 4, pos := "law.go:157", after := #[{ on := 2, ground := Ground.data }, { on := 14, ground := Ground.data }], guard := none }] true).wp Try.prog Q { tmps := #[x0, x1, x2, x3, x4, x5, x6, .pointer (some ⟨d, 0, none⟩), x8, x9, .int .i64 (t : Int), .pointer (some ⟨BA, 0, none⟩), x12, x13, x14, x15, x16, x17, x18, x19, x20, x21, x22, x23, x24, x25, x26, x27, x28, x29, x30, x31, x32, x33, x34, x35, x36, x37, x38, x39, x40, x41, x42, x43, x44, x45, x46, x47, x48, x49, x50, x51, x52, x53, x54, x55, x56, x57, x58, x59, x60, x61, x62, x63, x64, x65, x66, x67, x68, x69, x70, x71, x72, x73, x74, x75, x76, x77, x78, x79, x80, x81, x82, x83, x84, x85, x86, x87, x88, x89, x90, x91, x92, x93, x94, x95, x96, x97, x98, x99, x100, x101, x102, x103, x104, x105, x106, x107, x108, x109, x110, x111, x112, x113, x114, x115, x116, x117, x118, x119, x120, x121], defers := ds } A := by
  refine Code.wp_mono (Q := fun x a' w' => match x with | .normal => Q .normal a' w' | _ => False) (by intro x a' w' h; cases x <;> first | exact h | exact h.elim) ?_
  obtain ⟨S, hSd⟩ : ∃ S : World → Prop, S = fun W => W.cell? ⟨BA, 1, none⟩ = some (.int .i64 n) ∧ W.cell? ⟨BA, 2, none⟩ = some (.slice Av L C) := ⟨_, rfl⟩
  refine wp_region_held (S := S) (by kernel_rfl) ?_
  have hS : S A.drew := by rw [hSd]; exact ⟨c1, c2⟩
  have hwq : IntKind.i64.wrap (q : Int) = (q : Int) := wrapi (by omega) (by omega)
  have H19 : Hid (Calls Try.prog 19 #[.slice Av L C] A.drew fun e w3 => ∃ sw v4 w4, e = .returned (.string sw) ∧ (convert 9 30 (.string sw)).run Try.prog w3 = .ok v4 w4 ∧ Hid (R3 sw w3 w4 v4)) := h19
  clear h19
  change wpAnyH Try.prog .any _ _ S 16 (Array.replicate 16 false) _ A.drew
  refine wpAnyH_take (i := 0) (oi := { dst := some 38, op := Op.move (Operand.tmp 10), type := 3, pos := "law.go:157", after := #[], guard := none }) (v := .int .i64 (t : Int)) rfl (by kernel_rfl) (by kernel_rfl) (by kernel_rfl) (fun _ _ _ h => h.elim) (Or.inl ⟨by rfl, ?y0⟩) hS ?_
  case y0 =>
    intro W hW
    rw [hSd] at hW; obtain ⟨s1, s2⟩ := hW
    go_simp
  simp only [Act.put, List.setIfInBounds_toArray, List.set_cons_zero, List.set_cons_succ]
  refine wpAnyH_take (i := 1) (oi := { dst := some 39, op := Op.binOp BinOp.lss 3 (Operand.tmp 38) (Operand.const (Value.int IntKind.i64 20)) 3, type := 4, pos := "law.go:157", after := #[{ on := 0, ground := Ground.data }], guard := none }) (v := .bool true) rfl (by kernel_rfl) (by kernel_rfl) (by kernel_rfl) (fun _ _ _ h => h.elim) (Or.inl ⟨by rfl, ?y1⟩) hS ?_
  case y1 =>
    intro W hW
    rw [hSd] at hW; obtain ⟨s1, s2⟩ := hW
    go_simp
  simp only [Act.put, List.setIfInBounds_toArray, List.set_cons_zero, List.set_cons_succ]
  refine wpAnyH_take (i := 2) (oi := { dst := some 40, op := Op.move (Operand.tmp 39), type := 4, pos := "law.go:157", after := #[{ on := 1, ground := Ground.data }], guard := none }) (v := .bool true) rfl (by kernel_rfl) (by kernel_rfl) (by kernel_rfl) (fun _ _ _ h => h.elim) (Or.inl ⟨by rfl, ?y2⟩) hS ?_
  case y2 =>
    intro W hW
    rw [hSd] at hW; obtain ⟨s1, s2⟩ := hW
    go_simp
  simp only [Act.put, List.setIfInBounds_toArray, List.set_cons_zero, List.set_cons_succ]
  refine wpAnyH_take (i := 3) (oi := { dst := some 41, op := Op.move (Operand.tmp 7), type := 23, pos := "law.go:157", after := #[{ on := 2, ground := Ground.guard }], guard := some (2, true) }) (v := .pointer (some ⟨d, 0, none⟩)) rfl (by kernel_rfl) (by kernel_rfl) (by kernel_rfl) (fun _ _ _ h => h.elim) (Or.inl ⟨by rfl, ?y3⟩) hS ?_
  case y3 =>
    intro W hW
    rw [hSd] at hW; obtain ⟨s1, s2⟩ := hW
    go_simp
  simp only [Act.put, List.setIfInBounds_toArray, List.set_cons_zero, List.set_cons_succ]
  refine wpAnyH_take (i := 4) (oi := { dst := some 42, op := Op.fieldAddr 33 (Operand.tmp 11) 1, type := 0, pos := "law.go:157", after := #[{ on := 2, ground := Ground.guard }], guard := some (2, true) }) (v := .pointer (some ⟨BA, 1, none⟩)) rfl (by kernel_rfl) (by kernel_rfl) (by kernel_rfl) (fun _ _ _ h => h.elim) (Or.inl ⟨by rfl, ?y4⟩) hS ?_
  case y4 =>
    intro W hW
    rw [hSd] at hW; obtain ⟨s1, s2⟩ := hW
    go_simp
  simp only [Act.put, List.setIfInBounds_toArray, List.set_cons_zero, List.set_cons_succ]
  refine wpAnyH_take (i := 5) (oi := { dst := some 43, op := Op.load 3 (Operand.tmp 42), type := 3, pos := "law.go:157", after := #[{ on := 4, ground := Ground.data }, { on := 2, ground := Ground.guard }], guard := some (2, true) }) (v := .int .i64 n) rfl (by kernel_rfl) (by kernel_rfl) (by kernel_rfl) (fun _ _ _ h => h.elim) (Or.inl ⟨by rfl, ?y5⟩) hS ?_
  case y5 =>
    intro W hW
    rw [hSd] at hW; obtain ⟨s1, s2⟩ := hW
    go_simp
  simp only [Act.put, List.setIfInBounds_toArray, List.set_cons_zero, List.set_cons_succ]
  refine wpAnyH_take (i := 6) (oi := { dst := some 44, op := Op.convert 3 48 (Operand.tmp 43), type := 48, pos := "law.go:157", after := #[{ on := 5, ground := Ground.data }, { on := 2, ground := Ground.guard }], guard := some (2, true) }) (v := .int .u64 un) rfl (by kernel_rfl) (by kernel_rfl) (by kernel_rfl) (fun _ _ _ h => h.elim) (Or.inl ⟨by rfl, ?y6⟩) hS ?_
  case y6 =>
    intro W hW
    rw [hSd] at hW; obtain ⟨s1, s2⟩ := hW
    go_simp
  simp only [Act.put, List.setIfInBounds_toArray, List.set_cons_zero, List.set_cons_succ]
  refine wpAnyH_take (i := 7) (oi := { dst := some 45, op := Op.binOp BinOp.rem 48 (Operand.tmp 44) (Operand.const (Value.int IntKind.u64 4)) 48, type := 48, pos := "law.go:157", after := #[{ on := 6, ground := Ground.data }, { on := 2, ground := Ground.guard }], guard := some (2, true) }) (v := .int .u64 (q : Int)) rfl (by kernel_rfl) (by kernel_rfl) (by kernel_rfl) (fun _ _ _ h => h.elim) (Or.inl ⟨by rfl, ?y7⟩) hS ?_
  case y7 =>
    intro W hW
    rw [hSd] at hW; obtain ⟨s1, s2⟩ := hW
    go_simp
  simp only [Act.put, List.setIfInBounds_toArray, List.set_cons_zero, List.set_cons_succ]
  refine wpAnyH_take (i := 8) (oi := { dst := some 46, op := Op.convert 48 3 (Operand.tmp 45), type := 3, pos := "law.go:157", after := #[{ on := 7, ground := Ground.data }, { on := 2, ground := Ground.guard }], guard := some (2, true) }) (v := .int .i64 (q : Int)) rfl (by kernel_rfl) (by kernel_rfl) (by kernel_rfl) (fun _ _ _ h => h.elim) (Or.inl ⟨by rfl, ?y8⟩) hS ?_
  case y8 =>
    intro W hW
    rw [hSd] at hW; obtain ⟨s1, s2⟩ := hW
    go_simp
  simp only [Act.put, List.setIfInBounds_toArray, List.set_cons_zero, List.set_cons_succ]
  refine wpAnyH_take (i := 9) (oi := { dst := some 47, op := Op.fieldAddr 33 (Operand.tmp 11) 2, type := 0, pos := "law.go:157", after := #[{ on := 2, ground := Ground.guard }], guard := some (2, true) }) (v := .pointer (some ⟨BA, 2, none⟩)) rfl (by kernel_rfl) (by kernel_rfl) (by kernel_rfl) (fun _ _ _ h => h.elim) (Or.inl ⟨by rfl, ?y9⟩) hS ?_
  case y9 =>
    intro W hW
    rw [hSd] at hW; obtain ⟨s1, s2⟩ := hW
    go_simp
  simp only [Act.put, List.setIfInBounds_toArray, List.set_cons_zero, List.set_cons_succ]
  refine wpAnyH_take (i := 10) (oi := { dst := some 48, op := Op.load 30 (Operand.tmp 47), type := 30, pos := "law.go:157", after := #[{ on := 9, ground := Ground.data }, { on := 2, ground := Ground.guard }], guard := some (2, true) }) (v := .slice Av L C) rfl (by kernel_rfl) (by kernel_rfl) (by kernel_rfl) (fun _ _ _ h => h.elim) (Or.inl ⟨by rfl, ?y10⟩) hS ?_
  case y10 =>
    intro W hW
    rw [hSd] at hW; obtain ⟨s1, s2⟩ := hW
    go_simp
  simp only [Act.put, List.setIfInBounds_toArray, List.set_cons_zero, List.set_cons_succ]
  refine wpAnyH_ready (rs := [11]) (by kernel_rfl) (by simp) (AllReadyH.cons (i := 11) (o := { dst := some 49, op := Op.call { callee := Callee.value (Operand.func 19), args := #[Operand.tmp 48], argTypes := #[30] }, type := 9, pos := "law.go:157", after := #[{ on := 10, ground := Ground.data }, { on := 2, ground := Ground.chain }, { on := 2, ground := Ground.guard }], guard := some (2, true) }) rfl ?_ AllReadyH.nil)
  intro K1 hK1
  rw [if_pos (by rfl)]
  go_wp2_with (first | (go_at_call 19; refine H19.out.mono ?_; rintro e w3 ⟨sw, v4, w4, rfl, kcv, H3⟩))
  refine hK1.out _ _ (by rw [hSd]; exact (h34 _ _ _ _ H3.out).1) ?_
  clear hS hK1
  intro hS
  try simp only [Act.put, List.setIfInBounds_toArray, List.set_cons_zero, List.set_cons_succ]
  refine wpAnyH_ready (rs := [12]) (by kernel_rfl) (by simp) (AllReadyH.cons (i := 12) (o := { dst := some 50, op := Op.convert 9 30 (Operand.tmp 49), type := 30, pos := "law.go:157", after := #[{ on := 11, ground := Ground.data }, { on := 2, ground := Ground.guard }], guard := some (2, true) }) rfl ?_ AllReadyH.nil)
  intro K2 hK2
  rw [if_pos (by rfl)]
  go_wp2
  refine hK2.out _ _ (by rw [hSd]; exact (h34 _ _ _ _ H3.out).2) ?_
  clear hS hK2
  intro hS
  try simp only [Act.put, List.setIfInBounds_toArray, List.set_cons_zero, List.set_cons_succ]
  refine wpAnyH_ready (rs := [13]) (by kernel_rfl) (by simp) (AllReadyH.cons (i := 13) (o := { dst := some 51, op := Op.call { callee := Callee.value (Operand.func 18), args := #[Operand.tmp 41, Operand.tmp 46, Operand.tmp 50], argTypes := #[23, 3, 30] }, type := 24, pos := "law.go:157", after := #[{ on := 3, ground := Ground.data }, { on := 8, ground := Ground.data }, { on := 12, ground := Ground.data }, { on := 11, ground := Ground.chain }, { on := 2, ground := Ground.guard }], guard := some (2, true) }) rfl ?_ AllReadyH.nil)
  intro K3 hK3
  rw [if_pos (by rfl)]
  have H18 : Hid (Calls Try.prog 18 #[.pointer (some ⟨d, 0, none⟩), .int .i64 (q : Int), v4] w4 fun e w5 => e = .returned (.int .i64 0) ∧ Hid (R5 w5)) := h18 _ _ _ _ H3.out
  go_wp2_with (first | (go_at_call 18; refine H18.out.mono ?_; rintro e w5 ⟨rfl, H5⟩))
  refine hK3.out _ _ (by rw [hSd]; exact h5 _ H5.out) ?_
  clear hS hK3
  intro hS
  try simp only [Act.put, List.setIfInBounds_toArray, List.set_cons_zero, List.set_cons_succ]
  refine wpAnyH_take (i := 14) (oi := { dst := some 52, op := Op.binOp BinOp.eql 24 (Operand.tmp 51) (Operand.const (Value.int IntKind.i64 0)) 24, type := 4, pos := "law.go:157", after := #[{ on := 13, ground := Ground.data }, { on := 2, ground := Ground.guard }], guard := some (2, true) }) (v := .bool true) rfl (by kernel_rfl) (by kernel_rfl) (by kernel_rfl) (fun _ _ _ h => h.elim) (Or.inl ⟨by rfl, ?y14⟩) hS ?_
  case y14 =>
    intro W hW
    rw [hSd] at hW; obtain ⟨s1, s2⟩ := hW
    go_simp
  simp only [Act.put, List.setIfInBounds_toArray, List.set_cons_zero, List.set_cons_succ]
  refine wpAnyH_take (i := 15) (oi := { dst := some 53, op := Op.pick (Operand.tmp 40) (Operand.tmp 52) (Operand.const (Value.bool false)), type := 4, pos := "law.go:157", after := #[{ on := 2, ground := Ground.data }, { on := 14, ground := Ground.data }], guard := none }) (v := .bool true) rfl (by kernel_rfl) (by kernel_rfl) (by kernel_rfl) (fun _ _ _ h => h.elim) (Or.inl ⟨by rfl, ?y15⟩) hS ?_
  case y15 =>
    intro W hW
    rw [hSd] at hW; obtain ⟨s1, s2⟩ := hW
    go_simp
  simp only [Act.put, List.setIfInBounds_toArray, List.set_cons_zero, List.set_cons_succ]
  refine wpAnyH_done (by kernel_rfl) ?_ _
  exact hQ _ _ _ H5.out
#print axioms sr_yes
end Go.Proofs.Ytebgemidemiapaa.Oct
