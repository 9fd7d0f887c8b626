/-
  Layer 12 (deps): DepsTurned: its last statement, whatever its order.
-/
import Derived.Test.YtijkpkcopjkhkaaItRow
namespace Go.Proofs.Ytijkpkcopjkhkaa.Oct
open Go.RowKit
set_option linter.unusedSimpArgs false

set_option maxRecDepth 100000 in
set_option maxHeartbeats 2000000 in
theorem turned_region {Q : Exit → Act → World → Prop} {x1 x2 x3 x4 x6 x8 x9 x10 x11 x16 x17 x18 x19 x20 x21 x22 x23 x24 x25 x26 x27 x28 x29 x30 x31 x32 x33 x34 x35 x36 x37 x38 x39 x40 x41 x42 x43 x44 x45 x46 x47 x48 x49 x50 x51 x52 x53 x54 x55 x56 x57 x58 x59 x60 x61 x62 x63 x64 x65 x66 x67 x68 x69 x70 x71 x72 x73 x74 x75 x76 x77 x78 x79 x80 x81 x82 x83 x84 x85 x86 x87 x88 x89 x90 x91 x92 x93 x94 x95 x96 x97 x98 x99 x100 x101 x102 x103 x104 x105 x106 x107 x108 x109 x110 x111 x112 x113 x114 x115 x116 x117 x118 x119 x120 x121 x122 x123 x124 x125 : Value} {ds : List Deferred} {A : World} {a pm pa pb : Option Addr} {len cap cm na ca nb cb hb : Nat} {er : Int} {h : Hs} {l m : List It} {hs : List Hs}
    (HK : Hid (A.rangeAt hb 0 (U h) ∧ hb < A.heap.size)) (HR : Hid (HsR A pa na hs ∧ HsR A pb nb hs ∧ na ≤ 100000 ∧ nb ≤ 100000)) (HI : Hid (Its A a len l ∧ Its A pm len m ∧ h.length = 32 ∧ len ≤ 256 ∧ many l ≤ 90000 ∧ many m ≤ 90000 ∧ Alike l m))
    (hQ : ∀ (p1 : Option Addr) (n1 c1 : Nat) (p2 : Option Addr) (n2 c2 : Nat) (p3 : Option Addr) (n3 c3 : Nat) (p4 : Option Addr) (n4 c4 : Nat) (p5 : Option Addr) (n5 c5 : Nat) (p6 : Option Addr) (n6 c6 : Nat) (b1 : Bool) (V : World), Below A.heap.size A V → Q .normal { tmps := #[.slice a len cap, x1, x2, x3, x4, .pointer (some ⟨hb, 0, none⟩), .bool true, .slice pm len cm, x8, x9, x10, x11, .slice pa na ca, .int .i64 er, .slice pb nb cb, .int .i64 er, x16, x17, x18, x19, x20, x21, x22, x23, x24, x25, x26, x27, x28, x29, x30, x31, x32, x33, x34, x35, x36, x37, x38, x39, x40, x41, x42, x43, x44, x45, x46, x47, x48, x49, x50, x51, x52, x53, x54, x55, x56, x57, x58, x59, x60, x61, x62, x63, x64, x65, x66, x67, x68, x69, x70, x71, x72, x73, x74, x75, x76, x77, x78, x79, x80, x81, x82, .int .i64 er, .int .i64 er, .bool true, .bool true, .slice pa na ca, .slice pb nb cb, .bool true, .bool true, .bool true, .slice a len cap, .agg (U h).toArray, .slice p1 n1 c1, .slice pm len cm, .agg (U h).toArray, .slice p2 n2 c2, .bool true, .bool true, .bool true, .slice a len cap, .agg (U h).toArray, .slice p3 n3 c3, .slice pm len cm, .agg (U h).toArray, .slice p4 n4 c4, .bool true, .bool true, .bool true, .slice a len cap, .slice p5 n5 c5, .slice pm len cm, .slice p6 n6 c6, .bool true, .bool true, .bool true, .slice a len cap, .bool b1, .slice pm len cm, .bool b1, .bool true, .bool true, .bool true, .bool true, .bool true], defers := ds } V) :
    (Code.region 18 #[{ dst := some 83, op := Op.move (Operand.tmp 13), type := 27, pos := "law.go:113", after := #[], guard := none }, { dst := some 84, op := Op.move (Operand.tmp 15), type := 27, pos := "law.go:113", after := #[], guard := none }, { dst := some 85, op := Op.binOp BinOp.eql 27 (Operand.tmp 83) (Operand.tmp 84) 27, type := 4, pos := "law.go:113", after := #[{ on := 0, ground := Ground.data }, { on := 1, ground := Ground.data }], guard := none }, { dst := some 86, op := Op.move (Operand.tmp 85), type := 4, pos := "law.go:113", after := #[{ on := 2, ground := Ground.data }], guard := none }, { dst := some 87, op := Op.move (Operand.tmp 12), type := 26, pos := "law.go:113", after := #[{ on := 3, ground := Ground.guard }], guard := some (3, true) }, { dst := some 88, op := Op.move (Operand.tmp 14), type := 26, pos := "law.go:113", after := #[{ on := 3, ground := Ground.guard }], guard := some (3, true) }, { dst := some 89, op := Op.call { callee := Callee.value (Operand.func 13), args := #[Operand.tmp 87, Operand.tmp 88], argTypes := #[26, 26] }, type := 4, pos := "law.go:113", after := #[{ on := 4, ground := Ground.data }, { on := 5, ground := Ground.data }, { on := 3, ground := Ground.chain }, { on := 3, ground := Ground.guard }], guard := some (3, true) }, { dst := some 90, op := Op.pick (Operand.tmp 86) (Operand.tmp 89) (Operand.const (Value.bool false)), type := 4, pos := "law.go:113", after := #[{ on := 3, ground := Ground.data }, { on := 6, ground := Ground.data }], guard := none }, { dst := some 91, op := Op.move (Operand.tmp 90), type := 4, pos := "law.go:113", after := #[{ on := 7, ground := Ground.data }, { on := 6, ground := Ground.chain }], guard := none }, { dst := some 92, op := Op.move (Operand.tmp 0), type := 22, pos := "law.go:113", after := #[{ on := 8, ground := Ground.guard }], guard := some (8, true) }, { dst := some 93, op := Op.load 34 (Operand.tmp 5), type := 34, pos := "law.go:113", after := #[{ on := 8, ground := Ground.guard }], guard := some (8, true) }, { dst := some 94, op := Op.call { callee := Callee.value (Operand.func 14), args := #[Operand.tmp 92, Operand.tmp 93], argTypes := #[22, 34] }, type := 26, pos := "law.go:113", after := #[{ on := 9, ground := Ground.data }, { on := 10, ground := Ground.data }, { on := 8, ground := Ground.chain }, { on := 8, ground := Ground.guard }], guard := some (8, true) }, { dst := some 95, op := Op.move (Operand.tmp 7), type := 22, pos := "law.go:113", after := #[{ on := 8, ground := Ground.guard }], guard := some (8, true) }, { dst := some 96, op := Op.load 34 (Operand.tmp 5), type := 34, pos := "law.go:113", after := #[{ on := 8, ground := Ground.guard }], guard := some (8, true) }, { dst := some 97, op := Op.call { callee := Callee.value (Operand.func 14), args := #[Operand.tmp 95, Operand.tmp 96], argTypes := #[22, 34] }, type := 26, pos := "law.go:113", after := #[{ on := 12, ground := Ground.data }, { on := 13, ground := Ground.data }, { on := 11, ground := Ground.chain }, { on := 8, ground := Ground.guard }], guard := some (8, true) }, { dst := some 98, op := Op.call { callee := Callee.value (Operand.func 13), args := #[Operand.tmp 94, Operand.tmp 97], argTypes := #[26, 26] }, type := 4, pos := "law.go:113", after := #[{ on := 11, ground := Ground.data }, { on := 14, ground := Ground.data }, { on := 14, ground := Ground.chain }, { on := 8, ground := Ground.guard }], guard := some (8, true) }, { dst := some 99, op := Op.pick (Operand.tmp 91) (Operand.tmp 98) (Operand.const (Value.bool false)), type := 4, pos := "law.go:113", after := #[{ on := 8, ground := Ground.data }, { on := 15, ground := Ground.data }], guard := none }, { dst := some 100, op := Op.move (Operand.tmp 99), type := 4, pos := "law.go:113", after := #[{ on := 16, ground := Ground.data }, { on := 15, ground := Ground.chain }], guard := none }, { dst := some 101, op := Op.move (Operand.tmp 0), type := 22, pos := "law.go:113", after := #[{ on := 17, ground := Ground.guard }], guard := some (17, true) }, { dst := some 102, op := Op.load 34 (Operand.tmp 5), type := 34, pos := "law.go:113", after := #[{ on := 17, ground := Ground.guard }], guard := some (17, true) }, { dst := some 103, op := Op.call { callee := Callee.value (Operand.func 16), args := #[Operand.tmp 101, Operand.tmp 102], argTypes := #[22, 34] }, type := 26, pos := "law.go:113", after := #[{ on := 18, ground := Ground.data }, { on := 19, ground := Ground.data }, { on := 17, ground := Ground.chain }, { on := 17, ground := Ground.guard }], guard := some (17, true) }, { dst := some 104, op := Op.move (Operand.tmp 7), type := 22, pos := "law.go:113", after := #[{ on := 17, ground := Ground.guard }], guard := some (17, true) }, { dst := some 105, op := Op.load 34 (Operand.tmp 5), type := 34, pos := "law.go:113", after := #[{ on := 17, ground := Ground.guard }], guard := some (17, true) }, { dst := some 106, op := Op.call { callee := Callee.value (Operand.func 16), args := #[Operand.tmp 104, Operand.tmp 105], argTypes := #[22, 34] }, type := 26, pos := "law.go:113", after := #[{ on := 21, ground := Ground.data }, { on := 22, ground := Ground.data }, { on := 20, ground := Ground.chain }, { on := 17, ground := Ground.guard }], guard := some (17, true) }, { dst := some 107, op := Op.call { callee := Callee.value (Operand.func 13), args := #[Operand.tmp 103, Operand.tmp 106], argTypes := #[26, 26] }, type := 4, pos := "law.go:113", after := #[{ on := 20, ground := Ground.data }, { on := 23, ground := Ground.data }, { on := 23, ground := Ground.chain }, { on := 17, ground := Ground.guard }], guard := some (17, true) }, { dst := some 108, op := Op.pick (Operand.tmp 100) (Operand.tmp 107) (Operand.const (Value.bool false)), type := 4, pos := "law.go:113", after := #[{ on := 17, ground := Ground.data }, { on := 24, ground := Ground.data }], guard := none }, { dst := some 109, op := Op.move (Operand.tmp 108), type := 4, pos := "law.go:113", after := #[{ on := 25, ground := Ground.data }, { on := 24, ground := Ground.chain }], guard := none }, { dst := some 110, op := Op.move (Operand.tmp 0), type := 22, pos := "law.go:113", after := #[{ on := 26, ground := Ground.guard }], guard := some (26, true) }, { dst := some 111, op := Op.call { callee := Callee.value (Operand.func 18), args := #[Operand.tmp 110], argTypes := #[22] }, type := 26, pos := "law.go:113", after := #[{ on := 27, ground := Ground.data }, { on := 26, ground := Ground.chain }, { on := 26, ground := Ground.guard }], guard := some (26, true) }, { dst := some 112, op := Op.move (Operand.tmp 7), type := 22, pos := "law.go:113", after := #[{ on := 26, ground := Ground.guard }], guard := some (26, true) }, { dst := some 113, op := Op.call { callee := Callee.value (Operand.func 18), args := #[Operand.tmp 112], argTypes := #[22] }, type := 26, pos := "law.go:113", after := #[{ on := 29, ground := Ground.data }, { on := 28, ground := Ground.chain }, { on := 26, ground := Ground.guard }], guard := some (26, true) }, { dst := some 114, op := Op.call { callee := Callee.value (Operand.func 13), args := #[Operand.tmp 111, Operand.tmp 113], argTypes := #[26, 26] }, type := 4, pos := "law.go:113", after := #[{ on := 28, ground := Ground.data }, { on := 30, ground := Ground.data }, { on := 30, ground := Ground.chain }, { on := 26, ground := Ground.guard }], guard := some (26, true) }, { dst := some 115, op := Op.pick (Operand.tmp 109) (Operand.tmp 114) (Operand.const (Value.bool false)), type := 4, pos := "law.go:113", after := #[{ on := 26, ground := Ground.data }, { on := 31, ground := Ground.data }], guard := none }, { dst := some 116, op := Op.move (Operand.tmp 115), type := 4, pos := "law.go:113", after := #[{ on := 32, ground := Ground.data }, { on := 31, ground := Ground.chain }], guard := none }, { dst := some 117, op := Op.move (Operand.tmp 0), type := 22, pos := "law.go:113", after := #[{ on := 33, ground := Ground.guard }], guard := some (33, true) }, { dst := some 118, op := Op.call { callee := Callee.value (Operand.func 20), args := #[Operand.tmp 117], argTypes := #[22] }, type := 4, pos := "law.go:113", after := #[{ on := 34, ground := Ground.data }, { on := 33, ground := Ground.chain }, { on := 33, ground := Ground.guard }], guard := some (33, true) }, { dst := some 119, op := Op.move (Operand.tmp 7), type := 22, pos := "law.go:113", after := #[{ on := 33, ground := Ground.guard }], guard := some (33, true) }, { dst := some 120, op := Op.call { callee := Callee.value (Operand.func 20), args := #[Operand.tmp 119], argTypes := #[22] }, type := 4, pos := "law.go:113", after := #[{ on := 36, ground := Ground.data }, { on := 35, ground := Ground.chain }, { on := 33, ground := Ground.guard }], guard := some (33, true) }, { dst := some 121, op := Op.binOp BinOp.eql 4 (Operand.tmp 118) (Operand.tmp 120) 4, type := 4, pos := "law.go:113", after := #[{ on := 35, ground := Ground.data }, { on := 37, ground := Ground.data }, { on := 33, ground := Ground.guard }], guard := some (33, true) }, { dst := some 122, op := Op.pick (Operand.tmp 116) (Operand.tmp 121) (Operand.const (Value.bool false)), type := 4, pos := "law.go:113", after := #[{ on := 33, ground := Ground.data }, { on := 38, ground := Ground.data }], guard := none }, { dst := some 123, op := Op.move (Operand.tmp 122), type := 4, pos := "law.go:113", after := #[{ on := 39, ground := Ground.data }, { on := 37, ground := Ground.chain }], guard := none }, { dst := some 124, op := Op.call { callee := Callee.value (Operand.func 9), args := #[], argTypes := #[] }, type := 4, pos := "law.go:113", after := #[{ on := 40, ground := Ground.chain }, { on := 40, ground := Ground.guard }], guard := some (40, true) }, { dst := some 125, op := Op.pick (Operand.tmp 123) (Operand.tmp 124) (Operand.const (Value.bool false)), type := 4, pos := "law.go:113", after := #[{ on := 40, ground := Ground.data }, { on := 41, ground := Ground.data }], guard := none }, { dst := some 6, op := Op.assign (Operand.tmp 125), type := 4, pos := "law.go:113", after := #[{ on := 42, ground := Ground.data }, { on := 41, ground := Ground.chain }, { on := 0, ground := Ground.phase }, { on := 1, ground := Ground.phase }, { on := 2, ground := Ground.phase }, { on := 3, ground := Ground.phase }, { on := 4, ground := Ground.phase }, { on := 5, ground := Ground.phase }, { on := 6, ground := Ground.phase }, { on := 7, ground := Ground.phase }, { on := 8, ground := Ground.phase }, { on := 9, ground := Ground.phase }, { on := 10, ground := Ground.phase }, { on := 11, ground := Ground.phase }, { on := 12, ground := Ground.phase }, { on := 13, ground := Ground.phase }, { on := 14, ground := Ground.phase }, { on := 15, ground := Ground.phase }, { on := 16, ground := Ground.phase }, { on := 17, ground := Ground.phase }, { on := 18, ground := Ground.phase }, { on := 19, ground := Ground.phase }, { on := 20, ground := Ground.phase }, { on := 21, ground := Ground.phase }, { on := 22, ground := Ground.phase }, { on := 23, ground := Ground.phase }, { on := 24, ground := Ground.phase }, { on := 25, ground := Ground.phase }, { on := 26, ground := Ground.phase }, { on := 27, ground := Ground.phase }, { on := 28, ground := Ground.phase }, { on := 29, ground := Ground.phase }, { on := 30, ground := Ground.phase }, { on := 31, ground := Ground.phase }, { on := 32, ground := Ground.phase }, { on := 33, ground := Ground.phase }, { on := 34, ground := Ground.phase }, { on := 35, ground := Ground.phase }, { on := 36, ground := Ground.phase }, { on := 37, ground := Ground.phase }, { on := 38, ground := Ground.phase }, { on := 39, ground := Ground.phase }, { on := 40, ground := Ground.phase }, { on := 41, ground := Ground.phase }, { on := 42, ground := Ground.phase }], guard := none }] true).wp Try.prog Q { tmps := #[.slice a len cap, x1, x2, x3, x4, .pointer (some ⟨hb, 0, none⟩), x6, .slice pm len cm, x8, x9, x10, x11, .slice pa na ca, .int .i64 er, .slice pb nb cb, .int .i64 er, x16, x17, x18, x19, x20, x21, x22, x23, x24, x25, x26, x27, x28, x29, x30, x31, x32, x33, x34, x35, x36, x37, x38, x39, x40, x41, x42, x43, x44, x45, x46, x47, x48, x49, x50, x51, x52, x53, x54, x55, x56, x57, x58, x59, x60, x61, x62, x63, x64, x65, x66, x67, x68, x69, x70, x71, x72, x73, x74, x75, x76, x77, x78, x79, x80, x81, x82, x83, x84, x85, x86, x87, x88, x89, x90, x91, x92, x93, x94, x95, x96, x97, x98, x99, x100, x101, x102, x103, x104, x105, x106, x107, x108, x109, x110, x111, x112, x113, x114, x115, x116, x117, x118, x119, x120, x121, x122, x123, x124, x125], defers := ds } A := by
  refine Code.wp_mono (Q := fun x a' w' => match x with | .normal => Q .normal a' w' | _ => False) (by intro x a' w' h; cases x <;> first | exact h | exact h.elim) ?_
  refine wp_region_held (S := fun V => Below A.heap.size A V) (by kernel_rfl) ?_
  have hS0 : Hid (Below A.heap.size A A.drew) := below_drew A
  change wpAnyH Try.prog .any _ _ (fun V => Below A.heap.size A V) 44 (Array.replicate 44 false) _ A.drew
  refine wpAnyH_take (i := 0) (oi := { dst := some 83, op := Op.move (Operand.tmp 13), type := 27, pos := "law.go:113", after := #[], guard := none }) (v := .int .i64 er) rfl (by kernel_rfl) (by kernel_rfl) (by kernel_rfl) (fun _ _ _ h => h.elim) (Or.inl ⟨by rfl, ?y0⟩) hS0.out ?_
  case y0 =>
    intro V hV
    go_simp
  simp only [Act.put, List.setIfInBounds_toArray, List.set_cons_zero, List.set_cons_succ]
  refine wpAnyH_take (i := 1) (oi := { dst := some 84, op := Op.move (Operand.tmp 15), type := 27, pos := "law.go:113", after := #[], guard := none }) (v := .int .i64 er) rfl (by kernel_rfl) (by kernel_rfl) (by kernel_rfl) (fun _ _ _ h => h.elim) (Or.inl ⟨by rfl, ?y1⟩) hS0.out ?_
  case y1 =>
    intro V hV
    go_simp
  simp only [Act.put, List.setIfInBounds_toArray, List.set_cons_zero, List.set_cons_succ]
  refine wpAnyH_take (i := 2) (oi := { dst := some 85, op := Op.binOp BinOp.eql 27 (Operand.tmp 83) (Operand.tmp 84) 27, type := 4, pos := "law.go:113", after := #[{ on := 0, ground := Ground.data }, { on := 1, ground := Ground.data }], guard := none }) (v := .bool true) rfl (by kernel_rfl) (by kernel_rfl) (by kernel_rfl) (fun _ _ _ h => h.elim) (Or.inl ⟨by rfl, ?y2⟩) hS0.out ?_
  case y2 =>
    intro V hV
    go_simp
  simp only [Act.put, List.setIfInBounds_toArray, List.set_cons_zero, List.set_cons_succ]
  refine wpAnyH_take (i := 3) (oi := { dst := some 86, op := Op.move (Operand.tmp 85), type := 4, pos := "law.go:113", after := #[{ on := 2, ground := Ground.data }], guard := none }) (v := .bool true) rfl (by kernel_rfl) (by kernel_rfl) (by kernel_rfl) (fun _ _ _ h => h.elim) (Or.inl ⟨by rfl, ?y3⟩) hS0.out ?_
  case y3 =>
    intro V hV
    go_simp
  simp only [Act.put, List.setIfInBounds_toArray, List.set_cons_zero, List.set_cons_succ]
  refine wpAnyH_take (i := 4) (oi := { dst := some 87, op := Op.move (Operand.tmp 12), type := 26, pos := "law.go:113", after := #[{ on := 3, ground := Ground.guard }], guard := some (3, true) }) (v := .slice pa na ca) rfl (by kernel_rfl) (by kernel_rfl) (by kernel_rfl) (fun _ _ _ h => h.elim) (Or.inl ⟨by rfl, ?y4⟩) hS0.out ?_
  case y4 =>
    intro V hV
    go_simp
  simp only [Act.put, List.setIfInBounds_toArray, List.set_cons_zero, List.set_cons_succ]
  refine wpAnyH_take (i := 5) (oi := { dst := some 88, op := Op.move (Operand.tmp 14), type := 26, pos := "law.go:113", after := #[{ on := 3, ground := Ground.guard }], guard := some (3, true) }) (v := .slice pb nb cb) rfl (by kernel_rfl) (by kernel_rfl) (by kernel_rfl) (fun _ _ _ h => h.elim) (Or.inl ⟨by rfl, ?y5⟩) hS0.out ?_
  case y5 =>
    intro V hV
    go_simp
  simp only [Act.put, List.setIfInBounds_toArray, List.set_cons_zero, List.set_cons_succ]
  refine wpAnyH_ready (rs := [6]) (by kernel_rfl) (by simp) (AllReadyH.cons (i := 6) (o := { dst := some 89, op := Op.call { callee := Callee.value (Operand.func 13), args := #[Operand.tmp 87, Operand.tmp 88], argTypes := #[26, 26] }, type := 4, pos := "law.go:113", after := #[{ on := 4, ground := Ground.data }, { on := 5, ground := Ground.data }, { on := 3, ground := Ground.chain }, { on := 3, ground := Ground.guard }], guard := some (3, true) }) rfl ?_ AllReadyH.nil)
  intro K1 hK1
  rw [if_pos (by rfl)]
  have HC1 := hashes_true A.drew pa na ca pb nb cb hs (HR.out.1.below hS0.out) (HR.out.2.1.below hS0.out) HR.out.2.2.1 HR.out.2.2.2
  go_wp2_with fail
  refine HC1.mono ?_
  rintro e V1 ⟨rfl, HB1⟩
  dsimp only
  clear HC1
  have hS1 : Hid (Below A.heap.size A V1) := hS0.out.trans (HB1.out.mono hS0.out.size)
  refine hK1.out _ _ hS1.out ?_
  clear hK1
  intro _
  try simp only [Act.put, List.setIfInBounds_toArray, List.set_cons_zero, List.set_cons_succ]
  refine wpAnyH_take (i := 7) (oi := { dst := some 90, op := Op.pick (Operand.tmp 86) (Operand.tmp 89) (Operand.const (Value.bool false)), type := 4, pos := "law.go:113", after := #[{ on := 3, ground := Ground.data }, { on := 6, ground := Ground.data }], guard := none }) (v := .bool true) rfl (by kernel_rfl) (by kernel_rfl) (by kernel_rfl) (fun _ _ _ h => h.elim) (Or.inl ⟨by rfl, ?y7⟩) hS1.out ?_
  case y7 =>
    intro V hV
    go_simp
  simp only [Act.put, List.setIfInBounds_toArray, List.set_cons_zero, List.set_cons_succ]
  refine wpAnyH_take (i := 8) (oi := { dst := some 91, op := Op.move (Operand.tmp 90), type := 4, pos := "law.go:113", after := #[{ on := 7, ground := Ground.data }, { on := 6, ground := Ground.chain }], guard := none }) (v := .bool true) rfl (by kernel_rfl) (by kernel_rfl) (by kernel_rfl) (fun _ _ _ h => h.elim) (Or.inl ⟨by rfl, ?y8⟩) hS1.out ?_
  case y8 =>
    intro V hV
    go_simp
  simp only [Act.put, List.setIfInBounds_toArray, List.set_cons_zero, List.set_cons_succ]
  refine wpAnyH_take (i := 9) (oi := { dst := some 92, op := Op.move (Operand.tmp 0), type := 22, pos := "law.go:113", after := #[{ on := 8, ground := Ground.guard }], guard := some (8, true) }) (v := .slice a len cap) rfl (by kernel_rfl) (by kernel_rfl) (by kernel_rfl) (fun _ _ _ h => h.elim) (Or.inl ⟨by rfl, ?y9⟩) hS1.out ?_
  case y9 =>
    intro V hV
    go_simp
  simp only [Act.put, List.setIfInBounds_toArray, List.set_cons_zero, List.set_cons_succ]
  refine wpAnyH_take (i := 10) (oi := { dst := some 93, op := Op.load 34 (Operand.tmp 5), type := 34, pos := "law.go:113", after := #[{ on := 8, ground := Ground.guard }], guard := some (8, true) }) (v := .agg (U h).toArray) rfl (by kernel_rfl) (by kernel_rfl) (by kernel_rfl) (fun _ _ _ h => h.elim) (yieldsIf_load_mid (by rfl) _ _ rfl _ _ rfl (U h) _ (fun V hV => rangeAt_same (HK.out.1) ((show Below A.heap.size A V from hV).block _ (HK.out.2))) Try.underlying34 rfl (info34 h HI.out.2.2.1)) hS1.out ?_
  simp only [Act.put, List.setIfInBounds_toArray, List.set_cons_zero, List.set_cons_succ]
  refine wpAnyH_take (i := 12) (oi := { dst := some 95, op := Op.move (Operand.tmp 7), type := 22, pos := "law.go:113", after := #[{ on := 8, ground := Ground.guard }], guard := some (8, true) }) (v := .slice pm len cm) rfl (by kernel_rfl) (by kernel_rfl) (by kernel_rfl) (fun _ _ _ h => h.elim) (Or.inl ⟨by rfl, ?y12⟩) hS1.out ?_
  case y12 =>
    intro V hV
    go_simp
  simp only [Act.put, List.setIfInBounds_toArray, List.set_cons_zero, List.set_cons_succ]
  refine wpAnyH_take (i := 13) (oi := { dst := some 96, op := Op.load 34 (Operand.tmp 5), type := 34, pos := "law.go:113", after := #[{ on := 8, ground := Ground.guard }], guard := some (8, true) }) (v := .agg (U h).toArray) rfl (by kernel_rfl) (by kernel_rfl) (by kernel_rfl) (fun _ _ _ h => h.elim) (yieldsIf_load_mid (by rfl) _ _ rfl _ _ rfl (U h) _ (fun V hV => rangeAt_same (HK.out.1) ((show Below A.heap.size A V from hV).block _ (HK.out.2))) Try.underlying34 rfl (info34 h HI.out.2.2.1)) hS1.out ?_
  simp only [Act.put, List.setIfInBounds_toArray, List.set_cons_zero, List.set_cons_succ]
  refine wpAnyH_ready (rs := [11]) (by kernel_rfl) (by simp) (AllReadyH.cons (i := 11) (o := { dst := some 94, op := Op.call { callee := Callee.value (Operand.func 14), args := #[Operand.tmp 92, Operand.tmp 93], argTypes := #[22, 34] }, type := 26, pos := "law.go:113", after := #[{ on := 9, ground := Ground.data }, { on := 10, ground := Ground.data }, { on := 8, ground := Ground.chain }, { on := 8, ground := Ground.guard }], guard := some (8, true) }) rfl ?_ AllReadyH.nil)
  intro K1 hK1
  rw [if_pos (by rfl)]
  have HC2 := needs_is V1 a len cap l h (HI.out.1.below hS1.out) HI.out.2.2.1 (by have := HI.out.2.2.2.1; omega) HI.out.2.2.2.2.1
  go_wp2_with fail
  refine HC2.mono ?_
  rintro e V2 ⟨p1, n1, c1, r1, rfl, H1, HB2⟩
  dsimp only
  clear HC2
  have hS2 : Hid (Below A.heap.size A V2) := hS1.out.trans (HB2.out.mono hS1.out.size)
  refine hK1.out _ _ hS2.out ?_
  clear hK1
  intro _
  try simp only [Act.put, List.setIfInBounds_toArray, List.set_cons_zero, List.set_cons_succ]
  refine wpAnyH_ready (rs := [14]) (by kernel_rfl) (by simp) (AllReadyH.cons (i := 14) (o := { dst := some 97, op := Op.call { callee := Callee.value (Operand.func 14), args := #[Operand.tmp 95, Operand.tmp 96], argTypes := #[22, 34] }, type := 26, pos := "law.go:113", after := #[{ on := 12, ground := Ground.data }, { on := 13, ground := Ground.data }, { on := 11, ground := Ground.chain }, { on := 8, ground := Ground.guard }], guard := some (8, true) }) rfl ?_ AllReadyH.nil)
  intro K1 hK1
  rw [if_pos (by rfl)]
  have HC3 := needs_is V2 pm len cm m h (HI.out.2.1.below hS2.out) HI.out.2.2.1 (by have := HI.out.2.2.2.1; omega) HI.out.2.2.2.2.2.1
  go_wp2_with fail
  refine HC3.mono ?_
  rintro e V3 ⟨p2, n2, c2, r2, rfl, H2, HB3⟩
  dsimp only
  clear HC3
  have hS3 : Hid (Below A.heap.size A V3) := hS2.out.trans (HB3.out.mono hS2.out.size)
  obtain rfl : r1 = r2 := rise_eq H1.out.2.2.1 H2.out.2.2.1 (fun x => by rw [H1.out.2.2.2, H2.out.2.2.2, HI.out.2.2.2.2.2.2.down])
  refine hK1.out _ _ hS3.out ?_
  clear hK1
  intro _
  try simp only [Act.put, List.setIfInBounds_toArray, List.set_cons_zero, List.set_cons_succ]
  refine wpAnyH_ready (rs := [15]) (by kernel_rfl) (by simp) (AllReadyH.cons (i := 15) (o := { dst := some 98, op := Op.call { callee := Callee.value (Operand.func 13), args := #[Operand.tmp 94, Operand.tmp 97], argTypes := #[26, 26] }, type := 4, pos := "law.go:113", after := #[{ on := 11, ground := Ground.data }, { on := 14, ground := Ground.data }, { on := 14, ground := Ground.chain }, { on := 8, ground := Ground.guard }], guard := some (8, true) }) rfl ?_ AllReadyH.nil)
  intro K1 hK1
  rw [if_pos (by rfl)]
  have HC4 := hashes_true V3 p1 n1 c1 p2 n2 c2 r1 (H1.out.1.below HB3.out) H2.out.1 H1.out.2.1 H2.out.2.1
  go_wp2_with fail
  refine HC4.mono ?_
  rintro e V4 ⟨rfl, HB4⟩
  dsimp only
  clear HC4
  have hS4 : Hid (Below A.heap.size A V4) := hS3.out.trans (HB4.out.mono hS3.out.size)
  refine hK1.out _ _ hS4.out ?_
  clear hK1
  intro _
  try simp only [Act.put, List.setIfInBounds_toArray, List.set_cons_zero, List.set_cons_succ]
  refine wpAnyH_take (i := 16) (oi := { dst := some 99, op := Op.pick (Operand.tmp 91) (Operand.tmp 98) (Operand.const (Value.bool false)), type := 4, pos := "law.go:113", after := #[{ on := 8, ground := Ground.data }, { on := 15, ground := Ground.data }], guard := none }) (v := .bool true) rfl (by kernel_rfl) (by kernel_rfl) (by kernel_rfl) (fun _ _ _ h => h.elim) (Or.inl ⟨by rfl, ?y16⟩) hS4.out ?_
  case y16 =>
    intro V hV
    go_simp
  simp only [Act.put, List.setIfInBounds_toArray, List.set_cons_zero, List.set_cons_succ]
  refine wpAnyH_take (i := 17) (oi := { dst := some 100, op := Op.move (Operand.tmp 99), type := 4, pos := "law.go:113", after := #[{ on := 16, ground := Ground.data }, { on := 15, ground := Ground.chain }], guard := none }) (v := .bool true) rfl (by kernel_rfl) (by kernel_rfl) (by kernel_rfl) (fun _ _ _ h => h.elim) (Or.inl ⟨by rfl, ?y17⟩) hS4.out ?_
  case y17 =>
    intro V hV
    go_simp
  simp only [Act.put, List.setIfInBounds_toArray, List.set_cons_zero, List.set_cons_succ]
  refine wpAnyH_take (i := 18) (oi := { dst := some 101, op := Op.move (Operand.tmp 0), type := 22, pos := "law.go:113", after := #[{ on := 17, ground := Ground.guard }], guard := some (17, true) }) (v := .slice a len cap) rfl (by kernel_rfl) (by kernel_rfl) (by kernel_rfl) (fun _ _ _ h => h.elim) (Or.inl ⟨by rfl, ?y18⟩) hS4.out ?_
  case y18 =>
    intro V hV
    go_simp
  simp only [Act.put, List.setIfInBounds_toArray, List.set_cons_zero, List.set_cons_succ]
  refine wpAnyH_take (i := 19) (oi := { dst := some 102, op := Op.load 34 (Operand.tmp 5), type := 34, pos := "law.go:113", after := #[{ on := 17, ground := Ground.guard }], guard := some (17, true) }) (v := .agg (U h).toArray) rfl (by kernel_rfl) (by kernel_rfl) (by kernel_rfl) (fun _ _ _ h => h.elim) (yieldsIf_load_mid (by rfl) _ _ rfl _ _ rfl (U h) _ (fun V hV => rangeAt_same (HK.out.1) ((show Below A.heap.size A V from hV).block _ (HK.out.2))) Try.underlying34 rfl (info34 h HI.out.2.2.1)) hS4.out ?_
  simp only [Act.put, List.setIfInBounds_toArray, List.set_cons_zero, List.set_cons_succ]
  refine wpAnyH_take (i := 21) (oi := { dst := some 104, op := Op.move (Operand.tmp 7), type := 22, pos := "law.go:113", after := #[{ on := 17, ground := Ground.guard }], guard := some (17, true) }) (v := .slice pm len cm) rfl (by kernel_rfl) (by kernel_rfl) (by kernel_rfl) (fun _ _ _ h => h.elim) (Or.inl ⟨by rfl, ?y21⟩) hS4.out ?_
  case y21 =>
    intro V hV
    go_simp
  simp only [Act.put, List.setIfInBounds_toArray, List.set_cons_zero, List.set_cons_succ]
  refine wpAnyH_take (i := 22) (oi := { dst := some 105, op := Op.load 34 (Operand.tmp 5), type := 34, pos := "law.go:113", after := #[{ on := 17, ground := Ground.guard }], guard := some (17, true) }) (v := .agg (U h).toArray) rfl (by kernel_rfl) (by kernel_rfl) (by kernel_rfl) (fun _ _ _ h => h.elim) (yieldsIf_load_mid (by rfl) _ _ rfl _ _ rfl (U h) _ (fun V hV => rangeAt_same (HK.out.1) ((show Below A.heap.size A V from hV).block _ (HK.out.2))) Try.underlying34 rfl (info34 h HI.out.2.2.1)) hS4.out ?_
  simp only [Act.put, List.setIfInBounds_toArray, List.set_cons_zero, List.set_cons_succ]
  refine wpAnyH_ready (rs := [20]) (by kernel_rfl) (by simp) (AllReadyH.cons (i := 20) (o := { dst := some 103, op := Op.call { callee := Callee.value (Operand.func 16), args := #[Operand.tmp 101, Operand.tmp 102], argTypes := #[22, 34] }, type := 26, pos := "law.go:113", after := #[{ on := 18, ground := Ground.data }, { on := 19, ground := Ground.data }, { on := 17, ground := Ground.chain }, { on := 17, ground := Ground.guard }], guard := some (17, true) }) rfl ?_ AllReadyH.nil)
  intro K1 hK1
  rw [if_pos (by rfl)]
  have HC5 := above_is V4 a len cap l h (HI.out.1.below hS4.out) HI.out.2.2.1 (by have := HI.out.2.2.2.1; omega) HI.out.2.2.2.2.1
  go_wp2_with fail
  refine HC5.mono ?_
  rintro e V5 ⟨p3, n3, c3, r3, rfl, H3, HB5⟩
  dsimp only
  clear HC5
  have hS5 : Hid (Below A.heap.size A V5) := hS4.out.trans (HB5.out.mono hS4.out.size)
  refine hK1.out _ _ hS5.out ?_
  clear hK1
  intro _
  try simp only [Act.put, List.setIfInBounds_toArray, List.set_cons_zero, List.set_cons_succ]
  refine wpAnyH_ready (rs := [23]) (by kernel_rfl) (by simp) (AllReadyH.cons (i := 23) (o := { dst := some 106, op := Op.call { callee := Callee.value (Operand.func 16), args := #[Operand.tmp 104, Operand.tmp 105], argTypes := #[22, 34] }, type := 26, pos := "law.go:113", after := #[{ on := 21, ground := Ground.data }, { on := 22, ground := Ground.data }, { on := 20, ground := Ground.chain }, { on := 17, ground := Ground.guard }], guard := some (17, true) }) rfl ?_ AllReadyH.nil)
  intro K1 hK1
  rw [if_pos (by rfl)]
  have HC6 := above_is V5 pm len cm m h (HI.out.2.1.below hS5.out) HI.out.2.2.1 (by have := HI.out.2.2.2.1; omega) HI.out.2.2.2.2.2.1
  go_wp2_with fail
  refine HC6.mono ?_
  rintro e V6 ⟨p4, n4, c4, r4, rfl, H4, HB6⟩
  dsimp only
  clear HC6
  have hS6 : Hid (Below A.heap.size A V6) := hS5.out.trans (HB6.out.mono hS5.out.size)
  obtain rfl : r3 = r4 := rise_eq H3.out.2.2.1 H4.out.2.2.1 (fun x => by rw [H3.out.2.2.2, H4.out.2.2.2, HI.out.2.2.2.2.2.2.up])
  refine hK1.out _ _ hS6.out ?_
  clear hK1
  intro _
  try simp only [Act.put, List.setIfInBounds_toArray, List.set_cons_zero, List.set_cons_succ]
  refine wpAnyH_ready (rs := [24]) (by kernel_rfl) (by simp) (AllReadyH.cons (i := 24) (o := { dst := some 107, op := Op.call { callee := Callee.value (Operand.func 13), args := #[Operand.tmp 103, Operand.tmp 106], argTypes := #[26, 26] }, type := 4, pos := "law.go:113", after := #[{ on := 20, ground := Ground.data }, { on := 23, ground := Ground.data }, { on := 23, ground := Ground.chain }, { on := 17, ground := Ground.guard }], guard := some (17, true) }) rfl ?_ AllReadyH.nil)
  intro K1 hK1
  rw [if_pos (by rfl)]
  have HC7 := hashes_true V6 p3 n3 c3 p4 n4 c4 r3 (H3.out.1.below HB6.out) H4.out.1 H3.out.2.1 H4.out.2.1
  go_wp2_with fail
  refine HC7.mono ?_
  rintro e V7 ⟨rfl, HB7⟩
  dsimp only
  clear HC7
  have hS7 : Hid (Below A.heap.size A V7) := hS6.out.trans (HB7.out.mono hS6.out.size)
  refine hK1.out _ _ hS7.out ?_
  clear hK1
  intro _
  try simp only [Act.put, List.setIfInBounds_toArray, List.set_cons_zero, List.set_cons_succ]
  refine wpAnyH_take (i := 25) (oi := { dst := some 108, op := Op.pick (Operand.tmp 100) (Operand.tmp 107) (Operand.const (Value.bool false)), type := 4, pos := "law.go:113", after := #[{ on := 17, ground := Ground.data }, { on := 24, ground := Ground.data }], guard := none }) (v := .bool true) rfl (by kernel_rfl) (by kernel_rfl) (by kernel_rfl) (fun _ _ _ h => h.elim) (Or.inl ⟨by rfl, ?y25⟩) hS7.out ?_
  case y25 =>
    intro V hV
    go_simp
  simp only [Act.put, List.setIfInBounds_toArray, List.set_cons_zero, List.set_cons_succ]
  refine wpAnyH_take (i := 26) (oi := { dst := some 109, op := Op.move (Operand.tmp 108), type := 4, pos := "law.go:113", after := #[{ on := 25, ground := Ground.data }, { on := 24, ground := Ground.chain }], guard := none }) (v := .bool true) rfl (by kernel_rfl) (by kernel_rfl) (by kernel_rfl) (fun _ _ _ h => h.elim) (Or.inl ⟨by rfl, ?y26⟩) hS7.out ?_
  case y26 =>
    intro V hV
    go_simp
  simp only [Act.put, List.setIfInBounds_toArray, List.set_cons_zero, List.set_cons_succ]
  refine wpAnyH_take (i := 27) (oi := { dst := some 110, op := Op.move (Operand.tmp 0), type := 22, pos := "law.go:113", after := #[{ on := 26, ground := Ground.guard }], guard := some (26, true) }) (v := .slice a len cap) rfl (by kernel_rfl) (by kernel_rfl) (by kernel_rfl) (fun _ _ _ h => h.elim) (Or.inl ⟨by rfl, ?y27⟩) hS7.out ?_
  case y27 =>
    intro V hV
    go_simp
  simp only [Act.put, List.setIfInBounds_toArray, List.set_cons_zero, List.set_cons_succ]
  refine wpAnyH_take (i := 29) (oi := { dst := some 112, op := Op.move (Operand.tmp 7), type := 22, pos := "law.go:113", after := #[{ on := 26, ground := Ground.guard }], guard := some (26, true) }) (v := .slice pm len cm) rfl (by kernel_rfl) (by kernel_rfl) (by kernel_rfl) (fun _ _ _ h => h.elim) (Or.inl ⟨by rfl, ?y29⟩) hS7.out ?_
  case y29 =>
    intro V hV
    go_simp
  simp only [Act.put, List.setIfInBounds_toArray, List.set_cons_zero, List.set_cons_succ]
  refine wpAnyH_ready (rs := [28]) (by kernel_rfl) (by simp) (AllReadyH.cons (i := 28) (o := { dst := some 111, op := Op.call { callee := Callee.value (Operand.func 18), args := #[Operand.tmp 110], argTypes := #[22] }, type := 26, pos := "law.go:113", after := #[{ on := 27, ground := Ground.data }, { on := 26, ground := Ground.chain }, { on := 26, ground := Ground.guard }], guard := some (26, true) }) rfl ?_ AllReadyH.nil)
  intro K1 hK1
  rw [if_pos (by rfl)]
  have HC8 := missing_is V7 a len cap l (HI.out.1.below hS7.out) (by have := HI.out.2.2.2.1; omega) HI.out.2.2.2.2.1
  go_wp2_with fail
  refine HC8.mono ?_
  rintro e V8 ⟨p5, n5, c5, r5, rfl, H5, HB8⟩
  dsimp only
  clear HC8
  have hS8 : Hid (Below A.heap.size A V8) := hS7.out.trans (HB8.out.mono hS7.out.size)
  refine hK1.out _ _ hS8.out ?_
  clear hK1
  intro _
  try simp only [Act.put, List.setIfInBounds_toArray, List.set_cons_zero, List.set_cons_succ]
  refine wpAnyH_ready (rs := [30]) (by kernel_rfl) (by simp) (AllReadyH.cons (i := 30) (o := { dst := some 113, op := Op.call { callee := Callee.value (Operand.func 18), args := #[Operand.tmp 112], argTypes := #[22] }, type := 26, pos := "law.go:113", after := #[{ on := 29, ground := Ground.data }, { on := 28, ground := Ground.chain }, { on := 26, ground := Ground.guard }], guard := some (26, true) }) rfl ?_ AllReadyH.nil)
  intro K1 hK1
  rw [if_pos (by rfl)]
  have HC9 := missing_is V8 pm len cm m (HI.out.2.1.below hS8.out) (by have := HI.out.2.2.2.1; omega) HI.out.2.2.2.2.2.1
  go_wp2_with fail
  refine HC9.mono ?_
  rintro e V9 ⟨p6, n6, c6, r6, rfl, H6, HB9⟩
  dsimp only
  clear HC9
  have hS9 : Hid (Below A.heap.size A V9) := hS8.out.trans (HB9.out.mono hS8.out.size)
  obtain rfl : r5 = r6 := rise_eq H5.out.2.2.1 H6.out.2.2.1 (fun x => by rw [H5.out.2.2.2, H6.out.2.2.2, HI.out.2.2.2.2.2.2.missing])
  refine hK1.out _ _ hS9.out ?_
  clear hK1
  intro _
  try simp only [Act.put, List.setIfInBounds_toArray, List.set_cons_zero, List.set_cons_succ]
  refine wpAnyH_ready (rs := [31]) (by kernel_rfl) (by simp) (AllReadyH.cons (i := 31) (o := { dst := some 114, op := Op.call { callee := Callee.value (Operand.func 13), args := #[Operand.tmp 111, Operand.tmp 113], argTypes := #[26, 26] }, type := 4, pos := "law.go:113", after := #[{ on := 28, ground := Ground.data }, { on := 30, ground := Ground.data }, { on := 30, ground := Ground.chain }, { on := 26, ground := Ground.guard }], guard := some (26, true) }) rfl ?_ AllReadyH.nil)
  intro K1 hK1
  rw [if_pos (by rfl)]
  have HC10 := hashes_true V9 p5 n5 c5 p6 n6 c6 r5 (H5.out.1.below HB9.out) H6.out.1 H5.out.2.1 H6.out.2.1
  go_wp2_with fail
  refine HC10.mono ?_
  rintro e V10 ⟨rfl, HB10⟩
  dsimp only
  clear HC10
  have hS10 : Hid (Below A.heap.size A V10) := hS9.out.trans (HB10.out.mono hS9.out.size)
  refine hK1.out _ _ hS10.out ?_
  clear hK1
  intro _
  try simp only [Act.put, List.setIfInBounds_toArray, List.set_cons_zero, List.set_cons_succ]
  refine wpAnyH_take (i := 32) (oi := { dst := some 115, op := Op.pick (Operand.tmp 109) (Operand.tmp 114) (Operand.const (Value.bool false)), type := 4, pos := "law.go:113", after := #[{ on := 26, ground := Ground.data }, { on := 31, ground := Ground.data }], guard := none }) (v := .bool true) rfl (by kernel_rfl) (by kernel_rfl) (by kernel_rfl) (fun _ _ _ h => h.elim) (Or.inl ⟨by rfl, ?y32⟩) hS10.out ?_
  case y32 =>
    intro V hV
    go_simp
  simp only [Act.put, List.setIfInBounds_toArray, List.set_cons_zero, List.set_cons_succ]
  refine wpAnyH_take (i := 33) (oi := { dst := some 116, op := Op.move (Operand.tmp 115), type := 4, pos := "law.go:113", after := #[{ on := 32, ground := Ground.data }, { on := 31, ground := Ground.chain }], guard := none }) (v := .bool true) rfl (by kernel_rfl) (by kernel_rfl) (by kernel_rfl) (fun _ _ _ h => h.elim) (Or.inl ⟨by rfl, ?y33⟩) hS10.out ?_
  case y33 =>
    intro V hV
    go_simp
  simp only [Act.put, List.setIfInBounds_toArray, List.set_cons_zero, List.set_cons_succ]
  refine wpAnyH_take (i := 34) (oi := { dst := some 117, op := Op.move (Operand.tmp 0), type := 22, pos := "law.go:113", after := #[{ on := 33, ground := Ground.guard }], guard := some (33, true) }) (v := .slice a len cap) rfl (by kernel_rfl) (by kernel_rfl) (by kernel_rfl) (fun _ _ _ h => h.elim) (Or.inl ⟨by rfl, ?y34⟩) hS10.out ?_
  case y34 =>
    intro V hV
    go_simp
  simp only [Act.put, List.setIfInBounds_toArray, List.set_cons_zero, List.set_cons_succ]
  refine wpAnyH_take (i := 36) (oi := { dst := some 119, op := Op.move (Operand.tmp 7), type := 22, pos := "law.go:113", after := #[{ on := 33, ground := Ground.guard }], guard := some (33, true) }) (v := .slice pm len cm) rfl (by kernel_rfl) (by kernel_rfl) (by kernel_rfl) (fun _ _ _ h => h.elim) (Or.inl ⟨by rfl, ?y36⟩) hS10.out ?_
  case y36 =>
    intro V hV
    go_simp
  simp only [Act.put, List.setIfInBounds_toArray, List.set_cons_zero, List.set_cons_succ]
  refine wpAnyH_ready (rs := [35]) (by kernel_rfl) (by simp) (AllReadyH.cons (i := 35) (o := { dst := some 118, op := Op.call { callee := Callee.value (Operand.func 20), args := #[Operand.tmp 117], argTypes := #[22] }, type := 4, pos := "law.go:113", after := #[{ on := 34, ground := Ground.data }, { on := 33, ground := Ground.chain }, { on := 33, ground := Ground.guard }], guard := some (33, true) }) rfl ?_ AllReadyH.nil)
  intro K1 hK1
  rw [if_pos (by rfl)]
  have HC11 := closed_is V10 a len cap l (HI.out.1.below hS10.out) (by have := HI.out.2.2.2.1; omega) HI.out.2.2.2.2.1
  go_wp2_with fail
  refine HC11.mono ?_
  rintro e V11 ⟨b1, rfl, G1, HB11⟩
  dsimp only
  clear HC11
  have hS11 : Hid (Below A.heap.size A V11) := hS10.out.trans (HB11.out.mono hS10.out.size)
  refine hK1.out _ _ hS11.out ?_
  clear hK1
  intro _
  try simp only [Act.put, List.setIfInBounds_toArray, List.set_cons_zero, List.set_cons_succ]
  refine wpAnyH_ready (rs := [37]) (by kernel_rfl) (by simp) (AllReadyH.cons (i := 37) (o := { dst := some 120, op := Op.call { callee := Callee.value (Operand.func 20), args := #[Operand.tmp 119], argTypes := #[22] }, type := 4, pos := "law.go:113", after := #[{ on := 36, ground := Ground.data }, { on := 35, ground := Ground.chain }, { on := 33, ground := Ground.guard }], guard := some (33, true) }) rfl ?_ AllReadyH.nil)
  intro K1 hK1
  rw [if_pos (by rfl)]
  have HC12 := closed_is V11 pm len cm m (HI.out.2.1.below hS11.out) (by have := HI.out.2.2.2.1; omega) HI.out.2.2.2.2.2.1
  go_wp2_with fail
  refine HC12.mono ?_
  rintro e V12 ⟨b2, rfl, G2, HB12⟩
  dsimp only
  clear HC12
  have hS12 : Hid (Below A.heap.size A V12) := hS11.out.trans (HB12.out.mono hS11.out.size)
  obtain rfl : b1 = b2 := by
    have e1 := HI.out.1.1
    have e2 := HI.out.2.1.1
    have k := HI.out.2.2.2.2.2.2.closed
    rw [e1, e2] at k
    rw [Bool.eq_iff_iff, G1.out, G2.out, k]
  refine hK1.out _ _ hS12.out ?_
  clear hK1
  intro _
  try simp only [Act.put, List.setIfInBounds_toArray, List.set_cons_zero, List.set_cons_succ]
  refine wpAnyH_take (i := 38) (oi := { dst := some 121, op := Op.binOp BinOp.eql 4 (Operand.tmp 118) (Operand.tmp 120) 4, type := 4, pos := "law.go:113", after := #[{ on := 35, ground := Ground.data }, { on := 37, ground := Ground.data }, { on := 33, ground := Ground.guard }], guard := some (33, true) }) (v := .bool true) rfl (by kernel_rfl) (by kernel_rfl) (by kernel_rfl) (fun _ _ _ h => h.elim) (Or.inl ⟨by rfl, ?y38⟩) hS12.out ?_
  case y38 =>
    intro V hV
    go_simp
  simp only [Act.put, List.setIfInBounds_toArray, List.set_cons_zero, List.set_cons_succ]
  refine wpAnyH_take (i := 39) (oi := { dst := some 122, op := Op.pick (Operand.tmp 116) (Operand.tmp 121) (Operand.const (Value.bool false)), type := 4, pos := "law.go:113", after := #[{ on := 33, ground := Ground.data }, { on := 38, ground := Ground.data }], guard := none }) (v := .bool true) rfl (by kernel_rfl) (by kernel_rfl) (by kernel_rfl) (fun _ _ _ h => h.elim) (Or.inl ⟨by rfl, ?y39⟩) hS12.out ?_
  case y39 =>
    intro V hV
    go_simp
  simp only [Act.put, List.setIfInBounds_toArray, List.set_cons_zero, List.set_cons_succ]
  refine wpAnyH_take (i := 40) (oi := { dst := some 123, op := Op.move (Operand.tmp 122), type := 4, pos := "law.go:113", after := #[{ on := 39, ground := Ground.data }, { on := 37, ground := Ground.chain }], guard := none }) (v := .bool true) rfl (by kernel_rfl) (by kernel_rfl) (by kernel_rfl) (fun _ _ _ h => h.elim) (Or.inl ⟨by rfl, ?y40⟩) hS12.out ?_
  case y40 =>
    intro V hV
    go_simp
  simp only [Act.put, List.setIfInBounds_toArray, List.set_cons_zero, List.set_cons_succ]
  refine wpAnyH_ready (rs := [41]) (by kernel_rfl) (by simp) (AllReadyH.cons (i := 41) (o := { dst := some 124, op := Op.call { callee := Callee.value (Operand.func 9), args := #[], argTypes := #[] }, type := 4, pos := "law.go:113", after := #[{ on := 40, ground := Ground.chain }, { on := 40, ground := Ground.guard }], guard := some (40, true) }) rfl ?_ AllReadyH.nil)
  intro K1 hK1
  rw [if_pos (by rfl)]
  have HC13 := lives_is V12
  go_wp2_with fail
  refine HC13.mono ?_
  rintro e V13 ⟨rfl, HB13⟩
  dsimp only
  clear HC13
  have hS13 : Hid (Below A.heap.size A V13) := hS12.out.trans (HB13.out.mono hS12.out.size)
  refine hK1.out _ _ hS13.out ?_
  clear hK1
  intro _
  try simp only [Act.put, List.setIfInBounds_toArray, List.set_cons_zero, List.set_cons_succ]
  refine wpAnyH_take (i := 42) (oi := { dst := some 125, op := Op.pick (Operand.tmp 123) (Operand.tmp 124) (Operand.const (Value.bool false)), type := 4, pos := "law.go:113", after := #[{ on := 40, ground := Ground.data }, { on := 41, ground := Ground.data }], guard := none }) (v := .bool true) rfl (by kernel_rfl) (by kernel_rfl) (by kernel_rfl) (fun _ _ _ h => h.elim) (Or.inl ⟨by rfl, ?y42⟩) hS13.out ?_
  case y42 =>
    intro V hV
    go_simp
  simp only [Act.put, List.setIfInBounds_toArray, List.set_cons_zero, List.set_cons_succ]
  refine wpAnyH_take (i := 43) (oi := { dst := some 6, op := Op.assign (Operand.tmp 125), type := 4, pos := "law.go:113", after := #[{ on := 42, ground := Ground.data }, { on := 41, ground := Ground.chain }, { on := 0, ground := Ground.phase }, { on := 1, ground := Ground.phase }, { on := 2, ground := Ground.phase }, { on := 3, ground := Ground.phase }, { on := 4, ground := Ground.phase }, { on := 5, ground := Ground.phase }, { on := 6, ground := Ground.phase }, { on := 7, ground := Ground.phase }, { on := 8, ground := Ground.phase }, { on := 9, ground := Ground.phase }, { on := 10, ground := Ground.phase }, { on := 11, ground := Ground.phase }, { on := 12, ground := Ground.phase }, { on := 13, ground := Ground.phase }, { on := 14, ground := Ground.phase }, { on := 15, ground := Ground.phase }, { on := 16, ground := Ground.phase }, { on := 17, ground := Ground.phase }, { on := 18, ground := Ground.phase }, { on := 19, ground := Ground.phase }, { on := 20, ground := Ground.phase }, { on := 21, ground := Ground.phase }, { on := 22, ground := Ground.phase }, { on := 23, ground := Ground.phase }, { on := 24, ground := Ground.phase }, { on := 25, ground := Ground.phase }, { on := 26, ground := Ground.phase }, { on := 27, ground := Ground.phase }, { on := 28, ground := Ground.phase }, { on := 29, ground := Ground.phase }, { on := 30, ground := Ground.phase }, { on := 31, ground := Ground.phase }, { on := 32, ground := Ground.phase }, { on := 33, ground := Ground.phase }, { on := 34, ground := Ground.phase }, { on := 35, ground := Ground.phase }, { on := 36, ground := Ground.phase }, { on := 37, ground := Ground.phase }, { on := 38, ground := Ground.phase }, { on := 39, ground := Ground.phase }, { on := 40, ground := Ground.phase }, { on := 41, ground := Ground.phase }, { on := 42, ground := Ground.phase }], guard := none }) (v := .bool true) rfl (by kernel_rfl) (by kernel_rfl) (by kernel_rfl) (fun _ _ _ h => h.elim) (Or.inl ⟨by rfl, ?y43⟩) hS13.out ?_
  case y43 =>
    intro V hV
    go_simp
  simp only [Act.put, List.setIfInBounds_toArray, List.set_cons_zero, List.set_cons_succ]
  refine wpAnyH_done (by kernel_rfl) ?_ _
  exact hQ p1 n1 c1 p2 n2 c2 p3 n3 c3 p4 n4 c4 p5 n5 c5 p6 n6 c6 b1 V13 hS13.out
#print axioms turned_region
end Go.Proofs.Ytijkpkcopjkhkaa.Oct
