/-
  Layer 18 (quota): QuotaPlays: the drawn region of its loop.
-/
import Derived.Test.YtbkkdjafcmnliaaRefHit
namespace Go.Proofs.Ytbkkdjafcmnliaa.Oct
open Go.RowKit
set_option linter.unusedSimpArgs false

set_option maxRecDepth 100000 in
set_option maxHeartbeats 2000000 in
theorem plays_region {Q : Exit → Act → World → Prop} {x0 x1 x2 x3 x4 x9 x11 x12 x13 x14 x15 x16 x17 x18 x19 x20 x21 x22 x23 x24 x25 x26 x27 x28 x29 x30 x31 x32 x33 x34 x35 x36 x37 x38 x39 x40 x41 x42 x43 x44 x45 x46 x47 x48 x49 x50 x51 x52 x53 x54 x55 x56 x57 x58 x59 x60 x61 x62 x63 x64 x65 x66 x67 x68 x69 x70 x71 x72 x73 x74 x75 x76 x77 x78 x79 x80 x81 x82 x83 x84 x85 x86 x87 x88 x89 x90 x91 x92 x93 x94 x95 x96 x97 x98 x99 x100 x101 x102 x103 x104 x105 x106 x107 x108 x109 x110 x111 x112 x113 x114 x115 x116 x117 x118 x119 x120 x121 x122 x123 x124 x125 x126 x127 x128 x129 x130 x131 x132 x133 x134 x135 x136 : Value} {ds : List Deferred} {A : World} {p rb ab m cap : Nat} {a : Option Addr} {b r n u x c h : Int}
    (HC : Hid (Blk A rb 31 [iv b, iv r, iv n, iv u, .slice a m cap])) (HA : Hid (A.cell? ⟨ab, 1, none⟩ = some (iv x) ∧ ab < A.heap.size)) (H19 : Hid (∀ V, Below A.heap.size A V → Calls Try.prog 19 #[.pointer (some ⟨p, 0, none⟩)] V fun e w' => e = .returned (iv u) ∧ Hid (Below V.heap.size V w'))) (H20 : Hid (∀ V, Below A.heap.size A V → Calls Try.prog 20 #[.pointer (some ⟨p, 0, none⟩), iv x] V fun e w' => e = .returned (iv h) ∧ Hid (Below V.heap.size V w'))) (H21 : Hid (∀ V, Below A.heap.size A V → Calls Try.prog 21 #[.agg #[iv b, iv r, iv n, iv u, .slice a m cap], iv x] V fun e w' => e = .returned (iv h) ∧ Hid (Below V.heap.size V w')))
    (hQ : ∀ V, Below A.heap.size A V → Q .normal { tmps := #[x0, x1, x2, x3, x4, .pointer (some ⟨p, 0, none⟩), iv c, .pointer (some ⟨rb, 0, none⟩), iv c, x9, .pointer (some ⟨ab, 0, none⟩), x11, x12, x13, x14, x15, x16, x17, x18, x19, x20, x21, x22, x23, x24, x25, x26, x27, x28, x29, x30, x31, x32, x33, x34, x35, x36, x37, x38, x39, x40, x41, x42, x43, x44, x45, x46, x47, x48, x49, x50, x51, x52, x53, x54, x55, x56, x57, x58, x59, x60, x61, x62, x63, x64, x65, x66, x67, x68, x69, x70, x71, x72, x73, x74, x75, x76, x77, x78, x79, x80, x81, x82, x83, x84, x85, x86, x87, x88, x89, x90, x91, x92, x93, x94, x95, x96, x97, x98, x99, x100, x101, x102, x103, x104, x105, x106, x107, x108, x109, x110, x111, x112, x113, x114, iv c, iv c, .bool false, .bool false, .pointer (some ⟨p, 0, none⟩), iv u, .pointer (some ⟨rb, 3, none⟩), iv u, .bool false, .bool false, .bool false, .pointer (some ⟨p, 0, none⟩), .pointer (some ⟨ab, 1, none⟩), iv x, iv h, .agg #[iv b, iv r, iv n, iv u, .slice a m cap], .pointer (some ⟨ab, 1, none⟩), iv x, iv h, .bool false, .bool false, x136], defers := ds } V) :
    (Code.region 21 #[{ dst := some 115, op := Op.move (Operand.tmp 6), type := 26, pos := "law.go:50", after := #[], guard := none }, { dst := some 116, op := Op.move (Operand.tmp 8), type := 3, pos := "law.go:50", after := #[], guard := none }, { dst := some 117, op := Op.binOp BinOp.neq 3 (Operand.tmp 115) (Operand.tmp 116) 3, type := 4, pos := "law.go:50", after := #[{ on := 0, ground := Ground.data }, { on := 1, ground := Ground.data }], guard := none }, { dst := some 118, op := Op.move (Operand.tmp 117), type := 4, pos := "law.go:50", after := #[{ on := 2, ground := Ground.data }], guard := none }, { dst := some 119, op := Op.move (Operand.tmp 5), type := 25, pos := "law.go:50", after := #[{ on := 3, ground := Ground.guard }], guard := some (3, false) }, { dst := some 120, op := Op.call { callee := Callee.value (Operand.func 19), args := #[Operand.tmp 119], argTypes := #[25] }, type := 3, pos := "law.go:50", after := #[{ on := 4, ground := Ground.data }, { on := 3, ground := Ground.chain }, { on := 3, ground := Ground.guard }], guard := some (3, false) }, { dst := some 121, op := Op.fieldAddr 31 (Operand.tmp 7) 1, type := 0, pos := "law.go:50", after := #[{ on := 3, ground := Ground.guard }], guard := some (3, false) }, { dst := some 122, op := Op.load 3 (Operand.tmp 121), type := 3, pos := "law.go:50", after := #[{ on := 6, ground := Ground.data }, { on := 3, ground := Ground.guard }], guard := some (3, false) }, { dst := some 123, op := Op.binOp BinOp.neq 3 (Operand.tmp 120) (Operand.tmp 122) 3, type := 4, pos := "law.go:50", after := #[{ on := 5, ground := Ground.data }, { on := 7, ground := Ground.data }, { on := 3, ground := Ground.guard }], guard := some (3, false) }, { dst := some 124, op := Op.pick (Operand.tmp 118) (Operand.const (Value.bool true)) (Operand.tmp 123), type := 4, pos := "law.go:50", after := #[{ on := 3, ground := Ground.data }, { on := 8, ground := Ground.data }], guard := none }, { dst := some 125, op := Op.move (Operand.tmp 124), type := 4, pos := "law.go:50", after := #[{ on := 9, ground := Ground.data }, { on := 5, ground := Ground.chain }], guard := none }, { dst := some 126, op := Op.move (Operand.tmp 5), type := 25, pos := "law.go:50", after := #[{ on := 10, ground := Ground.guard }], guard := some (10, false) }, { dst := some 127, op := Op.fieldAddr 36 (Operand.tmp 10) 1, type := 0, pos := "law.go:50", after := #[{ on := 10, ground := Ground.guard }], guard := some (10, false) }, { dst := some 128, op := Op.load 3 (Operand.tmp 127), type := 3, pos := "law.go:50", after := #[{ on := 12, ground := Ground.data }, { on := 10, ground := Ground.guard }], guard := some (10, false) }, { dst := some 129, op := Op.call { callee := Callee.value (Operand.func 20), args := #[Operand.tmp 126, Operand.tmp 128], argTypes := #[25, 3] }, type := 3, pos := "law.go:50", after := #[{ on := 11, ground := Ground.data }, { on := 13, ground := Ground.data }, { on := 10, ground := Ground.chain }, { on := 10, ground := Ground.guard }], guard := some (10, false) }, { dst := some 130, op := Op.load 31 (Operand.tmp 7), type := 31, pos := "law.go:50", after := #[{ on := 10, ground := Ground.guard }], guard := some (10, false) }, { dst := some 131, op := Op.fieldAddr 36 (Operand.tmp 10) 1, type := 0, pos := "law.go:50", after := #[{ on := 10, ground := Ground.guard }], guard := some (10, false) }, { dst := some 132, op := Op.load 3 (Operand.tmp 131), type := 3, pos := "law.go:50", after := #[{ on := 16, ground := Ground.data }, { on := 10, ground := Ground.guard }], guard := some (10, false) }, { dst := some 133, op := Op.call { callee := Callee.value (Operand.func 21), args := #[Operand.tmp 130, Operand.tmp 132], argTypes := #[31, 3] }, type := 3, pos := "law.go:50", after := #[{ on := 15, ground := Ground.data }, { on := 17, ground := Ground.data }, { on := 14, ground := Ground.chain }, { on := 10, ground := Ground.guard }], guard := some (10, false) }, { dst := some 134, op := Op.binOp BinOp.neq 3 (Operand.tmp 129) (Operand.tmp 133) 3, type := 4, pos := "law.go:50", after := #[{ on := 14, ground := Ground.data }, { on := 18, ground := Ground.data }, { on := 10, ground := Ground.guard }], guard := some (10, false) }, { dst := some 135, op := Op.pick (Operand.tmp 125) (Operand.const (Value.bool true)) (Operand.tmp 134), type := 4, pos := "law.go:50", after := #[{ on := 10, ground := Ground.data }, { on := 19, ground := Ground.data }], guard := none }] true).wp Try.prog Q { tmps := #[x0, x1, x2, x3, x4, .pointer (some ⟨p, 0, none⟩), iv c, .pointer (some ⟨rb, 0, none⟩), iv c, x9, .pointer (some ⟨ab, 0, none⟩), x11, x12, x13, x14, x15, x16, x17, x18, x19, x20, x21, x22, x23, x24, x25, x26, x27, x28, x29, x30, x31, x32, x33, x34, x35, x36, x37, x38, x39, x40, x41, x42, x43, x44, x45, x46, x47, x48, x49, x50, x51, x52, x53, x54, x55, x56, x57, x58, x59, x60, x61, x62, x63, x64, x65, x66, x67, x68, x69, x70, x71, x72, x73, x74, x75, x76, x77, x78, x79, x80, x81, x82, x83, x84, x85, x86, x87, x88, x89, x90, x91, x92, x93, x94, x95, x96, x97, x98, x99, x100, x101, x102, x103, x104, x105, x106, x107, x108, x109, x110, x111, x112, x113, x114, x115, x116, x117, x118, x119, x120, x121, x122, x123, x124, x125, x126, x127, x128, x129, x130, x131, x132, x133, x134, x135, x136], defers := ds } A := by
  refine Code.wp_mono (Q := fun x a' w' => match x with | .normal => Q .normal a' w' | _ => False) (by intro x a' w' h; cases x <;> first | exact h | exact h.elim) ?_
  refine wp_region_held (S := fun V => Below A.heap.size A V) (by kernel_rfl) ?_
  have hS0 : Hid (Below A.heap.size A A.drew) := below_drew A
  change wpAnyH Try.prog .any _ _ (fun V => Below A.heap.size A V) 21 (Array.replicate 21 false) _ A.drew
  refine wpAnyH_take (i := 0) (oi := { dst := some 115, op := Op.move (Operand.tmp 6), type := 26, pos := "law.go:50", after := #[], guard := none }) (v := iv c) rfl (by kernel_rfl) (by kernel_rfl) (by kernel_rfl) (fun _ _ _ h => h.elim) (Or.inl ⟨by rfl, ?y0⟩) hS0.out ?_
  case y0 =>
    intro V hV
    go_simp
  simp only [Act.put, List.setIfInBounds_toArray, List.set_cons_zero, List.set_cons_succ]
  refine wpAnyH_take (i := 1) (oi := { dst := some 116, op := Op.move (Operand.tmp 8), type := 3, pos := "law.go:50", after := #[], guard := none }) (v := iv c) rfl (by kernel_rfl) (by kernel_rfl) (by kernel_rfl) (fun _ _ _ h => h.elim) (Or.inl ⟨by rfl, ?y1⟩) hS0.out ?_
  case y1 =>
    intro V hV
    go_simp
  simp only [Act.put, List.setIfInBounds_toArray, List.set_cons_zero, List.set_cons_succ]
  refine wpAnyH_take (i := 2) (oi := { dst := some 117, op := Op.binOp BinOp.neq 3 (Operand.tmp 115) (Operand.tmp 116) 3, type := 4, pos := "law.go:50", after := #[{ on := 0, ground := Ground.data }, { on := 1, ground := Ground.data }], guard := none }) (v := .bool false) rfl (by kernel_rfl) (by kernel_rfl) (by kernel_rfl) (fun _ _ _ h => h.elim) (Or.inl ⟨by rfl, ?y2⟩) hS0.out ?_
  case y2 =>
    intro V hV
    go_simp
  simp only [Act.put, List.setIfInBounds_toArray, List.set_cons_zero, List.set_cons_succ]
  refine wpAnyH_take (i := 3) (oi := { dst := some 118, op := Op.move (Operand.tmp 117), type := 4, pos := "law.go:50", after := #[{ on := 2, ground := Ground.data }], guard := none }) (v := .bool false) rfl (by kernel_rfl) (by kernel_rfl) (by kernel_rfl) (fun _ _ _ h => h.elim) (Or.inl ⟨by rfl, ?y3⟩) hS0.out ?_
  case y3 =>
    intro V hV
    go_simp
  simp only [Act.put, List.setIfInBounds_toArray, List.set_cons_zero, List.set_cons_succ]
  refine wpAnyH_take (i := 4) (oi := { dst := some 119, op := Op.move (Operand.tmp 5), type := 25, pos := "law.go:50", after := #[{ on := 3, ground := Ground.guard }], guard := some (3, false) }) (v := .pointer (some ⟨p, 0, none⟩)) rfl (by kernel_rfl) (by kernel_rfl) (by kernel_rfl) (fun _ _ _ h => h.elim) (Or.inl ⟨by rfl, ?y4⟩) hS0.out ?_
  case y4 =>
    intro V hV
    go_simp
  simp only [Act.put, List.setIfInBounds_toArray, List.set_cons_zero, List.set_cons_succ]
  refine wpAnyH_take (i := 6) (oi := { dst := some 121, op := Op.fieldAddr 31 (Operand.tmp 7) 1, type := 0, pos := "law.go:50", after := #[{ on := 3, ground := Ground.guard }], guard := some (3, false) }) (v := .pointer (some ⟨rb, 3, none⟩)) rfl (by kernel_rfl) (by kernel_rfl) (by kernel_rfl) (fun _ _ _ h => h.elim) (Or.inl ⟨by rfl, ?y6⟩) hS0.out ?_
  case y6 =>
    intro V hV
    go_simp
  simp only [Act.put, List.setIfInBounds_toArray, List.set_cons_zero, List.set_cons_succ]
  refine wpAnyH_take (i := 7) (oi := { dst := some 122, op := Op.load 3 (Operand.tmp 121), type := 3, pos := "law.go:50", after := #[{ on := 6, ground := Ground.data }, { on := 3, ground := Ground.guard }], guard := some (3, false) }) (v := iv u) rfl (by kernel_rfl) (by kernel_rfl) (by kernel_rfl) (fun _ _ _ h => h.elim) (Or.inl ⟨by rfl, ?y7⟩) hS0.out ?_
  case y7 =>
    intro V hV
    have k : V.cell? ⟨rb, 3, none⟩ = some (iv u) := (Below.cell (p := ⟨rb, 3, none⟩) hV HC.out.lt).trans (HC.out.cell rfl)
    go_simp
  simp only [Act.put, List.setIfInBounds_toArray, List.set_cons_zero, List.set_cons_succ]
  refine wpAnyH_ready (rs := [5]) (by kernel_rfl) (by simp) (AllReadyH.cons (i := 5) (o := { dst := some 120, op := Op.call { callee := Callee.value (Operand.func 19), args := #[Operand.tmp 119], argTypes := #[25] }, type := 3, pos := "law.go:50", after := #[{ on := 4, ground := Ground.data }, { on := 3, ground := Ground.chain }, { on := 3, ground := Ground.guard }], guard := some (3, false) }) rfl ?_ AllReadyH.nil)
  intro K1 hK1
  rw [if_pos (by rfl)]
  have HC1 := H19.out A.drew hS0.out
  go_wp2_with fail
  refine HC1.mono ?_
  rintro e V1 ⟨rfl, HB1⟩
  dsimp only
  clear HC1
  have hS1 : Hid (Below A.heap.size A V1) := hS0.out.trans (HB1.out.mono hS0.out.size)
  refine hK1.out _ _ hS1.out ?_
  clear hK1
  intro _
  try simp only [Act.put, List.setIfInBounds_toArray, List.set_cons_zero, List.set_cons_succ]
  refine wpAnyH_take (i := 8) (oi := { dst := some 123, op := Op.binOp BinOp.neq 3 (Operand.tmp 120) (Operand.tmp 122) 3, type := 4, pos := "law.go:50", after := #[{ on := 5, ground := Ground.data }, { on := 7, ground := Ground.data }, { on := 3, ground := Ground.guard }], guard := some (3, false) }) (v := .bool false) rfl (by kernel_rfl) (by kernel_rfl) (by kernel_rfl) (fun _ _ _ h => h.elim) (Or.inl ⟨by rfl, ?y8⟩) hS1.out ?_
  case y8 =>
    intro V hV
    go_simp
  simp only [Act.put, List.setIfInBounds_toArray, List.set_cons_zero, List.set_cons_succ]
  refine wpAnyH_take (i := 9) (oi := { dst := some 124, op := Op.pick (Operand.tmp 118) (Operand.const (Value.bool true)) (Operand.tmp 123), type := 4, pos := "law.go:50", after := #[{ on := 3, ground := Ground.data }, { on := 8, ground := Ground.data }], guard := none }) (v := .bool false) rfl (by kernel_rfl) (by kernel_rfl) (by kernel_rfl) (fun _ _ _ h => h.elim) (Or.inl ⟨by rfl, ?y9⟩) hS1.out ?_
  case y9 =>
    intro V hV
    go_simp
  simp only [Act.put, List.setIfInBounds_toArray, List.set_cons_zero, List.set_cons_succ]
  refine wpAnyH_take (i := 10) (oi := { dst := some 125, op := Op.move (Operand.tmp 124), type := 4, pos := "law.go:50", after := #[{ on := 9, ground := Ground.data }, { on := 5, ground := Ground.chain }], guard := none }) (v := .bool false) rfl (by kernel_rfl) (by kernel_rfl) (by kernel_rfl) (fun _ _ _ h => h.elim) (Or.inl ⟨by rfl, ?y10⟩) hS1.out ?_
  case y10 =>
    intro V hV
    go_simp
  simp only [Act.put, List.setIfInBounds_toArray, List.set_cons_zero, List.set_cons_succ]
  refine wpAnyH_take (i := 11) (oi := { dst := some 126, op := Op.move (Operand.tmp 5), type := 25, pos := "law.go:50", after := #[{ on := 10, ground := Ground.guard }], guard := some (10, false) }) (v := .pointer (some ⟨p, 0, none⟩)) rfl (by kernel_rfl) (by kernel_rfl) (by kernel_rfl) (fun _ _ _ h => h.elim) (Or.inl ⟨by rfl, ?y11⟩) hS1.out ?_
  case y11 =>
    intro V hV
    go_simp
  simp only [Act.put, List.setIfInBounds_toArray, List.set_cons_zero, List.set_cons_succ]
  refine wpAnyH_take (i := 12) (oi := { dst := some 127, op := Op.fieldAddr 36 (Operand.tmp 10) 1, type := 0, pos := "law.go:50", after := #[{ on := 10, ground := Ground.guard }], guard := some (10, false) }) (v := .pointer (some ⟨ab, 1, none⟩)) rfl (by kernel_rfl) (by kernel_rfl) (by kernel_rfl) (fun _ _ _ h => h.elim) (Or.inl ⟨by rfl, ?y12⟩) hS1.out ?_
  case y12 =>
    intro V hV
    go_simp
  simp only [Act.put, List.setIfInBounds_toArray, List.set_cons_zero, List.set_cons_succ]
  refine wpAnyH_take (i := 13) (oi := { dst := some 128, op := Op.load 3 (Operand.tmp 127), type := 3, pos := "law.go:50", after := #[{ on := 12, ground := Ground.data }, { on := 10, ground := Ground.guard }], guard := some (10, false) }) (v := iv x) rfl (by kernel_rfl) (by kernel_rfl) (by kernel_rfl) (fun _ _ _ h => h.elim) (Or.inl ⟨by rfl, ?y13⟩) hS1.out ?_
  case y13 =>
    intro V hV
    have k : V.cell? ⟨ab, 1, none⟩ = some (iv x) := (Below.cell (p := ⟨ab, 1, none⟩) hV HA.out.2).trans HA.out.1
    go_simp
  simp only [Act.put, List.setIfInBounds_toArray, List.set_cons_zero, List.set_cons_succ]
  refine wpAnyH_take (i := 15) (oi := { dst := some 130, op := Op.load 31 (Operand.tmp 7), type := 31, pos := "law.go:50", after := #[{ on := 10, ground := Ground.guard }], guard := some (10, false) }) (v := .agg #[iv b, iv r, iv n, iv u, .slice a m cap]) rfl (by kernel_rfl) (by kernel_rfl) (by kernel_rfl) (fun _ _ _ h => h.elim) (yieldsIf_load_mid (by rfl) _ _ rfl _ _ rfl ([iv b, iv r, iv n, iv u, .slice a m cap]) _ (fun V hV => rangeAt_same (HC.out.range 0 5) ((show Below A.heap.size A V from hV).block _ (HC.out.lt))) Try.underlying31 rfl (size31)) hS1.out ?_
  simp only [Act.put, List.setIfInBounds_toArray, List.set_cons_zero, List.set_cons_succ]
  refine wpAnyH_take (i := 16) (oi := { dst := some 131, op := Op.fieldAddr 36 (Operand.tmp 10) 1, type := 0, pos := "law.go:50", after := #[{ on := 10, ground := Ground.guard }], guard := some (10, false) }) (v := .pointer (some ⟨ab, 1, none⟩)) rfl (by kernel_rfl) (by kernel_rfl) (by kernel_rfl) (fun _ _ _ h => h.elim) (Or.inl ⟨by rfl, ?y16⟩) hS1.out ?_
  case y16 =>
    intro V hV
    go_simp
  simp only [Act.put, List.setIfInBounds_toArray, List.set_cons_zero, List.set_cons_succ]
  refine wpAnyH_take (i := 17) (oi := { dst := some 132, op := Op.load 3 (Operand.tmp 131), type := 3, pos := "law.go:50", after := #[{ on := 16, ground := Ground.data }, { on := 10, ground := Ground.guard }], guard := some (10, false) }) (v := iv x) rfl (by kernel_rfl) (by kernel_rfl) (by kernel_rfl) (fun _ _ _ h => h.elim) (Or.inl ⟨by rfl, ?y17⟩) hS1.out ?_
  case y17 =>
    intro V hV
    have k : V.cell? ⟨ab, 1, none⟩ = some (iv x) := (Below.cell (p := ⟨ab, 1, none⟩) hV HA.out.2).trans HA.out.1
    go_simp
  simp only [Act.put, List.setIfInBounds_toArray, List.set_cons_zero, List.set_cons_succ]
  refine wpAnyH_ready (rs := [14]) (by kernel_rfl) (by simp) (AllReadyH.cons (i := 14) (o := { dst := some 129, op := Op.call { callee := Callee.value (Operand.func 20), args := #[Operand.tmp 126, Operand.tmp 128], argTypes := #[25, 3] }, type := 3, pos := "law.go:50", after := #[{ on := 11, ground := Ground.data }, { on := 13, ground := Ground.data }, { on := 10, ground := Ground.chain }, { on := 10, ground := Ground.guard }], guard := some (10, false) }) rfl ?_ AllReadyH.nil)
  intro K1 hK1
  rw [if_pos (by rfl)]
  have HC2 := H20.out V1 hS1.out
  go_wp2_with fail
  refine HC2.mono ?_
  rintro e V2 ⟨rfl, HB2⟩
  dsimp only
  clear HC2
  have hS2 : Hid (Below A.heap.size A V2) := hS1.out.trans (HB2.out.mono hS1.out.size)
  refine hK1.out _ _ hS2.out ?_
  clear hK1
  intro _
  try simp only [Act.put, List.setIfInBounds_toArray, List.set_cons_zero, List.set_cons_succ]
  refine wpAnyH_ready (rs := [18]) (by kernel_rfl) (by simp) (AllReadyH.cons (i := 18) (o := { dst := some 133, op := Op.call { callee := Callee.value (Operand.func 21), args := #[Operand.tmp 130, Operand.tmp 132], argTypes := #[31, 3] }, type := 3, pos := "law.go:50", after := #[{ on := 15, ground := Ground.data }, { on := 17, ground := Ground.data }, { on := 14, ground := Ground.chain }, { on := 10, ground := Ground.guard }], guard := some (10, false) }) rfl ?_ AllReadyH.nil)
  intro K1 hK1
  rw [if_pos (by rfl)]
  have HC3 := H21.out V2 hS2.out
  go_wp2_with fail
  refine HC3.mono ?_
  rintro e V3 ⟨rfl, HB3⟩
  dsimp only
  clear HC3
  have hS3 : Hid (Below A.heap.size A V3) := hS2.out.trans (HB3.out.mono hS2.out.size)
  refine hK1.out _ _ hS3.out ?_
  clear hK1
  intro _
  try simp only [Act.put, List.setIfInBounds_toArray, List.set_cons_zero, List.set_cons_succ]
  refine wpAnyH_take (i := 19) (oi := { dst := some 134, op := Op.binOp BinOp.neq 3 (Operand.tmp 129) (Operand.tmp 133) 3, type := 4, pos := "law.go:50", after := #[{ on := 14, ground := Ground.data }, { on := 18, ground := Ground.data }, { on := 10, ground := Ground.guard }], guard := some (10, false) }) (v := .bool false) rfl (by kernel_rfl) (by kernel_rfl) (by kernel_rfl) (fun _ _ _ h => h.elim) (Or.inl ⟨by rfl, ?y19⟩) hS3.out ?_
  case y19 =>
    intro V hV
    go_simp
  simp only [Act.put, List.setIfInBounds_toArray, List.set_cons_zero, List.set_cons_succ]
  refine wpAnyH_take (i := 20) (oi := { dst := some 135, op := Op.pick (Operand.tmp 125) (Operand.const (Value.bool true)) (Operand.tmp 134), type := 4, pos := "law.go:50", after := #[{ on := 10, ground := Ground.data }, { on := 19, ground := Ground.data }], guard := none }) (v := .bool false) rfl (by kernel_rfl) (by kernel_rfl) (by kernel_rfl) (fun _ _ _ h => h.elim) (Or.inl ⟨by rfl, ?y20⟩) hS3.out ?_
  case y20 =>
    intro V hV
    go_simp
  simp only [Act.put, List.setIfInBounds_toArray, List.set_cons_zero, List.set_cons_succ]
  refine wpAnyH_done (by kernel_rfl) ?_ _
  exact hQ _ hS3.out
#print axioms plays_region
end Go.Proofs.Ytbkkdjafcmnliaa.Oct
