/-
  Layer 20 (review): ReviewVotes: its drawn regions.
-/
import Derived.Test.YtaecigpjcbjcbaaVrs
namespace Go.Proofs.Ytaecigpjcbjcbaa.Oct
open Go.RowKit
set_option linter.unusedSimpArgs false
set_option linter.unusedVariables false

set_option maxRecDepth 100000 in
set_option maxHeartbeats 4000000 in
theorem vot16 {Q : Exit → Act → World → Prop} {x0 x1 x2 x3 x4 x5 x6 x7 x9 x10 x12 x14 x15 x16 x17 x18 x19 x20 x21 x22 x23 x24 x25 x26 x27 x28 x29 x30 x31 x32 x33 x34 x35 x36 x37 x38 x39 x40 x41 x42 x43 x44 x45 x46 x47 x48 x49 x50 x51 x52 x53 x54 x55 x56 x57 x58 x59 x60 x61 x62 x63 x64 x65 x66 x67 x68 x69 x70 x71 x72 x73 x74 x75 x76 x77 x78 x79 x80 x81 x82 x83 x84 x85 x86 x87 x88 x89 x90 x91 x92 x93 x94 x95 x96 x97 x98 x99 x100 x101 x102 x103 x104 x105 x106 x107 x108 x109 x110 x111 x112 x113 x114 x115 x116 x117 x118 x119 x120 x121 x122 x123 x124 x125 x126 x127 x128 x129 x130 x131 x132 x133 x134 x135 x136 x137 x138 x139 x140 x141 x142 x143 x144 x145 x146 x147 x148 x149 x150 x151 x152 x153 x154 x155 x156 x157 x158 x159 x160 x161 x162 x163 x164 x165 x166 x167 x168 x169 x170 x171 x172 x173 x174 x175 x176 x177 x178 x179 : Value} {ds : List Deferred} {A : World} {b g n c i : Nat} {x u : BA} {r : Bool}
    (HL : Hid (b < A.heap.size ∧ g < A.heap.size)) (k1 : A.cell? ⟨b, i, none⟩ = some (.string x)) (k2 : A.cell? ⟨g, 2, none⟩ = some (.string u)) (q1 : (i : Int) < (n : Int)) (q2 : i < n) (hr : (x.toList == u.toList) = r)
    (hQ : ∀ V1, Below A.heap.size A V1 → Q .normal { tmps := #[x0, x1, x2, x3, x4, x5, x6, x7, .slice (some ⟨b, 0, none⟩) n c, x9, x10, .pointer (some ⟨g, 0, none⟩), x12, iv (i : Int), x14, x15, x16, x17, x18, x19, x20, x21, x22, x23, x24, x25, x26, x27, x28, x29, x30, x31, x32, x33, x34, x35, x36, x37, x38, x39, x40, x41, x42, x43, x44, x45, x46, x47, x48, x49, x50, x51, x52, x53, x54, .slice (some ⟨b, 0, none⟩) n c, iv (i : Int), .pointer (some ⟨b, i, none⟩), .string x, .pointer (some ⟨g, 2, none⟩), .string u, .bool r, x62, x63, x64, x65, x66, x67, x68, x69, x70, x71, x72, x73, x74, x75, x76, x77, x78, x79, x80, x81, x82, x83, x84, x85, x86, x87, x88, x89, x90, x91, x92, x93, x94, x95, x96, x97, x98, x99, x100, x101, x102, x103, x104, x105, x106, x107, x108, x109, x110, x111, x112, x113, x114, x115, x116, x117, x118, x119, x120, x121, x122, x123, x124, x125, x126, x127, x128, x129, x130, x131, x132, x133, x134, x135, x136, x137, x138, x139, x140, x141, x142, x143, x144, x145, x146, x147, x148, x149, x150, x151, x152, x153, x154, x155, x156, x157, x158, x159, x160, x161, x162, x163, x164, x165, x166, x167, x168, x169, x170, x171, x172, x173, x174, x175, x176, x177, x178, x179], defers := ds } V1) :
    (Code.region 16 #[{ dst := some 55, op := Op.move (Operand.tmp 8), type := 40, pos := "law.go:142", after := #[], guard := none }, { dst := some 56, op := Op.move (Operand.tmp 13), type := 3, pos := "law.go:142", after := #[], guard := none }, { dst := some 57, op := Op.indexAddr 40 (Operand.tmp 55) (Operand.tmp 56), type := 0, pos := "law.go:142", after := #[{ on := 0, ground := Ground.data }, { on := 1, ground := Ground.data }], guard := none }, { dst := some 58, op := Op.load 9 (Operand.tmp 57), type := 9, pos := "law.go:142", after := #[{ on := 2, ground := Ground.data }], guard := none }, { dst := some 59, op := Op.fieldAddr 34 (Operand.tmp 11) 2, type := 0, pos := "law.go:142", after := #[], guard := none }, { dst := some 60, op := Op.load 9 (Operand.tmp 59), type := 9, pos := "law.go:142", after := #[{ on := 4, ground := Ground.data }], guard := none }, { dst := some 61, op := Op.binOp BinOp.eql 9 (Operand.tmp 58) (Operand.tmp 60) 9, type := 4, pos := "law.go:142", after := #[{ on := 3, ground := Ground.data }, { on := 5, ground := Ground.data }], guard := none }] true).wp Try.prog Q { tmps := #[x0, x1, x2, x3, x4, x5, x6, x7, .slice (some ⟨b, 0, none⟩) n c, x9, x10, .pointer (some ⟨g, 0, none⟩), x12, iv (i : Int), x14, x15, x16, x17, x18, x19, x20, x21, x22, x23, x24, x25, x26, x27, x28, x29, x30, x31, x32, x33, x34, x35, x36, x37, x38, x39, x40, x41, x42, x43, x44, x45, x46, x47, x48, x49, x50, x51, x52, x53, x54, x55, x56, x57, x58, x59, x60, x61, x62, x63, x64, x65, x66, x67, x68, x69, x70, x71, x72, x73, x74, x75, x76, x77, x78, x79, x80, x81, x82, x83, x84, x85, x86, x87, x88, x89, x90, x91, x92, x93, x94, x95, x96, x97, x98, x99, x100, x101, x102, x103, x104, x105, x106, x107, x108, x109, x110, x111, x112, x113, x114, x115, x116, x117, x118, x119, x120, x121, x122, x123, x124, x125, x126, x127, x128, x129, x130, x131, x132, x133, x134, x135, x136, x137, x138, x139, x140, x141, x142, x143, x144, x145, x146, x147, x148, x149, x150, x151, x152, x153, x154, x155, x156, x157, x158, x159, x160, x161, x162, x163, x164, x165, x166, x167, x168, x169, x170, x171, x172, x173, x174, x175, x176, x177, x178, x179], defers := ds } A := by
  refine Code.wp_mono (Q := fun x a' w' => match x with | .normal => Q .normal a' w' | _ => False) (by intro x a' w' h; cases x <;> first | exact h | exact h.elim) ?_
  refine wp_region_held (S := fun V => Below A.heap.size A V) (by kernel_rfl) ?_
  have hS0 : Hid (Below A.heap.size A A.drew) := below_drew0 A
  change wpAnyH Try.prog .any _ _ (fun V => Below A.heap.size A V) 7 (Array.replicate 7 false) _ A.drew
  obtain ⟨V0, hV0⟩ : ∃ V0, A.drew = V0 := ⟨_, rfl⟩
  rw [hV0]
  rw [hV0] at hS0
  clear hV0
  refine wpAnyH_take (i := 0) (oi := { dst := some 55, op := Op.move (Operand.tmp 8), type := 40, pos := "law.go:142", after := #[], guard := none }) (v := .slice (some ⟨b, 0, none⟩) n c) rfl (by kernel_rfl) (by kernel_rfl) (by kernel_rfl) (fun _ _ _ h => h.elim) (Or.inl ⟨by rfl, ?y1⟩) hS0.out ?_
  case y1 =>
    intro V hV
    go_simp
  simp only [Act.put, List.setIfInBounds_toArray, List.set_cons_zero, List.set_cons_succ]
  refine wpAnyH_take (i := 1) (oi := { dst := some 56, op := Op.move (Operand.tmp 13), type := 3, pos := "law.go:142", after := #[], guard := none }) (v := iv (i : Int)) rfl (by kernel_rfl) (by kernel_rfl) (by kernel_rfl) (fun _ _ _ h => h.elim) (Or.inl ⟨by rfl, ?y2⟩) hS0.out ?_
  case y2 =>
    intro V hV
    go_simp
  simp only [Act.put, List.setIfInBounds_toArray, List.set_cons_zero, List.set_cons_succ]
  refine wpAnyH_take (i := 2) (oi := { dst := some 57, op := Op.indexAddr 40 (Operand.tmp 55) (Operand.tmp 56), type := 0, pos := "law.go:142", after := #[{ on := 0, ground := Ground.data }, { on := 1, ground := Ground.data }], guard := none }) (v := .pointer (some ⟨b, i, none⟩)) rfl (by kernel_rfl) (by kernel_rfl) (by kernel_rfl) (fun _ _ _ h => h.elim) (Or.inl ⟨by rfl, ?y3⟩) hS0.out ?_
  case y3 =>
    intro V hV
    have hcmp := q1
    have hcmp2 := q2
    go_simp
  simp only [Act.put, List.setIfInBounds_toArray, List.set_cons_zero, List.set_cons_succ]
  refine wpAnyH_take (i := 3) (oi := { dst := some 58, op := Op.load 9 (Operand.tmp 57), type := 9, pos := "law.go:142", after := #[{ on := 2, ground := Ground.data }], guard := none }) (v := .string x) rfl (by kernel_rfl) (by kernel_rfl) (by kernel_rfl) (fun _ _ _ h => h.elim) (Or.inl ⟨by rfl, ?y4⟩) hS0.out ?_
  case y4 =>
    intro V hV
    have hc : V.cell? ⟨b, i, none⟩ = some (.string x) := ((show Below A.heap.size A V from hV).cell (p := ⟨b, i, none⟩) HL.out.1).trans k1
    go_simp
  simp only [Act.put, List.setIfInBounds_toArray, List.set_cons_zero, List.set_cons_succ]
  refine wpAnyH_take (i := 4) (oi := { dst := some 59, op := Op.fieldAddr 34 (Operand.tmp 11) 2, type := 0, pos := "law.go:142", after := #[], guard := none }) (v := .pointer (some ⟨g, 2, none⟩)) rfl (by kernel_rfl) (by kernel_rfl) (by kernel_rfl) (fun _ _ _ h => h.elim) (Or.inl ⟨by rfl, ?y5⟩) hS0.out ?_
  case y5 =>
    intro V hV
    go_simp
  simp only [Act.put, List.setIfInBounds_toArray, List.set_cons_zero, List.set_cons_succ]
  refine wpAnyH_take (i := 5) (oi := { dst := some 60, op := Op.load 9 (Operand.tmp 59), type := 9, pos := "law.go:142", after := #[{ on := 4, ground := Ground.data }], guard := none }) (v := .string u) rfl (by kernel_rfl) (by kernel_rfl) (by kernel_rfl) (fun _ _ _ h => h.elim) (Or.inl ⟨by rfl, ?y6⟩) hS0.out ?_
  case y6 =>
    intro V hV
    have hc : V.cell? ⟨g, 2, none⟩ = some (.string u) := ((show Below A.heap.size A V from hV).cell (p := ⟨g, 2, none⟩) HL.out.2).trans k2
    go_simp
  simp only [Act.put, List.setIfInBounds_toArray, List.set_cons_zero, List.set_cons_succ]
  refine wpAnyH_take (i := 6) (oi := { dst := some 61, op := Op.binOp BinOp.eql 9 (Operand.tmp 58) (Operand.tmp 60) 9, type := 4, pos := "law.go:142", after := #[{ on := 3, ground := Ground.data }, { on := 5, ground := Ground.data }], guard := none }) (v := .bool r) rfl (by kernel_rfl) (by kernel_rfl) (by kernel_rfl) (fun _ _ _ h => h.elim) (Or.inl ⟨by rfl, ?y7⟩) hS0.out ?_
  case y7 =>
    intro V hV
    have hcmp := hr
    go_simp
  simp only [Act.put, List.setIfInBounds_toArray, List.set_cons_zero, List.set_cons_succ]
  refine wpAnyH_done (by kernel_rfl) ?_ _
  exact hQ V0 hS0.out
#print axioms vot16
theorem R24.drew {B : Nat} {A W : World} {v8 v9 a8 a9 : Value} {c8 c9 : List Value} {ps : List (Nat × Value)} (h : R24 B A W v8 v9 a8 a9 c8 c9 ps) : R24 B A W.drew v8 v9 a8 a9 c8 c9 ps := ⟨h.r8, h.r9, h.apart, h.p8, h.p9, h.keep.drew, h.base, h.ready⟩
set_option maxRecDepth 100000 in
set_option maxHeartbeats 4000000 in
theorem vot24 {Q : Exit → Act → World → Prop} {x0 x1 x2 x3 x4 x5 x6 x7 x10 x12 x13 x14 x15 x16 x17 x18 x19 x20 x21 x22 x23 x24 x25 x26 x27 x28 x29 x30 x31 x32 x33 x34 x35 x36 x37 x38 x39 x40 x41 x42 x43 x44 x45 x46 x47 x48 x49 x50 x51 x52 x53 x54 x55 x56 x57 x58 x59 x60 x61 x62 x63 x64 x65 x66 x67 x68 x69 x70 x71 x72 x73 x74 x75 x76 x77 x78 x79 x80 x81 x82 x83 x84 x85 x86 x87 x88 x89 x90 x91 x92 x93 x94 x95 x96 x97 x98 x99 x100 x101 x102 x103 x104 x105 x106 x107 x108 x109 x110 x111 x112 x113 x114 x115 x116 x117 x118 x119 x120 x121 x122 x123 x124 x125 x126 x127 x128 x129 x130 x131 x132 x133 x134 x135 x136 x137 x138 x139 x140 x141 x142 x143 x144 x145 x146 x147 x148 x149 x150 x151 x152 x153 x154 x155 x156 x157 x158 x159 x160 x161 x162 x163 x164 x165 x166 x167 x168 x169 x170 x171 x172 x173 x174 x175 x176 x177 x178 x179 : Value} {ds : List Deferred} {A : World} {B g : Nat} {u : BA} {y : Bool} {v8 v9 : Value} {c8 c9 : List Value}
    (HL : Hid (g < A.heap.size ∧ ¬ SV v8 v9 g)) (k2 : A.cell? ⟨g, 2, none⟩ = some (.string u)) (k36 : A.cell? ⟨g, 36, none⟩ = some (.bool y)) (HR : Hid (R24 B A A v8 v9 v8 v9 c8 c9 [])) (HN : Hid (c8.length + 1 ≤ 1000000 ∧ c9.length + 1 ≤ 1000000))
    (hQ : ∀ V1 q1 q2 a8 a9, R24 B A V1 v8 v9 a8 a9 (c8 ++ [.string u]) (c9 ++ [.bool y]) [] → Q .normal { tmps := #[x0, x1, x2, x3, x4, x5, x6, x7, a8, a9, x10, .pointer (some ⟨g, 0, none⟩), x12, x13, x14, x15, x16, x17, x18, x19, x20, x21, x22, x23, x24, x25, x26, x27, x28, x29, x30, x31, x32, x33, x34, x35, x36, x37, x38, x39, x40, x41, x42, x43, x44, x45, x46, x47, x48, x49, x50, x51, x52, x53, x54, x55, x56, x57, x58, x59, x60, x61, x62, x63, x64, x65, x66, x67, x68, x69, x70, x71, x72, x73, x74, x75, x76, x77, x78, x79, x80, x81, x82, x83, x84, x85, x86, x87, x88, v8, .pointer (some ⟨g, 2, none⟩), .string u, .slice (some ⟨q1, 0, none⟩) 1 1, a8, v9, .pointer (some ⟨g, 36, none⟩), .bool y, .slice (some ⟨q2, 0, none⟩) 1 1, a9, x99, x100, x101, x102, x103, x104, x105, x106, x107, x108, x109, x110, x111, x112, x113, x114, x115, x116, x117, x118, x119, x120, x121, x122, x123, x124, x125, x126, x127, x128, x129, x130, x131, x132, x133, x134, x135, x136, x137, x138, x139, x140, x141, x142, x143, x144, x145, x146, x147, x148, x149, x150, x151, x152, x153, x154, x155, x156, x157, x158, x159, x160, x161, x162, x163, x164, x165, x166, x167, x168, x169, x170, x171, x172, x173, x174, x175, x176, x177, x178, x179], defers := ds } V1) :
    (Code.region 24 #[{ dst := some 89, op := Op.move (Operand.tmp 8), type := 40, pos := "law.go:152", after := #[], guard := none }, { dst := some 90, op := Op.fieldAddr 34 (Operand.tmp 11) 2, type := 0, pos := "law.go:152", after := #[], guard := none }, { dst := some 91, op := Op.load 9 (Operand.tmp 90), type := 9, pos := "law.go:152", after := #[{ on := 1, ground := Ground.data }], guard := none }, { dst := some 92, op := Op.buildSlice 40 1 #[(0, Operand.tmp 91)], type := 40, pos := "law.go:152", after := #[{ on := 2, ground := Ground.data }], guard := none }, { dst := some 93, op := Op.call { callee := Callee.builtin Builtin.append, args := #[Operand.tmp 89, Operand.tmp 92], argTypes := #[40, 40] }, type := 40, pos := "law.go:152", after := #[{ on := 0, ground := Ground.data }, { on := 3, ground := Ground.data }], guard := none }, { dst := some 94, op := Op.move (Operand.tmp 9), type := 59, pos := "law.go:152", after := #[], guard := none }, { dst := some 95, op := Op.fieldAddr 34 (Operand.tmp 11) 5, type := 0, pos := "law.go:152", after := #[], guard := none }, { dst := some 96, op := Op.load 4 (Operand.tmp 95), type := 4, pos := "law.go:152", after := #[{ on := 6, ground := Ground.data }], guard := none }, { dst := some 97, op := Op.buildSlice 59 1 #[(0, Operand.tmp 96)], type := 59, pos := "law.go:152", after := #[{ on := 7, ground := Ground.data }], guard := none }, { dst := some 98, op := Op.call { callee := Callee.builtin Builtin.append, args := #[Operand.tmp 94, Operand.tmp 97], argTypes := #[59, 59] }, type := 59, pos := "law.go:152", after := #[{ on := 5, ground := Ground.data }, { on := 8, ground := Ground.data }, { on := 4, ground := Ground.chain }], guard := none }, { dst := some 8, op := Op.assign (Operand.tmp 93), type := 40, pos := "law.go:152", after := #[{ on := 4, ground := Ground.data }, { on := 9, ground := Ground.chain }, { on := 0, ground := Ground.phase }, { on := 1, ground := Ground.phase }, { on := 2, ground := Ground.phase }, { on := 3, ground := Ground.phase }, { on := 4, ground := Ground.phase }, { on := 5, ground := Ground.textOnly Departure.lateStores }, { on := 6, ground := Ground.textOnly Departure.lateStores }, { on := 7, ground := Ground.textOnly Departure.lateStores }, { on := 8, ground := Ground.textOnly Departure.lateStores }, { on := 9, ground := Ground.textOnly Departure.lateStoresUnsure }], guard := none }, { dst := some 9, op := Op.assign (Operand.tmp 98), type := 59, pos := "law.go:152", after := #[{ on := 9, ground := Ground.data }, { on := 10, ground := Ground.chain }, { on := 0, ground := Ground.phase }, { on := 1, ground := Ground.phase }, { on := 2, ground := Ground.phase }, { on := 3, ground := Ground.phase }, { on := 4, ground := Ground.phase }, { on := 5, ground := Ground.phase }, { on := 6, ground := Ground.phase }, { on := 7, ground := Ground.phase }, { on := 8, ground := Ground.phase }, { on := 9, ground := Ground.phase }, { on := 10, ground := Ground.phase }], guard := none }] true).wp Try.prog Q { tmps := #[x0, x1, x2, x3, x4, x5, x6, x7, v8, v9, x10, .pointer (some ⟨g, 0, none⟩), x12, x13, x14, x15, x16, x17, x18, x19, x20, x21, x22, x23, x24, x25, x26, x27, x28, x29, x30, x31, x32, x33, x34, x35, x36, x37, x38, x39, x40, x41, x42, x43, x44, x45, x46, x47, x48, x49, x50, x51, x52, x53, x54, x55, x56, x57, x58, x59, x60, x61, x62, x63, x64, x65, x66, x67, x68, x69, x70, x71, x72, x73, x74, x75, x76, x77, x78, x79, x80, x81, x82, x83, x84, x85, x86, x87, x88, x89, x90, x91, x92, x93, x94, x95, x96, x97, x98, x99, x100, x101, x102, x103, x104, x105, x106, x107, x108, x109, x110, x111, x112, x113, x114, x115, x116, x117, x118, x119, x120, x121, x122, x123, x124, x125, x126, x127, x128, x129, x130, x131, x132, x133, x134, x135, x136, x137, x138, x139, x140, x141, x142, x143, x144, x145, x146, x147, x148, x149, x150, x151, x152, x153, x154, x155, x156, x157, x158, x159, x160, x161, x162, x163, x164, x165, x166, x167, x168, x169, x170, x171, x172, x173, x174, x175, x176, x177, x178, x179], defers := ds } A := by
  refine Code.wp_mono (Q := fun x a' w' => match x with | .normal => Q .normal a' w' | _ => False) (by intro x a' w' h; cases x <;> first | exact h | exact h.elim) ?_
  refine wp_region_held (S := fun V => Keep (SV v8 v9) A V) (by kernel_rfl) ?_
  have hS0 : Hid (Keep (SV v8 v9) A A.drew) := (Keep.refl _ A).drew
  change wpAnyH Try.prog .any _ _ (fun V => Keep (SV v8 v9) A V) 12 (Array.replicate 12 false) _ A.drew
  obtain ⟨V0, hV0⟩ : ∃ V0, A.drew = V0 := ⟨_, rfl⟩
  rw [hV0]
  rw [hV0] at hS0
  have R0 : Hid (R24 B A V0 v8 v9 v8 v9 c8 c9 []) := by rw [← hV0]; exact HR.out.drew
  clear hV0
  refine wpAnyH_take (i := 0) (oi := { dst := some 89, op := Op.move (Operand.tmp 8), type := 40, pos := "law.go:152", after := #[], guard := none }) (v := v8) rfl (by kernel_rfl) (by kernel_rfl) (by kernel_rfl) (fun _ _ _ h => h.elim) (Or.inl ⟨by rfl, ?y1⟩) hS0.out ?_
  case y1 =>
    intro V hV
    go_simp
  simp only [Act.put, List.setIfInBounds_toArray, List.set_cons_zero, List.set_cons_succ]
  refine wpAnyH_take (i := 1) (oi := { dst := some 90, op := Op.fieldAddr 34 (Operand.tmp 11) 2, type := 0, pos := "law.go:152", after := #[], guard := none }) (v := .pointer (some ⟨g, 2, none⟩)) rfl (by kernel_rfl) (by kernel_rfl) (by kernel_rfl) (fun _ _ _ h => h.elim) (Or.inl ⟨by rfl, ?y2⟩) hS0.out ?_
  case y2 =>
    intro V hV
    go_simp
  simp only [Act.put, List.setIfInBounds_toArray, List.set_cons_zero, List.set_cons_succ]
  refine wpAnyH_take (i := 2) (oi := { dst := some 91, op := Op.load 9 (Operand.tmp 90), type := 9, pos := "law.go:152", after := #[{ on := 1, ground := Ground.data }], guard := none }) (v := .string u) rfl (by kernel_rfl) (by kernel_rfl) (by kernel_rfl) (fun _ _ _ h => h.elim) (Or.inl ⟨by rfl, ?y3⟩) hS0.out ?_
  case y3 =>
    intro V hV
    have hc : V.cell? ⟨g, 2, none⟩ = some (.string u) := (World.cell?_of_block (a := ⟨g, 2, none⟩) ((show Keep (SV v8 v9) A V from hV).block g HL.out.1 HL.out.2)).trans k2
    go_simp
  simp only [Act.put, List.setIfInBounds_toArray, List.set_cons_zero, List.set_cons_succ]
  refine wpAnyH_take (i := 5) (oi := { dst := some 94, op := Op.move (Operand.tmp 9), type := 59, pos := "law.go:152", after := #[], guard := none }) (v := v9) rfl (by kernel_rfl) (by kernel_rfl) (by kernel_rfl) (fun _ _ _ h => h.elim) (Or.inl ⟨by rfl, ?y4⟩) hS0.out ?_
  case y4 =>
    intro V hV
    go_simp
  simp only [Act.put, List.setIfInBounds_toArray, List.set_cons_zero, List.set_cons_succ]
  refine wpAnyH_take (i := 6) (oi := { dst := some 95, op := Op.fieldAddr 34 (Operand.tmp 11) 5, type := 0, pos := "law.go:152", after := #[], guard := none }) (v := .pointer (some ⟨g, 36, none⟩)) rfl (by kernel_rfl) (by kernel_rfl) (by kernel_rfl) (fun _ _ _ h => h.elim) (Or.inl ⟨by rfl, ?y5⟩) hS0.out ?_
  case y5 =>
    intro V hV
    go_simp
  simp only [Act.put, List.setIfInBounds_toArray, List.set_cons_zero, List.set_cons_succ]
  refine wpAnyH_take (i := 7) (oi := { dst := some 96, op := Op.load 4 (Operand.tmp 95), type := 4, pos := "law.go:152", after := #[{ on := 6, ground := Ground.data }], guard := none }) (v := .bool y) rfl (by kernel_rfl) (by kernel_rfl) (by kernel_rfl) (fun _ _ _ h => h.elim) (Or.inl ⟨by rfl, ?y6⟩) hS0.out ?_
  case y6 =>
    intro V hV
    have hc : V.cell? ⟨g, 36, none⟩ = some (.bool y) := (World.cell?_of_block (a := ⟨g, 36, none⟩) ((show Keep (SV v8 v9) A V from hV).block g HL.out.1 HL.out.2)).trans k36
    go_simp
  simp only [Act.put, List.setIfInBounds_toArray, List.set_cons_zero, List.set_cons_succ]
  refine wpAnyH_ready (rs := [3, 8]) (by kernel_rfl) (by simp) (AllReadyH.cons (i := 3) (o := { dst := some 92, op := Op.buildSlice 40 1 #[(0, Operand.tmp 91)], type := 40, pos := "law.go:152", after := #[{ on := 2, ground := Ground.data }], guard := none }) rfl ?_ (AllReadyH.cons (i := 8) (o := { dst := some 97, op := Op.buildSlice 59 1 #[(0, Operand.tmp 96)], type := 59, pos := "law.go:152", after := #[{ on := 7, ground := Ground.data }], guard := none }) rfl ?_ AllReadyH.nil))
  · intro K1 hK1
    refine step_bs (by rfl) 40 (.tmp 91) _ rfl rfl (run_bs40 _ _) ?_
    obtain ⟨V1, hv1⟩ : ∃ V, V0.alloc (.cells #[.string u] 9) = V := ⟨_, rfl⟩
    obtain ⟨q1, hq1⟩ : ∃ m, V0.heap.size = m := ⟨_, rfl⟩
    have R1 : Hid (R24 B A V1 v8 v9 v8 v9 c8 c9 [(q1, .string u)]) := by rw [← hv1, ← hq1]; exact R0.out.bs _ _
    rw [hv1, hq1]
    clear hv1 hq1
    refine hK1.out _ _ R1.out.keep ?_
    clear hK1
    intro _
    try simp only [Act.put, List.setIfInBounds_toArray, List.set_cons_zero, List.set_cons_succ]
    refine wpAnyH_ready (rs := [4, 8]) (by kernel_rfl) (by simp) (AllReadyH.cons (i := 4) (o := { dst := some 93, op := Op.call { callee := Callee.builtin Builtin.append, args := #[Operand.tmp 89, Operand.tmp 92], argTypes := #[40, 40] }, type := 40, pos := "law.go:152", after := #[{ on := 0, ground := Ground.data }, { on := 3, ground := Ground.data }], guard := none }) rfl ?_ (AllReadyH.cons (i := 8) (o := { dst := some 97, op := Op.buildSlice 59 1 #[(0, Operand.tmp 96)], type := 59, pos := "law.go:152", after := #[{ on := 7, ground := Ground.data }], guard := none }) rfl ?_ AllReadyH.nil))
    · intro K1 hK1
      obtain ⟨a2, V2, hr2, hR2⟩ := R1.out.app8 (q := q1) (x := .string u) (by simp) rfl HN.out.1 1 40
      refine step_ap (by rfl) 40 (.tmp 89) (.tmp 92) rfl _ _ rfl rfl hr2 ?_
      have R2 : Hid (R24 B A V2 v8 v9 a2 v9 (c8 ++ [.string u]) c9 [(q1, .string u)]) := hR2
      clear hr2 hR2
      refine hK1.out _ _ R2.out.keep ?_
      clear hK1
      intro _
      try simp only [Act.put, List.setIfInBounds_toArray, List.set_cons_zero, List.set_cons_succ]
      refine wpAnyH_ready (rs := [8]) (by kernel_rfl) (by simp) (AllReadyH.cons (i := 8) (o := { dst := some 97, op := Op.buildSlice 59 1 #[(0, Operand.tmp 96)], type := 59, pos := "law.go:152", after := #[{ on := 7, ground := Ground.data }], guard := none }) rfl ?_ AllReadyH.nil)
      · intro K1 hK1
        refine step_bs (by rfl) 59 (.tmp 96) _ rfl rfl (run_bs59 _ _) ?_
        obtain ⟨V3, hv3⟩ : ∃ V, V2.alloc (.cells #[.bool y] 4) = V := ⟨_, rfl⟩
        obtain ⟨q3, hq3⟩ : ∃ m, V2.heap.size = m := ⟨_, rfl⟩
        have R3 : Hid (R24 B A V3 v8 v9 a2 v9 (c8 ++ [.string u]) c9 [(q3, .bool y), (q1, .string u)]) := by rw [← hv3, ← hq3]; exact R2.out.bs _ _
        rw [hv3, hq3]
        clear hv3 hq3
        refine hK1.out _ _ R3.out.keep ?_
        clear hK1
        intro _
        try simp only [Act.put, List.setIfInBounds_toArray, List.set_cons_zero, List.set_cons_succ]
        refine wpAnyH_ready (rs := [9]) (by kernel_rfl) (by simp) (AllReadyH.cons (i := 9) (o := { dst := some 98, op := Op.call { callee := Callee.builtin Builtin.append, args := #[Operand.tmp 94, Operand.tmp 97], argTypes := #[59, 59] }, type := 59, pos := "law.go:152", after := #[{ on := 5, ground := Ground.data }, { on := 8, ground := Ground.data }, { on := 4, ground := Ground.chain }], guard := none }) rfl ?_ AllReadyH.nil)
        · intro K1 hK1
          obtain ⟨a4, V4, hr4, hR4⟩ := R3.out.app9 (q := q3) (x := .bool y) (by simp) rfl HN.out.2 1 59
          refine step_ap (by rfl) 59 (.tmp 94) (.tmp 97) rfl _ _ rfl rfl hr4 ?_
          have R4 : Hid (R24 B A V4 v8 v9 a2 a4 (c8 ++ [.string u]) (c9 ++ [.bool y]) [(q3, .bool y), (q1, .string u)]) := hR4
          clear hr4 hR4
          refine hK1.out _ _ R4.out.keep ?_
          clear hK1
          intro _
          try simp only [Act.put, List.setIfInBounds_toArray, List.set_cons_zero, List.set_cons_succ]
          refine wpAnyH_take (i := 10) (oi := { dst := some 8, op := Op.assign (Operand.tmp 93), type := 40, pos := "law.go:152", after := #[{ on := 4, ground := Ground.data }, { on := 9, ground := Ground.chain }, { on := 0, ground := Ground.phase }, { on := 1, ground := Ground.phase }, { on := 2, ground := Ground.phase }, { on := 3, ground := Ground.phase }, { on := 4, ground := Ground.phase }, { on := 5, ground := Ground.textOnly Departure.lateStores }, { on := 6, ground := Ground.textOnly Departure.lateStores }, { on := 7, ground := Ground.textOnly Departure.lateStores }, { on := 8, ground := Ground.textOnly Departure.lateStores }, { on := 9, ground := Ground.textOnly Departure.lateStoresUnsure }], guard := none }) (v := a2) rfl (by kernel_rfl) (by kernel_rfl) (by kernel_rfl) (fun _ _ _ h => h.elim) (Or.inl ⟨by rfl, ?y7⟩) R4.out.keep ?_
          case y7 =>
            intro V hV
            go_simp
          simp only [Act.put, List.setIfInBounds_toArray, List.set_cons_zero, List.set_cons_succ]
          refine wpAnyH_take (i := 11) (oi := { dst := some 9, op := Op.assign (Operand.tmp 98), type := 59, pos := "law.go:152", after := #[{ on := 9, ground := Ground.data }, { on := 10, ground := Ground.chain }, { on := 0, ground := Ground.phase }, { on := 1, ground := Ground.phase }, { on := 2, ground := Ground.phase }, { on := 3, ground := Ground.phase }, { on := 4, ground := Ground.phase }, { on := 5, ground := Ground.phase }, { on := 6, ground := Ground.phase }, { on := 7, ground := Ground.phase }, { on := 8, ground := Ground.phase }, { on := 9, ground := Ground.phase }, { on := 10, ground := Ground.phase }], guard := none }) (v := a4) rfl (by kernel_rfl) (by kernel_rfl) (by kernel_rfl) (fun _ _ _ h => h.elim) (Or.inl ⟨by rfl, ?y8⟩) R4.out.keep ?_
          case y8 =>
            intro V hV
            go_simp
          simp only [Act.put, List.setIfInBounds_toArray, List.set_cons_zero, List.set_cons_succ]
          refine wpAnyH_done (by kernel_rfl) ?_ _
          exact hQ V4 _ _ _ _ R4.out.drop
    · intro K1 hK1
      refine step_bs (by rfl) 59 (.tmp 96) _ rfl rfl (run_bs59 _ _) ?_
      obtain ⟨V2, hv2⟩ : ∃ V, V1.alloc (.cells #[.bool y] 4) = V := ⟨_, rfl⟩
      obtain ⟨q2, hq2⟩ : ∃ m, V1.heap.size = m := ⟨_, rfl⟩
      have R2 : Hid (R24 B A V2 v8 v9 v8 v9 c8 c9 [(q2, .bool y), (q1, .string u)]) := by rw [← hv2, ← hq2]; exact R1.out.bs _ _
      rw [hv2, hq2]
      clear hv2 hq2
      refine hK1.out _ _ R2.out.keep ?_
      clear hK1
      intro _
      try simp only [Act.put, List.setIfInBounds_toArray, List.set_cons_zero, List.set_cons_succ]
      refine wpAnyH_ready (rs := [4]) (by kernel_rfl) (by simp) (AllReadyH.cons (i := 4) (o := { dst := some 93, op := Op.call { callee := Callee.builtin Builtin.append, args := #[Operand.tmp 89, Operand.tmp 92], argTypes := #[40, 40] }, type := 40, pos := "law.go:152", after := #[{ on := 0, ground := Ground.data }, { on := 3, ground := Ground.data }], guard := none }) rfl ?_ AllReadyH.nil)
      · intro K1 hK1
        obtain ⟨a3, V3, hr3, hR3⟩ := R2.out.app8 (q := q1) (x := .string u) (by simp) rfl HN.out.1 1 40
        refine step_ap (by rfl) 40 (.tmp 89) (.tmp 92) rfl _ _ rfl rfl hr3 ?_
        have R3 : Hid (R24 B A V3 v8 v9 a3 v9 (c8 ++ [.string u]) c9 [(q2, .bool y), (q1, .string u)]) := hR3
        clear hr3 hR3
        refine hK1.out _ _ R3.out.keep ?_
        clear hK1
        intro _
        try simp only [Act.put, List.setIfInBounds_toArray, List.set_cons_zero, List.set_cons_succ]
        refine wpAnyH_ready (rs := [9]) (by kernel_rfl) (by simp) (AllReadyH.cons (i := 9) (o := { dst := some 98, op := Op.call { callee := Callee.builtin Builtin.append, args := #[Operand.tmp 94, Operand.tmp 97], argTypes := #[59, 59] }, type := 59, pos := "law.go:152", after := #[{ on := 5, ground := Ground.data }, { on := 8, ground := Ground.data }, { on := 4, ground := Ground.chain }], guard := none }) rfl ?_ AllReadyH.nil)
        · intro K1 hK1
          obtain ⟨a4, V4, hr4, hR4⟩ := R3.out.app9 (q := q2) (x := .bool y) (by simp) rfl HN.out.2 1 59
          refine step_ap (by rfl) 59 (.tmp 94) (.tmp 97) rfl _ _ rfl rfl hr4 ?_
          have R4 : Hid (R24 B A V4 v8 v9 a3 a4 (c8 ++ [.string u]) (c9 ++ [.bool y]) [(q2, .bool y), (q1, .string u)]) := hR4
          clear hr4 hR4
          refine hK1.out _ _ R4.out.keep ?_
          clear hK1
          intro _
          try simp only [Act.put, List.setIfInBounds_toArray, List.set_cons_zero, List.set_cons_succ]
          refine wpAnyH_take (i := 10) (oi := { dst := some 8, op := Op.assign (Operand.tmp 93), type := 40, pos := "law.go:152", after := #[{ on := 4, ground := Ground.data }, { on := 9, ground := Ground.chain }, { on := 0, ground := Ground.phase }, { on := 1, ground := Ground.phase }, { on := 2, ground := Ground.phase }, { on := 3, ground := Ground.phase }, { on := 4, ground := Ground.phase }, { on := 5, ground := Ground.textOnly Departure.lateStores }, { on := 6, ground := Ground.textOnly Departure.lateStores }, { on := 7, ground := Ground.textOnly Departure.lateStores }, { on := 8, ground := Ground.textOnly Departure.lateStores }, { on := 9, ground := Ground.textOnly Departure.lateStoresUnsure }], guard := none }) (v := a3) rfl (by kernel_rfl) (by kernel_rfl) (by kernel_rfl) (fun _ _ _ h => h.elim) (Or.inl ⟨by rfl, ?y9⟩) R4.out.keep ?_
          case y9 =>
            intro V hV
            go_simp
          simp only [Act.put, List.setIfInBounds_toArray, List.set_cons_zero, List.set_cons_succ]
          refine wpAnyH_take (i := 11) (oi := { dst := some 9, op := Op.assign (Operand.tmp 98), type := 59, pos := "law.go:152", after := #[{ on := 9, ground := Ground.data }, { on := 10, ground := Ground.chain }, { on := 0, ground := Ground.phase }, { on := 1, ground := Ground.phase }, { on := 2, ground := Ground.phase }, { on := 3, ground := Ground.phase }, { on := 4, ground := Ground.phase }, { on := 5, ground := Ground.phase }, { on := 6, ground := Ground.phase }, { on := 7, ground := Ground.phase }, { on := 8, ground := Ground.phase }, { on := 9, ground := Ground.phase }, { on := 10, ground := Ground.phase }], guard := none }) (v := a4) rfl (by kernel_rfl) (by kernel_rfl) (by kernel_rfl) (fun _ _ _ h => h.elim) (Or.inl ⟨by rfl, ?y10⟩) R4.out.keep ?_
          case y10 =>
            intro V hV
            go_simp
          simp only [Act.put, List.setIfInBounds_toArray, List.set_cons_zero, List.set_cons_succ]
          refine wpAnyH_done (by kernel_rfl) ?_ _
          exact hQ V4 _ _ _ _ R4.out.drop
  · intro K1 hK1
    refine step_bs (by rfl) 59 (.tmp 96) _ rfl rfl (run_bs59 _ _) ?_
    obtain ⟨V1, hv1⟩ : ∃ V, V0.alloc (.cells #[.bool y] 4) = V := ⟨_, rfl⟩
    obtain ⟨q1, hq1⟩ : ∃ m, V0.heap.size = m := ⟨_, rfl⟩
    have R1 : Hid (R24 B A V1 v8 v9 v8 v9 c8 c9 [(q1, .bool y)]) := by rw [← hv1, ← hq1]; exact R0.out.bs _ _
    rw [hv1, hq1]
    clear hv1 hq1
    refine hK1.out _ _ R1.out.keep ?_
    clear hK1
    intro _
    try simp only [Act.put, List.setIfInBounds_toArray, List.set_cons_zero, List.set_cons_succ]
    refine wpAnyH_ready (rs := [3]) (by kernel_rfl) (by simp) (AllReadyH.cons (i := 3) (o := { dst := some 92, op := Op.buildSlice 40 1 #[(0, Operand.tmp 91)], type := 40, pos := "law.go:152", after := #[{ on := 2, ground := Ground.data }], guard := none }) rfl ?_ AllReadyH.nil)
    · intro K1 hK1
      refine step_bs (by rfl) 40 (.tmp 91) _ rfl rfl (run_bs40 _ _) ?_
      obtain ⟨V2, hv2⟩ : ∃ V, V1.alloc (.cells #[.string u] 9) = V := ⟨_, rfl⟩
      obtain ⟨q2, hq2⟩ : ∃ m, V1.heap.size = m := ⟨_, rfl⟩
      have R2 : Hid (R24 B A V2 v8 v9 v8 v9 c8 c9 [(q2, .string u), (q1, .bool y)]) := by rw [← hv2, ← hq2]; exact R1.out.bs _ _
      rw [hv2, hq2]
      clear hv2 hq2
      refine hK1.out _ _ R2.out.keep ?_
      clear hK1
      intro _
      try simp only [Act.put, List.setIfInBounds_toArray, List.set_cons_zero, List.set_cons_succ]
      refine wpAnyH_ready (rs := [4]) (by kernel_rfl) (by simp) (AllReadyH.cons (i := 4) (o := { dst := some 93, op := Op.call { callee := Callee.builtin Builtin.append, args := #[Operand.tmp 89, Operand.tmp 92], argTypes := #[40, 40] }, type := 40, pos := "law.go:152", after := #[{ on := 0, ground := Ground.data }, { on := 3, ground := Ground.data }], guard := none }) rfl ?_ AllReadyH.nil)
      · intro K1 hK1
        obtain ⟨a3, V3, hr3, hR3⟩ := R2.out.app8 (q := q2) (x := .string u) (by simp) rfl HN.out.1 1 40
        refine step_ap (by rfl) 40 (.tmp 89) (.tmp 92) rfl _ _ rfl rfl hr3 ?_
        have R3 : Hid (R24 B A V3 v8 v9 a3 v9 (c8 ++ [.string u]) c9 [(q2, .string u), (q1, .bool y)]) := hR3
        clear hr3 hR3
        refine hK1.out _ _ R3.out.keep ?_
        clear hK1
        intro _
        try simp only [Act.put, List.setIfInBounds_toArray, List.set_cons_zero, List.set_cons_succ]
        refine wpAnyH_ready (rs := [9]) (by kernel_rfl) (by simp) (AllReadyH.cons (i := 9) (o := { dst := some 98, op := Op.call { callee := Callee.builtin Builtin.append, args := #[Operand.tmp 94, Operand.tmp 97], argTypes := #[59, 59] }, type := 59, pos := "law.go:152", after := #[{ on := 5, ground := Ground.data }, { on := 8, ground := Ground.data }, { on := 4, ground := Ground.chain }], guard := none }) rfl ?_ AllReadyH.nil)
        · intro K1 hK1
          obtain ⟨a4, V4, hr4, hR4⟩ := R3.out.app9 (q := q1) (x := .bool y) (by simp) rfl HN.out.2 1 59
          refine step_ap (by rfl) 59 (.tmp 94) (.tmp 97) rfl _ _ rfl rfl hr4 ?_
          have R4 : Hid (R24 B A V4 v8 v9 a3 a4 (c8 ++ [.string u]) (c9 ++ [.bool y]) [(q2, .string u), (q1, .bool y)]) := hR4
          clear hr4 hR4
          refine hK1.out _ _ R4.out.keep ?_
          clear hK1
          intro _
          try simp only [Act.put, List.setIfInBounds_toArray, List.set_cons_zero, List.set_cons_succ]
          refine wpAnyH_take (i := 10) (oi := { dst := some 8, op := Op.assign (Operand.tmp 93), type := 40, pos := "law.go:152", after := #[{ on := 4, ground := Ground.data }, { on := 9, ground := Ground.chain }, { on := 0, ground := Ground.phase }, { on := 1, ground := Ground.phase }, { on := 2, ground := Ground.phase }, { on := 3, ground := Ground.phase }, { on := 4, ground := Ground.phase }, { on := 5, ground := Ground.textOnly Departure.lateStores }, { on := 6, ground := Ground.textOnly Departure.lateStores }, { on := 7, ground := Ground.textOnly Departure.lateStores }, { on := 8, ground := Ground.textOnly Departure.lateStores }, { on := 9, ground := Ground.textOnly Departure.lateStoresUnsure }], guard := none }) (v := a3) rfl (by kernel_rfl) (by kernel_rfl) (by kernel_rfl) (fun _ _ _ h => h.elim) (Or.inl ⟨by rfl, ?y11⟩) R4.out.keep ?_
          case y11 =>
            intro V hV
            go_simp
          simp only [Act.put, List.setIfInBounds_toArray, List.set_cons_zero, List.set_cons_succ]
          refine wpAnyH_take (i := 11) (oi := { dst := some 9, op := Op.assign (Operand.tmp 98), type := 59, pos := "law.go:152", after := #[{ on := 9, ground := Ground.data }, { on := 10, ground := Ground.chain }, { on := 0, ground := Ground.phase }, { on := 1, ground := Ground.phase }, { on := 2, ground := Ground.phase }, { on := 3, ground := Ground.phase }, { on := 4, ground := Ground.phase }, { on := 5, ground := Ground.phase }, { on := 6, ground := Ground.phase }, { on := 7, ground := Ground.phase }, { on := 8, ground := Ground.phase }, { on := 9, ground := Ground.phase }, { on := 10, ground := Ground.phase }], guard := none }) (v := a4) rfl (by kernel_rfl) (by kernel_rfl) (by kernel_rfl) (fun _ _ _ h => h.elim) (Or.inl ⟨by rfl, ?y12⟩) R4.out.keep ?_
          case y12 =>
            intro V hV
            go_simp
          simp only [Act.put, List.setIfInBounds_toArray, List.set_cons_zero, List.set_cons_succ]
          refine wpAnyH_done (by kernel_rfl) ?_ _
          exact hQ V4 _ _ _ _ R4.out.drop
#print axioms vot24
theorem off_is {n i c off : Nat} (h : off = if c = i + 1 then 0 else i + 1) (hn : n ≤ c) : 0 < n - (i + 1) → off = i + 1 := fun hp => by rw [h, if_neg (by omega)]
/-- what region 32 leaves -/
def Cut32 (B : Nat) (A V : World) (g8 g9 i : Nat) (c8 c9 : List Value) (a8 a9 : Value) : Prop :=
  OT B V 9 a8 (c8.eraseIdx i) ∧ OT B V 4 a9 (c9.eraseIdx i) ∧ (∀ k, a8.ownBlock = some k → a9.ownBlock = some k → False) ∧ (∀ k, a8.ownBlock = some k → k = g8 ∨ A.heap.size ≤ k) ∧ (∀ k, a9.ownBlock = some k → k = g9 ∨ A.heap.size ≤ k) ∧ Below A.heap.size A V
theorem cut32_of {B : Nat} {A W V : World} {g8 g9 i : Nat} {c8 c9 : List Value} {a8 a9 : Value} (h1 : OT B V 9 a8 (c8.eraseIdx i)) (h2 : OT B V 4 a9 (c9.eraseIdx i)) (h3 : a8.ownBlock = some g8 ∨ ∃ k, a8.ownBlock = some k ∧ A.heap.size ≤ k ∧ k < W.heap.size) (h4 : a9.ownBlock = some g9 ∨ a9.ownBlock = some W.heap.size) (hb : Below A.heap.size A V) (hw : A.heap.size ≤ W.heap.size) (hg : g8 < A.heap.size ∧ g9 < A.heap.size ∧ g8 ≠ g9) : Cut32 B A V g8 g9 i c8 c9 a8 a9 := by
  refine ⟨h1, h2, ?_, ?_, ?_, hb⟩
  · intro k e8 e9
    rcases h3 with h3 | ⟨k', h3, h5, h6⟩ <;> rcases h4 with h4 | h4 <;> rw [e8] at h3 <;> rw [e9] at h4 <;> cases h3 <;> cases h4 <;> omega
  · intro k e8
    rcases h3 with h3 | ⟨k', h3, h5, h6⟩ <;> rw [e8] at h3 <;> cases h3
    · exact .inl rfl
    · exact .inr h5
  · intro k e9
    rcases h4 with h4 | h4 <;> rw [e9] at h4 <;> cases h4
    · exact .inl rfl
    · exact .inr hw
set_option maxRecDepth 100000 in
set_option maxHeartbeats 4000000 in
theorem vot32 {Q : Exit → Act → World → Prop} {x0 x1 x2 x3 x4 x5 x6 x7 x10 x11 x13 x14 x15 x16 x17 x18 x19 x20 x21 x22 x23 x24 x25 x26 x27 x28 x29 x30 x31 x32 x33 x34 x35 x36 x37 x38 x39 x40 x41 x42 x43 x44 x45 x46 x47 x48 x49 x50 x51 x52 x53 x54 x55 x56 x57 x58 x59 x60 x61 x62 x63 x64 x65 x66 x67 x68 x69 x70 x71 x72 x73 x74 x75 x76 x77 x78 x79 x80 x81 x82 x83 x84 x85 x86 x87 x88 x89 x90 x91 x92 x93 x94 x95 x96 x97 x98 x99 x100 x101 x102 x103 x104 x105 x106 x107 x108 x109 x110 x111 x112 x113 x114 x115 x116 x117 x118 x119 x120 x121 x122 x123 x124 x125 x126 x127 x128 x129 x130 x131 x132 x133 x134 x135 x136 x137 x138 x139 x140 x141 x142 x143 x144 x145 x146 x147 x148 x149 x150 x151 x152 x153 x154 x155 x156 x157 x158 x159 x160 x161 x162 x163 x164 x165 x166 x167 x168 x169 x170 x171 x172 x173 x174 x175 x176 x177 x178 x179 : Value} {ds : List Deferred} {A : World} {B g8 g9 n k8 k9 i o8 o9 : Nat} {c8 c9 : List Value} {i40 i59 : TypeInfo}
    (HB : Hid (B ≤ A.heap.size)) (HI : Hid (i < n ∧ n ≤ 1000000 ∧ i ≤ k8 ∧ i ≤ k9)) (HK : Hid (n ≤ k8 ∧ n ≤ k9)) (HOF : Hid ((o8 = if k8 = i + 1 then 0 else i + 1) ∧ (o9 = if k9 = i + 1 then 0 else i + 1))) (HX : Hid (OT B A 9 (.slice (some ⟨g8, 0, none⟩) n k8) c8 ∧ OT B A 4 (.slice (some ⟨g9, 0, none⟩) n k9) c9)) (HG : Hid (g8 < A.heap.size ∧ g9 < A.heap.size ∧ g8 ≠ g9)) (HU40 : Hid (Try.prog.underlying 40 = some (.slice (Try.prog.elem 40)) ∧ Try.prog.info? (Try.prog.elem 40) = some i40 ∧ i40.size = 1)) (HU59 : Hid (Try.prog.underlying 59 = some (.slice (Try.prog.elem 59)) ∧ Try.prog.info? (Try.prog.elem 59) = some i59 ∧ i59.size = 1))
    (hQ : ∀ V1 a8 a9, Cut32 B A V1 g8 g9 i c8 c9 a8 a9 → Q .normal { tmps := #[x0, x1, x2, x3, x4, x5, x6, x7, a8, a9, x10, x11, iv (i : Int), x13, x14, x15, x16, x17, x18, x19, x20, x21, x22, x23, x24, x25, x26, x27, x28, x29, x30, x31, x32, x33, x34, x35, x36, x37, x38, x39, x40, x41, x42, x43, x44, x45, x46, x47, x48, x49, x50, x51, x52, x53, x54, x55, x56, x57, x58, x59, x60, x61, x62, x63, x64, x65, x66, x67, x68, x69, x70, x71, x72, x73, x74, x75, x76, x77, x78, x79, x80, x81, x82, x83, x84, x85, x86, x87, x88, x89, x90, x91, x92, x93, x94, x95, x96, x97, x98, x99, x100, x101, x102, x103, x104, x105, x106, x107, x108, x109, x110, x111, x112, x113, x114, x115, x116, x117, x118, x119, x120, .slice (some ⟨g8, 0, none⟩) n k8, iv (i : Int), iv (i : Int), .slice (some ⟨g8, 0, none⟩) i i, .slice (some ⟨g8, 0, none⟩) n k8, iv (i : Int), iv ((i : Int) + 1), .slice (some ⟨g8, o8, none⟩) (n - (i + 1)) (k8 - (i + 1)), a8, .slice (some ⟨g9, 0, none⟩) n k9, iv (i : Int), iv (i : Int), .slice (some ⟨g9, 0, none⟩) i i, .slice (some ⟨g9, 0, none⟩) n k9, iv (i : Int), iv ((i : Int) + 1), .slice (some ⟨g9, o9, none⟩) (n - (i + 1)) (k9 - (i + 1)), a9, x139, x140, x141, x142, x143, x144, x145, x146, x147, x148, x149, x150, x151, x152, x153, x154, x155, x156, x157, x158, x159, x160, x161, x162, x163, x164, x165, x166, x167, x168, x169, x170, x171, x172, x173, x174, x175, x176, x177, x178, x179], defers := ds } V1) :
    (Code.region 32 #[{ dst := some 121, op := Op.move (Operand.tmp 8), type := 40, pos := "law.go:162", after := #[], guard := none }, { dst := some 122, op := Op.move (Operand.tmp 12), type := 3, pos := "law.go:162", after := #[], guard := none }, { dst := some 123, op := Op.move (Operand.tmp 12), type := 3, pos := "law.go:162", after := #[], guard := none }, { dst := some 124, op := Op.slice 40 (Operand.tmp 121) none (some (Operand.tmp 122)) (some (Operand.tmp 123)), type := 40, pos := "law.go:162", after := #[{ on := 0, ground := Ground.data }, { on := 1, ground := Ground.data }, { on := 2, ground := Ground.data }], guard := none }, { dst := some 125, op := Op.move (Operand.tmp 8), type := 40, pos := "law.go:162", after := #[], guard := none }, { dst := some 126, op := Op.move (Operand.tmp 12), type := 3, pos := "law.go:162", after := #[], guard := none }, { dst := some 127, op := Op.binOp BinOp.add 3 (Operand.tmp 126) (Operand.const (Value.int IntKind.i64 1)) 3, type := 3, pos := "law.go:162", after := #[{ on := 5, ground := Ground.data }], guard := none }, { dst := some 128, op := Op.slice 40 (Operand.tmp 125) (some (Operand.tmp 127)) none none, type := 40, pos := "law.go:162", after := #[{ on := 4, ground := Ground.data }, { on := 6, ground := Ground.data }], guard := none }, { dst := some 129, op := Op.call { callee := Callee.builtin Builtin.append, args := #[Operand.tmp 124, Operand.tmp 128], argTypes := #[40, 40] }, type := 40, pos := "law.go:162", after := #[{ on := 3, ground := Ground.data }, { on := 7, ground := Ground.data }], guard := none }, { dst := some 130, op := Op.move (Operand.tmp 9), type := 59, pos := "law.go:162", after := #[], guard := none }, { dst := some 131, op := Op.move (Operand.tmp 12), type := 3, pos := "law.go:162", after := #[], guard := none }, { dst := some 132, op := Op.move (Operand.tmp 12), type := 3, pos := "law.go:162", after := #[], guard := none }, { dst := some 133, op := Op.slice 59 (Operand.tmp 130) none (some (Operand.tmp 131)) (some (Operand.tmp 132)), type := 59, pos := "law.go:162", after := #[{ on := 9, ground := Ground.data }, { on := 10, ground := Ground.data }, { on := 11, ground := Ground.data }], guard := none }, { dst := some 134, op := Op.move (Operand.tmp 9), type := 59, pos := "law.go:162", after := #[], guard := none }, { dst := some 135, op := Op.move (Operand.tmp 12), type := 3, pos := "law.go:162", after := #[], guard := none }, { dst := some 136, op := Op.binOp BinOp.add 3 (Operand.tmp 135) (Operand.const (Value.int IntKind.i64 1)) 3, type := 3, pos := "law.go:162", after := #[{ on := 14, ground := Ground.data }], guard := none }, { dst := some 137, op := Op.slice 59 (Operand.tmp 134) (some (Operand.tmp 136)) none none, type := 59, pos := "law.go:162", after := #[{ on := 13, ground := Ground.data }, { on := 15, ground := Ground.data }], guard := none }, { dst := some 138, op := Op.call { callee := Callee.builtin Builtin.append, args := #[Operand.tmp 133, Operand.tmp 137], argTypes := #[59, 59] }, type := 59, pos := "law.go:162", after := #[{ on := 12, ground := Ground.data }, { on := 16, ground := Ground.data }, { on := 8, ground := Ground.chain }], guard := none }, { dst := some 8, op := Op.assign (Operand.tmp 129), type := 40, pos := "law.go:162", after := #[{ on := 8, ground := Ground.data }, { on := 17, ground := Ground.chain }, { on := 0, ground := Ground.phase }, { on := 1, ground := Ground.phase }, { on := 2, ground := Ground.phase }, { on := 3, ground := Ground.phase }, { on := 4, ground := Ground.phase }, { on := 5, ground := Ground.phase }, { on := 6, ground := Ground.phase }, { on := 7, ground := Ground.phase }, { on := 8, ground := Ground.phase }, { on := 9, ground := Ground.textOnly Departure.lateStores }, { on := 10, ground := Ground.textOnly Departure.lateStores }, { on := 11, ground := Ground.textOnly Departure.lateStores }, { on := 12, ground := Ground.textOnly Departure.lateStoresUnsure }, { on := 13, ground := Ground.textOnly Departure.lateStores }, { on := 14, ground := Ground.textOnly Departure.lateStores }, { on := 15, ground := Ground.textOnly Departure.lateStores }, { on := 16, ground := Ground.textOnly Departure.lateStoresUnsure }, { on := 17, ground := Ground.textOnly Departure.lateStoresUnsure }], guard := none }, { dst := some 9, op := Op.assign (Operand.tmp 138), type := 59, pos := "law.go:162", after := #[{ on := 17, ground := Ground.data }, { on := 18, ground := Ground.chain }, { on := 0, ground := Ground.phase }, { on := 1, ground := Ground.phase }, { on := 2, ground := Ground.phase }, { on := 3, ground := Ground.phase }, { on := 4, ground := Ground.phase }, { on := 5, ground := Ground.phase }, { on := 6, ground := Ground.phase }, { on := 7, ground := Ground.phase }, { on := 8, ground := Ground.phase }, { on := 9, ground := Ground.phase }, { on := 10, ground := Ground.phase }, { on := 11, ground := Ground.phase }, { on := 12, ground := Ground.phase }, { on := 13, ground := Ground.phase }, { on := 14, ground := Ground.phase }, { on := 15, ground := Ground.phase }, { on := 16, ground := Ground.phase }, { on := 17, ground := Ground.phase }, { on := 18, ground := Ground.phase }], guard := none }] true).wp Try.prog Q { tmps := #[x0, x1, x2, x3, x4, x5, x6, x7, .slice (some ⟨g8, 0, none⟩) n k8, .slice (some ⟨g9, 0, none⟩) n k9, x10, x11, iv (i : Int), x13, x14, x15, x16, x17, x18, x19, x20, x21, x22, x23, x24, x25, x26, x27, x28, x29, x30, x31, x32, x33, x34, x35, x36, x37, x38, x39, x40, x41, x42, x43, x44, x45, x46, x47, x48, x49, x50, x51, x52, x53, x54, x55, x56, x57, x58, x59, x60, x61, x62, x63, x64, x65, x66, x67, x68, x69, x70, x71, x72, x73, x74, x75, x76, x77, x78, x79, x80, x81, x82, x83, x84, x85, x86, x87, x88, x89, x90, x91, x92, x93, x94, x95, x96, x97, x98, x99, x100, x101, x102, x103, x104, x105, x106, x107, x108, x109, x110, x111, x112, x113, x114, x115, x116, x117, x118, x119, x120, x121, x122, x123, x124, x125, x126, x127, x128, x129, x130, x131, x132, x133, x134, x135, x136, x137, x138, x139, x140, x141, x142, x143, x144, x145, x146, x147, x148, x149, x150, x151, x152, x153, x154, x155, x156, x157, x158, x159, x160, x161, x162, x163, x164, x165, x166, x167, x168, x169, x170, x171, x172, x173, x174, x175, x176, x177, x178, x179], defers := ds } A := by
  refine Code.wp_mono (Q := fun x a' w' => match x with | .normal => Q .normal a' w' | _ => False) (by intro x a' w' h; cases x <;> first | exact h | exact h.elim) ?_
  refine wp_region_held (S := fun V => Below A.heap.size A V) (by kernel_rfl) ?_
  have hS0 : Hid (Below A.heap.size A A.drew) := below_drew0 A
  change wpAnyH Try.prog .any _ _ (fun V => Below A.heap.size A V) 20 (Array.replicate 20 false) _ A.drew
  obtain ⟨V0, hV0⟩ : ∃ V0, A.drew = V0 := ⟨_, rfl⟩
  rw [hV0]
  rw [hV0] at hS0
  have hX0 : Hid (OT B V0 9 (.slice (some ⟨g8, 0, none⟩) n k8) c8 ∧ OT B V0 4 (.slice (some ⟨g9, 0, none⟩) n k9) c9) := by rw [← hV0]; exact HX.out
  clear hV0
  refine wpAnyH_take (i := 0) (oi := { dst := some 121, op := Op.move (Operand.tmp 8), type := 40, pos := "law.go:162", after := #[], guard := none }) (v := .slice (some ⟨g8, 0, none⟩) n k8) rfl (by kernel_rfl) (by kernel_rfl) (by kernel_rfl) (fun _ _ _ h => h.elim) (Or.inl ⟨by rfl, ?y1⟩) hS0.out ?_
  case y1 =>
    intro V hV
    go_simp
  simp only [Act.put, List.setIfInBounds_toArray, List.set_cons_zero, List.set_cons_succ]
  refine wpAnyH_take (i := 1) (oi := { dst := some 122, op := Op.move (Operand.tmp 12), type := 3, pos := "law.go:162", after := #[], guard := none }) (v := iv (i : Int)) rfl (by kernel_rfl) (by kernel_rfl) (by kernel_rfl) (fun _ _ _ h => h.elim) (Or.inl ⟨by rfl, ?y2⟩) hS0.out ?_
  case y2 =>
    intro V hV
    go_simp
  simp only [Act.put, List.setIfInBounds_toArray, List.set_cons_zero, List.set_cons_succ]
  refine wpAnyH_take (i := 2) (oi := { dst := some 123, op := Op.move (Operand.tmp 12), type := 3, pos := "law.go:162", after := #[], guard := none }) (v := iv (i : Int)) rfl (by kernel_rfl) (by kernel_rfl) (by kernel_rfl) (fun _ _ _ h => h.elim) (Or.inl ⟨by rfl, ?y3⟩) hS0.out ?_
  case y3 =>
    intro V hV
    go_simp
  simp only [Act.put, List.setIfInBounds_toArray, List.set_cons_zero, List.set_cons_succ]
  refine wpAnyH_take (i := 3) (oi := { dst := some 124, op := Op.slice 40 (Operand.tmp 121) none (some (Operand.tmp 122)) (some (Operand.tmp 123)), type := 40, pos := "law.go:162", after := #[{ on := 0, ground := Ground.data }, { on := 1, ground := Ground.data }, { on := 2, ground := Ground.data }], guard := none }) (v := .slice (some ⟨g8, 0, none⟩) i i) rfl (by kernel_rfl) (by kernel_rfl) (by kernel_rfl) (fun _ _ _ h => h.elim) (Or.inl ⟨by rfl, ?y4⟩) hS0.out ?_
  case y4 =>
    intro V hV
    exact yl_ahead V 40 (.tmp 121) (.tmp 122) (.tmp 123) _ _ _ _ rfl rfl rfl rfl HU40.out.1 HU40.out.2.1 HI.out.2.2.1
  simp only [Act.put, List.setIfInBounds_toArray, List.set_cons_zero, List.set_cons_succ]
  refine wpAnyH_take (i := 4) (oi := { dst := some 125, op := Op.move (Operand.tmp 8), type := 40, pos := "law.go:162", after := #[], guard := none }) (v := .slice (some ⟨g8, 0, none⟩) n k8) rfl (by kernel_rfl) (by kernel_rfl) (by kernel_rfl) (fun _ _ _ h => h.elim) (Or.inl ⟨by rfl, ?y5⟩) hS0.out ?_
  case y5 =>
    intro V hV
    go_simp
  simp only [Act.put, List.setIfInBounds_toArray, List.set_cons_zero, List.set_cons_succ]
  refine wpAnyH_take (i := 5) (oi := { dst := some 126, op := Op.move (Operand.tmp 12), type := 3, pos := "law.go:162", after := #[], guard := none }) (v := iv (i : Int)) rfl (by kernel_rfl) (by kernel_rfl) (by kernel_rfl) (fun _ _ _ h => h.elim) (Or.inl ⟨by rfl, ?y6⟩) hS0.out ?_
  case y6 =>
    intro V hV
    go_simp
  simp only [Act.put, List.setIfInBounds_toArray, List.set_cons_zero, List.set_cons_succ]
  refine wpAnyH_take (i := 6) (oi := { dst := some 127, op := Op.binOp BinOp.add 3 (Operand.tmp 126) (Operand.const (Value.int IntKind.i64 1)) 3, type := 3, pos := "law.go:162", after := #[{ on := 5, ground := Ground.data }], guard := none }) (v := iv ((i : Int) + 1)) rfl (by kernel_rfl) (by kernel_rfl) (by kernel_rfl) (fun _ _ _ h => h.elim) (Or.inl ⟨by rfl, ?y7⟩) hS0.out ?_
  case y7 =>
    intro V hV
    exact yl_add1 V _ i n rfl rfl HI.out.1 HI.out.2.1
  simp only [Act.put, List.setIfInBounds_toArray, List.set_cons_zero, List.set_cons_succ]
  refine wpAnyH_take (i := 7) (oi := { dst := some 128, op := Op.slice 40 (Operand.tmp 125) (some (Operand.tmp 127)) none none, type := 40, pos := "law.go:162", after := #[{ on := 4, ground := Ground.data }, { on := 6, ground := Ground.data }], guard := none }) (v := .slice (some ⟨g8, o8, none⟩) (n - (i + 1)) (k8 - (i + 1))) rfl (by kernel_rfl) (by kernel_rfl) (by kernel_rfl) (fun _ _ _ h => h.elim) (Or.inl ⟨by rfl, ?y8⟩) hS0.out ?_
  case y8 =>
    intro V hV
    exact yl_from V 40 (.tmp 125) (.tmp 127) _ _ _ _ _ rfl rfl rfl HU40.out.1 HU40.out.2.1 HU40.out.2.2 HI.out.1 HOF.out.1
  simp only [Act.put, List.setIfInBounds_toArray, List.set_cons_zero, List.set_cons_succ]
  refine wpAnyH_take (i := 9) (oi := { dst := some 130, op := Op.move (Operand.tmp 9), type := 59, pos := "law.go:162", after := #[], guard := none }) (v := .slice (some ⟨g9, 0, none⟩) n k9) rfl (by kernel_rfl) (by kernel_rfl) (by kernel_rfl) (fun _ _ _ h => h.elim) (Or.inl ⟨by rfl, ?y9⟩) hS0.out ?_
  case y9 =>
    intro V hV
    go_simp
  simp only [Act.put, List.setIfInBounds_toArray, List.set_cons_zero, List.set_cons_succ]
  refine wpAnyH_take (i := 10) (oi := { dst := some 131, op := Op.move (Operand.tmp 12), type := 3, pos := "law.go:162", after := #[], guard := none }) (v := iv (i : Int)) rfl (by kernel_rfl) (by kernel_rfl) (by kernel_rfl) (fun _ _ _ h => h.elim) (Or.inl ⟨by rfl, ?y10⟩) hS0.out ?_
  case y10 =>
    intro V hV
    go_simp
  simp only [Act.put, List.setIfInBounds_toArray, List.set_cons_zero, List.set_cons_succ]
  refine wpAnyH_take (i := 11) (oi := { dst := some 132, op := Op.move (Operand.tmp 12), type := 3, pos := "law.go:162", after := #[], guard := none }) (v := iv (i : Int)) rfl (by kernel_rfl) (by kernel_rfl) (by kernel_rfl) (fun _ _ _ h => h.elim) (Or.inl ⟨by rfl, ?y11⟩) hS0.out ?_
  case y11 =>
    intro V hV
    go_simp
  simp only [Act.put, List.setIfInBounds_toArray, List.set_cons_zero, List.set_cons_succ]
  refine wpAnyH_take (i := 12) (oi := { dst := some 133, op := Op.slice 59 (Operand.tmp 130) none (some (Operand.tmp 131)) (some (Operand.tmp 132)), type := 59, pos := "law.go:162", after := #[{ on := 9, ground := Ground.data }, { on := 10, ground := Ground.data }, { on := 11, ground := Ground.data }], guard := none }) (v := .slice (some ⟨g9, 0, none⟩) i i) rfl (by kernel_rfl) (by kernel_rfl) (by kernel_rfl) (fun _ _ _ h => h.elim) (Or.inl ⟨by rfl, ?y12⟩) hS0.out ?_
  case y12 =>
    intro V hV
    exact yl_ahead V 59 (.tmp 130) (.tmp 131) (.tmp 132) _ _ _ _ rfl rfl rfl rfl HU59.out.1 HU59.out.2.1 HI.out.2.2.2
  simp only [Act.put, List.setIfInBounds_toArray, List.set_cons_zero, List.set_cons_succ]
  refine wpAnyH_take (i := 13) (oi := { dst := some 134, op := Op.move (Operand.tmp 9), type := 59, pos := "law.go:162", after := #[], guard := none }) (v := .slice (some ⟨g9, 0, none⟩) n k9) rfl (by kernel_rfl) (by kernel_rfl) (by kernel_rfl) (fun _ _ _ h => h.elim) (Or.inl ⟨by rfl, ?y13⟩) hS0.out ?_
  case y13 =>
    intro V hV
    go_simp
  simp only [Act.put, List.setIfInBounds_toArray, List.set_cons_zero, List.set_cons_succ]
  refine wpAnyH_take (i := 14) (oi := { dst := some 135, op := Op.move (Operand.tmp 12), type := 3, pos := "law.go:162", after := #[], guard := none }) (v := iv (i : Int)) rfl (by kernel_rfl) (by kernel_rfl) (by kernel_rfl) (fun _ _ _ h => h.elim) (Or.inl ⟨by rfl, ?y14⟩) hS0.out ?_
  case y14 =>
    intro V hV
    go_simp
  simp only [Act.put, List.setIfInBounds_toArray, List.set_cons_zero, List.set_cons_succ]
  refine wpAnyH_take (i := 15) (oi := { dst := some 136, op := Op.binOp BinOp.add 3 (Operand.tmp 135) (Operand.const (Value.int IntKind.i64 1)) 3, type := 3, pos := "law.go:162", after := #[{ on := 14, ground := Ground.data }], guard := none }) (v := iv ((i : Int) + 1)) rfl (by kernel_rfl) (by kernel_rfl) (by kernel_rfl) (fun _ _ _ h => h.elim) (Or.inl ⟨by rfl, ?y15⟩) hS0.out ?_
  case y15 =>
    intro V hV
    exact yl_add1 V _ i n rfl rfl HI.out.1 HI.out.2.1
  simp only [Act.put, List.setIfInBounds_toArray, List.set_cons_zero, List.set_cons_succ]
  refine wpAnyH_take (i := 16) (oi := { dst := some 137, op := Op.slice 59 (Operand.tmp 134) (some (Operand.tmp 136)) none none, type := 59, pos := "law.go:162", after := #[{ on := 13, ground := Ground.data }, { on := 15, ground := Ground.data }], guard := none }) (v := .slice (some ⟨g9, o9, none⟩) (n - (i + 1)) (k9 - (i + 1))) rfl (by kernel_rfl) (by kernel_rfl) (by kernel_rfl) (fun _ _ _ h => h.elim) (Or.inl ⟨by rfl, ?y16⟩) hS0.out ?_
  case y16 =>
    intro V hV
    exact yl_from V 59 (.tmp 134) (.tmp 136) _ _ _ _ _ rfl rfl rfl HU59.out.1 HU59.out.2.1 HU59.out.2.2 HI.out.1 HOF.out.2
  simp only [Act.put, List.setIfInBounds_toArray, List.set_cons_zero, List.set_cons_succ]
  refine wpAnyH_ready (rs := [8]) (by kernel_rfl) (by simp) (AllReadyH.cons (i := 8) (o := { dst := some 129, op := Op.call { callee := Callee.builtin Builtin.append, args := #[Operand.tmp 124, Operand.tmp 128], argTypes := #[40, 40] }, type := 40, pos := "law.go:162", after := #[{ on := 3, ground := Ground.data }, { on := 7, ground := Ground.data }], guard := none }) rfl ?_ AllReadyH.nil)
  · intro K1 hK1
    obtain ⟨a1, V1, hr1, ho1, hb1, hp1⟩ := OT.cut (ty := 40) Try.underlying40 sized9 (by omega) (hX0.out.1) (Nat.le_trans HB.out hS0.out.size) i HI.out.1 HI.out.2.1 o8 (n - (i + 1)) (k8 - (i + 1)) rfl (off_is HOF.out.1 HK.out.1)
    refine step_ap (by rfl) 40 (.tmp 124) (.tmp 128) rfl _ _ rfl rfl hr1 ?_
    have hS1 : Hid (Below A.heap.size A V1) := below_tr hS0.out hb1
    have hX1 : Hid (OT B V1 9 a1 (c8.eraseIdx i) ∧ OT B V1 4 (.slice (some ⟨g9, 0, none⟩) n k9) c9 ∧ (a1.ownBlock = some g8 ∨ ∃ k, a1.ownBlock = some k ∧ A.heap.size ≤ k ∧ k < V1.heap.size)) := ⟨ho1, hX0.out.2.below hb1, hp1.imp id (fun h => ⟨_, h, hS0.out.size, (ho1.lt h).2⟩)⟩
    clear hr1 ho1 hp1
    refine hK1.out _ _ hS1.out ?_
    clear hK1
    intro _
    try simp only [Act.put, List.setIfInBounds_toArray, List.set_cons_zero, List.set_cons_succ]
    refine wpAnyH_ready (rs := [17]) (by kernel_rfl) (by simp) (AllReadyH.cons (i := 17) (o := { dst := some 138, op := Op.call { callee := Callee.builtin Builtin.append, args := #[Operand.tmp 133, Operand.tmp 137], argTypes := #[59, 59] }, type := 59, pos := "law.go:162", after := #[{ on := 12, ground := Ground.data }, { on := 16, ground := Ground.data }, { on := 8, ground := Ground.chain }], guard := none }) rfl ?_ AllReadyH.nil)
    · intro K1 hK1
      obtain ⟨a2, V2, hr2, ho2, hb2, hp2⟩ := OT.cut (ty := 59) Try.underlying59 sized4 (by omega) (hX1.out.2.1) (Nat.le_trans HB.out hS1.out.size) i HI.out.1 HI.out.2.1 o9 (n - (i + 1)) (k9 - (i + 1)) rfl (off_is HOF.out.2 HK.out.2)
      refine step_ap (by rfl) 59 (.tmp 133) (.tmp 137) rfl _ _ rfl rfl hr2 ?_
      have hS2 : Hid (Below A.heap.size A V2) := below_tr hS1.out hb2
      have hX2 : Hid (OT B V2 9 a1 (c8.eraseIdx i) ∧ OT B V2 4 a2 (c9.eraseIdx i) ∧ (a1.ownBlock = some g8 ∨ ∃ k, a1.ownBlock = some k ∧ A.heap.size ≤ k ∧ k < V1.heap.size) ∧ (a2.ownBlock = some g9 ∨ a2.ownBlock = some V1.heap.size)) := ⟨hX1.out.1.below hb2, ho2, hX1.out.2.2, hp2⟩
      clear hr2 ho2 hp2
      refine hK1.out _ _ hS2.out ?_
      clear hK1
      intro _
      try simp only [Act.put, List.setIfInBounds_toArray, List.set_cons_zero, List.set_cons_succ]
      refine wpAnyH_take (i := 18) (oi := { dst := some 8, op := Op.assign (Operand.tmp 129), type := 40, pos := "law.go:162", after := #[{ on := 8, ground := Ground.data }, { on := 17, ground := Ground.chain }, { on := 0, ground := Ground.phase }, { on := 1, ground := Ground.phase }, { on := 2, ground := Ground.phase }, { on := 3, ground := Ground.phase }, { on := 4, ground := Ground.phase }, { on := 5, ground := Ground.phase }, { on := 6, ground := Ground.phase }, { on := 7, ground := Ground.phase }, { on := 8, ground := Ground.phase }, { on := 9, ground := Ground.textOnly Departure.lateStores }, { on := 10, ground := Ground.textOnly Departure.lateStores }, { on := 11, ground := Ground.textOnly Departure.lateStores }, { on := 12, ground := Ground.textOnly Departure.lateStoresUnsure }, { on := 13, ground := Ground.textOnly Departure.lateStores }, { on := 14, ground := Ground.textOnly Departure.lateStores }, { on := 15, ground := Ground.textOnly Departure.lateStores }, { on := 16, ground := Ground.textOnly Departure.lateStoresUnsure }, { on := 17, ground := Ground.textOnly Departure.lateStoresUnsure }], guard := none }) (v := a1) rfl (by kernel_rfl) (by kernel_rfl) (by kernel_rfl) (fun _ _ _ h => h.elim) (Or.inl ⟨by rfl, ?y17⟩) hS2.out ?_
      case y17 =>
        intro V hV
        go_simp
      simp only [Act.put, List.setIfInBounds_toArray, List.set_cons_zero, List.set_cons_succ]
      refine wpAnyH_take (i := 19) (oi := { dst := some 9, op := Op.assign (Operand.tmp 138), type := 59, pos := "law.go:162", after := #[{ on := 17, ground := Ground.data }, { on := 18, ground := Ground.chain }, { on := 0, ground := Ground.phase }, { on := 1, ground := Ground.phase }, { on := 2, ground := Ground.phase }, { on := 3, ground := Ground.phase }, { on := 4, ground := Ground.phase }, { on := 5, ground := Ground.phase }, { on := 6, ground := Ground.phase }, { on := 7, ground := Ground.phase }, { on := 8, ground := Ground.phase }, { on := 9, ground := Ground.phase }, { on := 10, ground := Ground.phase }, { on := 11, ground := Ground.phase }, { on := 12, ground := Ground.phase }, { on := 13, ground := Ground.phase }, { on := 14, ground := Ground.phase }, { on := 15, ground := Ground.phase }, { on := 16, ground := Ground.phase }, { on := 17, ground := Ground.phase }, { on := 18, ground := Ground.phase }], guard := none }) (v := a2) rfl (by kernel_rfl) (by kernel_rfl) (by kernel_rfl) (fun _ _ _ h => h.elim) (Or.inl ⟨by rfl, ?y18⟩) hS2.out ?_
      case y18 =>
        intro V hV
        go_simp
      simp only [Act.put, List.setIfInBounds_toArray, List.set_cons_zero, List.set_cons_succ]
      refine wpAnyH_done (by kernel_rfl) ?_ _
      exact hQ V2 _ _ (cut32_of hX2.out.1 hX2.out.2.1 hX2.out.2.2.1 hX2.out.2.2.2 hS2.out hS1.out.size HG.out)
#print axioms vot32
end Go.Proofs.Ytaecigpjcbjcbaa.Oct
