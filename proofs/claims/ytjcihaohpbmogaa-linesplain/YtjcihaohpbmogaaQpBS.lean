/-
  Layer 11 (lines): who edits alone: drawn regions.
-/
import Derived.Test.YtjcihaohpbmogaaQpAY
/- Layer 11 (lines): who edits alone: drawn regions. -/
namespace Go.Proofs.Ytjcihaohpbmogaa.Oct
open Go.RowKit
set_option maxRecDepth 100000
set_option linter.unusedSimpArgs false
set_option linter.unusedVariables false
set_option linter.unusedSectionVars false

set_option maxRecDepth 100000 in
set_option maxHeartbeats 4000000 in
theorem pl12 {Q : Exit → Act → World → Prop} {x0 x1 x2 x4 x6 x7 x10 x11 x12 x13 x14 x15 x16 x17 x18 x19 x20 x21 x22 x23 x24 x25 x26 x27 x28 x29 x30 x31 x32 x33 x34 x35 x36 x37 x38 x39 x40 x41 x42 x43 x44 x45 x46 x47 x48 x49 x50 x51 x52 x53 x54 x55 x56 x57 x58 x59 x60 x61 x62 x63 x64 x65 x66 x67 x68 x69 x70 x71 x72 x73 x74 x75 x76 x77 x78 x79 x80 x81 x82 x83 x84 x85 x86 x87 x88 x89 x90 x91 x92 x93 x94 x95 x96 x97 x98 x99 x100 x101 x102 x103 x104 x105 x106 x107 x108 x109 x110 x111 x112 x113 x114 x115 x116 x117 x118 x119 x120 x121 x122 x123 x124 x125 x126 x127 x128 x129 x130 x131 x132 x133 x134 x135 x136 x137 x138 x139 x140 x141 x142 x143 x144 x145 x146 x147 x148 x149 x150 x151 x152 x153 x154 x155 x156 x157 x158 x159 x160 x161 x162 x163 x164 x165 x166 x167 x168 : Value} {ds : List Deferred} {A : World} {p g off n c k d9 : Nat} {G : Gm} {XC YC : List Value} {PS : List PL}
    (HL : Hid (g < A.heap.size ∧ ¬ g ∈ G.bl p)) (HM : Hid (d9 < A.heap.size ∧ ¬ d9 ∈ G.bl p)) (HR : Hid (A.rangeAt g (off + k * 33) XC ∧ (Try.prog.info? 34).map (·.size) = some XC.length)) (HY : Hid (A.rangeAt d9 0 YC ∧ (Try.prog.info? 32).map (·.size) = some YC.length)) (q1 : (k : Int) < (n : Int)) (q2 : k < n) (HKILL : Hid (∀ V, Below A.heap.size A V → Calls Try.prog 21 #[.pointer (some ⟨p, 0, none⟩), .agg XC.toArray, .agg YC.toArray] V fun e w' => e = .returned (iv 0) ∧ ∃ G', GAfter V p G G' w' ∧ G'.ps = PS))
    (hQ : ∀ V3 G', Keep (fun k => k ∈ G.bl p) A V3 → (GAt V3 p G' ∧ G'.ps = PS ∧ ∀ k ∈ G'.bl p, k ∈ G.bl p ∨ A.heap.size ≤ k) → Q .normal { tmps := #[x0, x1, x2, .pointer (some ⟨p, 0, none⟩), x4, .slice (some ⟨g, off, none⟩) n c, x6, x7, iv (k : Int), .pointer (some ⟨d9, 0, none⟩), x10, x11, x12, x13, x14, x15, x16, x17, x18, x19, x20, x21, x22, x23, x24, x25, x26, x27, x28, x29, x30, x31, x32, x33, x34, x35, x36, x37, x38, x39, x40, x41, x42, x43, x44, x45, x46, x47, x48, .pointer (some ⟨p, 0, none⟩), .slice (some ⟨g, off, none⟩) n c, iv (k : Int), .pointer (some ⟨g, off + k * 33, none⟩), .agg XC.toArray, .agg YC.toArray, iv 0, .bool false, x57, x58, x59, x60, x61, x62, x63, x64, x65, x66, x67, x68, x69, x70, x71, x72, x73, x74, x75, x76, x77, x78, x79, x80, x81, x82, x83, x84, x85, x86, x87, x88, x89, x90, x91, x92, x93, x94, x95, x96, x97, x98, x99, x100, x101, x102, x103, x104, x105, x106, x107, x108, x109, x110, x111, x112, x113, x114, x115, x116, x117, x118, x119, x120, x121, x122, x123, x124, x125, x126, x127, x128, x129, x130, x131, x132, x133, x134, x135, x136, x137, x138, x139, x140, x141, x142, x143, x144, x145, x146, x147, x148, x149, x150, x151, x152, x153, x154, x155, x156, x157, x158, x159, x160, x161, x162, x163, x164, x165, x166, x167, x168], defers := ds } V3) :
    (Code.region 12 #[{ dst := some 49, op := Op.move (Operand.tmp 3), type := 25, pos := "law.go:163", after := #[], guard := none }, { dst := some 50, op := Op.move (Operand.tmp 5), type := 35, pos := "law.go:163", after := #[], guard := none }, { dst := some 51, op := Op.move (Operand.tmp 8), type := 3, pos := "law.go:163", after := #[], guard := none }, { dst := some 52, op := Op.indexAddr 35 (Operand.tmp 50) (Operand.tmp 51), type := 0, pos := "law.go:163", after := #[{ on := 1, ground := Ground.data }, { on := 2, ground := Ground.data }], guard := none }, { dst := some 53, op := Op.load 34 (Operand.tmp 52), type := 34, pos := "law.go:163", after := #[{ on := 3, ground := Ground.data }], guard := none }, { dst := some 54, op := Op.load 32 (Operand.tmp 9), type := 32, pos := "law.go:163", after := #[], guard := none }, { dst := some 55, op := Op.call { callee := Callee.value (Operand.func 21), args := #[Operand.tmp 49, Operand.tmp 53, Operand.tmp 54], argTypes := #[25, 34, 32] }, type := 40, pos := "law.go:163", after := #[{ on := 0, ground := Ground.data }, { on := 4, ground := Ground.data }, { on := 5, ground := Ground.data }], guard := none }, { dst := some 56, op := Op.binOp BinOp.neq 40 (Operand.tmp 55) (Operand.const (Value.int IntKind.i64 0)) 40, type := 4, pos := "law.go:163", after := #[{ on := 6, ground := Ground.data }], guard := none }] true).wp Try.prog Q { tmps := #[x0, x1, x2, .pointer (some ⟨p, 0, none⟩), x4, .slice (some ⟨g, off, none⟩) n c, x6, x7, iv (k : Int), .pointer (some ⟨d9, 0, none⟩), x10, x11, x12, x13, x14, x15, x16, x17, x18, x19, x20, x21, x22, x23, x24, x25, x26, x27, x28, x29, x30, x31, x32, x33, x34, x35, x36, x37, x38, x39, x40, x41, x42, x43, x44, x45, x46, x47, x48, x49, x50, x51, x52, x53, x54, x55, x56, x57, x58, x59, x60, x61, x62, x63, x64, x65, x66, x67, x68, x69, x70, x71, x72, x73, x74, x75, x76, x77, x78, x79, x80, x81, x82, x83, x84, x85, x86, x87, x88, x89, x90, x91, x92, x93, x94, x95, x96, x97, x98, x99, x100, x101, x102, x103, x104, x105, x106, x107, x108, x109, x110, x111, x112, x113, x114, x115, x116, x117, x118, x119, x120, x121, x122, x123, x124, x125, x126, x127, x128, x129, x130, x131, x132, x133, x134, x135, x136, x137, x138, x139, x140, x141, x142, x143, x144, x145, x146, x147, x148, x149, x150, x151, x152, x153, x154, x155, x156, x157, x158, x159, x160, x161, x162, x163, x164, x165, x166, x167, x168], defers := ds } A := by
  refine Code.wp_mono (Q := fun x a' w' => match x with | .normal => Q .normal a' w' | _ => False) (by intro x a' w' h; cases x <;> first | exact h | exact h.elim) ?_
  refine wp_region_held (S := fun V => Keep (fun k => k ∈ G.bl p) A V) (by kernel_rfl) ?_
  have hS0 : Hid (Keep (fun k => k ∈ G.bl p) A A.drew) := (Keep.refl _ A).drew
  change wpAnyH Try.prog .any _ _ (fun V => Keep (fun k => k ∈ G.bl p) A V) 8 (Array.replicate 8 false) _ A.drew
  obtain ⟨V0, hV0⟩ : ∃ V0, A.drew = V0 := ⟨_, rfl⟩
  rw [hV0]
  rw [hV0] at hS0
  have hL0 : Hid (Below A.heap.size A V0) := by
    show Below _ _ _
    rw [← hV0]
    exact below_drew0 A
  clear hV0
  refine wpAnyH_take (i := 0) (oi := { dst := some 49, op := Op.move (Operand.tmp 3), type := 25, pos := "law.go:163", after := #[], guard := none }) (v := .pointer (some ⟨p, 0, none⟩)) rfl (by kernel_rfl) (by kernel_rfl) (by kernel_rfl) (fun _ _ _ h => h.elim) (Or.inl ⟨by rfl, ?y1⟩) hS0.out ?_
  case y1 =>
    intro V hV
    go_simp
  simp only [Act.put, List.setIfInBounds_toArray, List.set_cons_zero, List.set_cons_succ]
  refine wpAnyH_take (i := 1) (oi := { dst := some 50, op := Op.move (Operand.tmp 5), type := 35, pos := "law.go:163", after := #[], guard := none }) (v := .slice (some ⟨g, off, none⟩) n c) rfl (by kernel_rfl) (by kernel_rfl) (by kernel_rfl) (fun _ _ _ h => h.elim) (Or.inl ⟨by rfl, ?y2⟩) hS0.out ?_
  case y2 =>
    intro V hV
    go_simp
  simp only [Act.put, List.setIfInBounds_toArray, List.set_cons_zero, List.set_cons_succ]
  refine wpAnyH_take (i := 2) (oi := { dst := some 51, op := Op.move (Operand.tmp 8), type := 3, pos := "law.go:163", after := #[], guard := none }) (v := iv (k : Int)) rfl (by kernel_rfl) (by kernel_rfl) (by kernel_rfl) (fun _ _ _ h => h.elim) (Or.inl ⟨by rfl, ?y3⟩) hS0.out ?_
  case y3 =>
    intro V hV
    go_simp
  simp only [Act.put, List.setIfInBounds_toArray, List.set_cons_zero, List.set_cons_succ]
  refine wpAnyH_take (i := 3) (oi := { dst := some 52, op := Op.indexAddr 35 (Operand.tmp 50) (Operand.tmp 51), type := 0, pos := "law.go:163", after := #[{ on := 1, ground := Ground.data }, { on := 2, ground := Ground.data }], guard := none }) (v := .pointer (some ⟨g, off + k * 33, none⟩)) rfl (by kernel_rfl) (by kernel_rfl) (by kernel_rfl) (fun _ _ _ h => h.elim) (Or.inl ⟨by rfl, ?y4⟩) hS0.out ?_
  case y4 =>
    intro V hV
    have hcmp := q1
    have hcmp2 := q2
    go_simp
  simp only [Act.put, List.setIfInBounds_toArray, List.set_cons_zero, List.set_cons_succ]
  refine wpAnyH_take (i := 4) (oi := { dst := some 53, op := Op.load 34 (Operand.tmp 52), type := 34, pos := "law.go:163", after := #[{ on := 3, ground := Ground.data }], guard := none }) (v := .agg XC.toArray) rfl (by kernel_rfl) (by kernel_rfl) (by kernel_rfl) (fun _ _ _ h => h.elim) (yieldsIf_load_mid (by rfl) _ _ rfl _ _ rfl (XC) _ (fun V hV => rangeAt_same (HR.out.1) ((show Keep (fun k => k ∈ G.bl p) A V from hV).block _ (HL.out.1) (HL.out.2))) Try.underlying34 rfl (HR.out.2)) hS0.out ?_
  simp only [Act.put, List.setIfInBounds_toArray, List.set_cons_zero, List.set_cons_succ]
  refine wpAnyH_take (i := 5) (oi := { dst := some 54, op := Op.load 32 (Operand.tmp 9), type := 32, pos := "law.go:163", after := #[], guard := none }) (v := .agg YC.toArray) rfl (by kernel_rfl) (by kernel_rfl) (by kernel_rfl) (fun _ _ _ h => h.elim) (yieldsIf_load_mid (by rfl) _ _ rfl _ _ rfl (YC) _ (fun V hV => rangeAt_same (HY.out.1) ((show Keep (fun k => k ∈ G.bl p) A V from hV).block _ (HM.out.1) (HM.out.2))) Try.underlying32 rfl (HY.out.2)) hS0.out ?_
  simp only [Act.put, List.setIfInBounds_toArray, List.set_cons_zero, List.set_cons_succ]
  refine wpAnyH_ready (rs := [6]) (by kernel_rfl) (by simp) (AllReadyH.cons (i := 6) (o := { dst := some 55, op := Op.call { callee := Callee.value (Operand.func 21), args := #[Operand.tmp 49, Operand.tmp 53, Operand.tmp 54], argTypes := #[25, 34, 32] }, type := 40, pos := "law.go:163", after := #[{ on := 0, ground := Ground.data }, { on := 4, ground := Ground.data }, { on := 5, ground := Ground.data }], guard := none }) rfl ?_ AllReadyH.nil)
  · intro K1 hK1
    rw [if_pos (by rfl)]
    have HC1 := HKILL.out V0 hL0.out
    go_wp2_with fail
    refine HC1.mono ?_
    rintro e V1 ⟨rfl, G', hga1, hps1⟩
    dsimp only
    clear HC1
    have hS1 : Hid (Keep (fun k => k ∈ G.bl p) A V1) := (hS0.out).trans hga1.2.2 (fun _ h _ => h)
    have hX1 : Hid (GAt V1 p G' ∧ G'.ps = PS ∧ ∀ k ∈ G'.bl p, k ∈ G.bl p ∨ A.heap.size ≤ k) := ⟨hga1.1, hps1, fun k hk => (hga1.2.1 k hk).imp id (fun h => Nat.le_trans (hL0.out).size h)⟩
    clear hga1 hps1
    refine hK1.out _ _ hS1.out ?_
    clear hK1
    intro _
    try simp only [Act.put, List.setIfInBounds_toArray, List.set_cons_zero, List.set_cons_succ]
    refine wpAnyH_take (i := 7) (oi := { dst := some 56, op := Op.binOp BinOp.neq 40 (Operand.tmp 55) (Operand.const (Value.int IntKind.i64 0)) 40, type := 4, pos := "law.go:163", after := #[{ on := 6, ground := Ground.data }], guard := none }) (v := .bool false) rfl (by kernel_rfl) (by kernel_rfl) (by kernel_rfl) (fun _ _ _ h => h.elim) (Or.inl ⟨by rfl, ?y5⟩) hS1.out ?_
    case y5 =>
      intro V hV
      go_simp
    simp only [Act.put, List.setIfInBounds_toArray, List.set_cons_zero, List.set_cons_succ]
    refine wpAnyH_done (by kernel_rfl) ?_ _
    exact hQ V1 G' hS1.out hX1.out
set_option maxRecDepth 100000 in
set_option maxHeartbeats 4000000 in
theorem pl14 {Q : Exit → Act → World → Prop} {x0 x1 x2 x3 x5 x6 x7 x9 x10 x11 x12 x13 x14 x15 x16 x17 x18 x19 x20 x21 x22 x23 x24 x25 x26 x27 x28 x29 x30 x31 x32 x33 x34 x35 x36 x37 x38 x39 x40 x41 x42 x43 x44 x45 x46 x47 x48 x49 x50 x51 x52 x53 x54 x55 x56 x57 x58 x59 x60 x61 x62 x63 x64 x65 x66 x67 x68 x69 x70 x71 x72 x73 x74 x75 x76 x77 x78 x79 x80 x81 x82 x83 x84 x85 x86 x87 x88 x89 x90 x91 x92 x93 x94 x95 x96 x97 x98 x99 x100 x101 x102 x103 x104 x105 x106 x107 x108 x109 x110 x111 x112 x113 x114 x115 x116 x117 x118 x119 x120 x121 x122 x123 x124 x125 x126 x127 x128 x129 x130 x131 x132 x133 x134 x135 x136 x137 x138 x139 x140 x141 x142 x143 x144 x145 x146 x147 x148 x149 x150 x151 x152 x153 x154 x155 x156 x157 x158 x159 x160 x161 x162 x163 x164 x165 x166 x167 x168 : Value} {ds : List Deferred} {A : World} {ia : Option Addr} {n c k k1 : Nat} {xs : List BA}
    (HX : Hid (TsR A ia n xs)) (HQ0 : Hid (k ≤ n ∧ n ≤ c)) (HN : Hid (n ≤ 1000)) (HK : Hid (k1 = k + 1 ∧ k + 1 ≤ n)) (qk : IntKind.i64.wrap ((k : Int) + 1) = (k1 : Int))
    (hQ : ∀ V r1 v1 v2, Below A.heap.size A V → OT9 A.heap.size V v2 (0 + (k) + (n - k1)) ([] ++ (xs.take k) ++ (xs.drop k1)) → Q .normal { tmps := #[x0, x1, x2, x3, v2, x5, x6, x7, iv (k : Int), x9, x10, x11, x12, x13, x14, x15, x16, x17, x18, x19, x20, x21, x22, x23, x24, x25, x26, x27, x28, x29, x30, x31, x32, x33, x34, x35, x36, x37, x38, x39, x40, x41, x42, x43, x44, x45, x46, x47, x48, x49, x50, x51, x52, x53, x54, x55, x56, .slice (some ⟨r1, 0, none⟩) 0 0, .slice ia n c, iv (k : Int), .slice (shA ia 0 c 1) k c, v1, .slice ia n c, iv (k : Int), iv (k1 : Int), .slice (shA ia k1 c 1) (n - k1) (c - k1), v2, x67, x68, x69, x70, x71, x72, x73, x74, x75, x76, x77, x78, x79, x80, x81, x82, x83, x84, x85, x86, x87, x88, x89, x90, x91, x92, x93, x94, x95, x96, x97, x98, x99, x100, x101, x102, x103, x104, x105, x106, x107, x108, x109, x110, x111, x112, x113, x114, x115, x116, x117, x118, x119, x120, x121, x122, x123, x124, x125, x126, x127, x128, x129, x130, x131, x132, x133, x134, x135, x136, x137, x138, x139, x140, x141, x142, x143, x144, x145, x146, x147, x148, x149, x150, x151, x152, x153, x154, x155, x156, x157, x158, x159, x160, x161, x162, x163, x164, x165, x166, x167, x168], defers := ds } V) :
    (Code.region 14 #[{ dst := some 57, op := Op.buildSlice 36 0 #[], type := 36, pos := "law.go:166", after := #[], guard := none }, { dst := some 58, op := Op.move (Operand.tmp 4), type := 36, pos := "law.go:166", after := #[], guard := none }, { dst := some 59, op := Op.move (Operand.tmp 8), type := 3, pos := "law.go:166", after := #[], guard := none }, { dst := some 60, op := Op.slice 36 (Operand.tmp 58) none (some (Operand.tmp 59)) none, type := 36, pos := "law.go:166", after := #[{ on := 1, ground := Ground.data }, { on := 2, ground := Ground.data }], guard := none }, { dst := some 61, op := Op.call { callee := Callee.builtin Builtin.append, args := #[Operand.tmp 57, Operand.tmp 60], argTypes := #[36, 36] }, type := 36, pos := "law.go:166", after := #[{ on := 0, ground := Ground.data }, { on := 3, ground := Ground.data }], guard := none }, { dst := some 62, op := Op.move (Operand.tmp 4), type := 36, pos := "law.go:166", after := #[], guard := none }, { dst := some 63, op := Op.move (Operand.tmp 8), type := 3, pos := "law.go:166", after := #[], guard := none }, { dst := some 64, op := Op.binOp BinOp.add 3 (Operand.tmp 63) (Operand.const (Value.int IntKind.i64 1)) 3, type := 3, pos := "law.go:166", after := #[{ on := 6, ground := Ground.data }], guard := none }, { dst := some 65, op := Op.slice 36 (Operand.tmp 62) (some (Operand.tmp 64)) none none, type := 36, pos := "law.go:166", after := #[{ on := 5, ground := Ground.data }, { on := 7, ground := Ground.data }], guard := none }, { dst := some 66, op := Op.call { callee := Callee.builtin Builtin.append, args := #[Operand.tmp 61, Operand.tmp 65], argTypes := #[36, 36] }, type := 36, pos := "law.go:166", after := #[{ on := 4, ground := Ground.data }, { on := 8, ground := Ground.data }, { on := 4, ground := Ground.chain }], guard := none }, { dst := some 4, op := Op.assign (Operand.tmp 66), type := 36, pos := "law.go:166", after := #[{ on := 9, ground := Ground.data }, { on := 9, ground := Ground.chain }, { on := 0, ground := Ground.phase }, { on := 1, ground := Ground.phase }, { on := 2, ground := Ground.phase }, { on := 3, ground := Ground.phase }, { on := 4, ground := Ground.phase }, { on := 5, ground := Ground.phase }, { on := 6, ground := Ground.phase }, { on := 7, ground := Ground.phase }, { on := 8, ground := Ground.phase }, { on := 9, ground := Ground.phase }], guard := none }] true).wp Try.prog Q { tmps := #[x0, x1, x2, x3, .slice ia n c, x5, x6, x7, iv (k : Int), x9, x10, x11, x12, x13, x14, x15, x16, x17, x18, x19, x20, x21, x22, x23, x24, x25, x26, x27, x28, x29, x30, x31, x32, x33, x34, x35, x36, x37, x38, x39, x40, x41, x42, x43, x44, x45, x46, x47, x48, x49, x50, x51, x52, x53, x54, x55, x56, x57, x58, x59, x60, x61, x62, x63, x64, x65, x66, x67, x68, x69, x70, x71, x72, x73, x74, x75, x76, x77, x78, x79, x80, x81, x82, x83, x84, x85, x86, x87, x88, x89, x90, x91, x92, x93, x94, x95, x96, x97, x98, x99, x100, x101, x102, x103, x104, x105, x106, x107, x108, x109, x110, x111, x112, x113, x114, x115, x116, x117, x118, x119, x120, x121, x122, x123, x124, x125, x126, x127, x128, x129, x130, x131, x132, x133, x134, x135, x136, x137, x138, x139, x140, x141, x142, x143, x144, x145, x146, x147, x148, x149, x150, x151, x152, x153, x154, x155, x156, x157, x158, x159, x160, x161, x162, x163, x164, x165, x166, x167, x168], defers := ds } A := by
  refine Code.wp_mono (Q := fun x a' w' => match x with | .normal => Q .normal a' w' | _ => False) (by intro x a' w' h; cases x <;> first | exact h | exact h.elim) ?_
  refine wp_region_held (S := fun V => Below A.heap.size A V) (by kernel_rfl) ?_
  have hS0 : Hid (Below A.heap.size A A.drew) := below_drew0 A
  change wpAnyH Try.prog .any _ _ (fun V => Below A.heap.size A V) 11 (Array.replicate 11 false) _ A.drew
  obtain ⟨V0, hV0⟩ : ∃ V0, A.drew = V0 := ⟨_, rfl⟩
  rw [hV0]
  rw [hV0] at hS0
  clear hV0
  refine wpAnyH_take (i := 1) (oi := { dst := some 58, op := Op.move (Operand.tmp 4), type := 36, pos := "law.go:166", after := #[], guard := none }) (v := .slice ia n c) rfl (by kernel_rfl) (by kernel_rfl) (by kernel_rfl) (fun _ _ _ h => h.elim) (Or.inl ⟨by rfl, ?y1⟩) hS0.out ?_
  case y1 =>
    intro V hV
    go_simp
  simp only [Act.put, List.setIfInBounds_toArray, List.set_cons_zero, List.set_cons_succ]
  refine wpAnyH_take (i := 2) (oi := { dst := some 59, op := Op.move (Operand.tmp 8), type := 3, pos := "law.go:166", after := #[], guard := none }) (v := iv (k : Int)) rfl (by kernel_rfl) (by kernel_rfl) (by kernel_rfl) (fun _ _ _ h => h.elim) (Or.inl ⟨by rfl, ?y2⟩) hS0.out ?_
  case y2 =>
    intro V hV
    go_simp
  simp only [Act.put, List.setIfInBounds_toArray, List.set_cons_zero, List.set_cons_succ]
  refine wpAnyH_take (i := 3) (oi := { dst := some 60, op := Op.slice 36 (Operand.tmp 58) none (some (Operand.tmp 59)) none, type := 36, pos := "law.go:166", after := #[{ on := 1, ground := Ground.data }, { on := 2, ground := Ground.data }], guard := none }) (v := .slice (shA ia 0 c 1) k c) rfl (by kernel_rfl) (by kernel_rfl) (by kernel_rfl) (fun _ _ _ h => h.elim) (Or.inl ⟨by rfl, ?y3⟩) hS0.out ?_
  case y3 =>
    intro V hV
    exact yl_slice V 36 _ _ _ _ rfl (.slice ia n c) none (some (iv (k : Int))) none rfl rfl rfl rfl _ (run_lo36 ia n c k HQ0.out.1 HQ0.out.2 V)
  simp only [Act.put, List.setIfInBounds_toArray, List.set_cons_zero, List.set_cons_succ]
  refine wpAnyH_take (i := 5) (oi := { dst := some 62, op := Op.move (Operand.tmp 4), type := 36, pos := "law.go:166", after := #[], guard := none }) (v := .slice ia n c) rfl (by kernel_rfl) (by kernel_rfl) (by kernel_rfl) (fun _ _ _ h => h.elim) (Or.inl ⟨by rfl, ?y4⟩) hS0.out ?_
  case y4 =>
    intro V hV
    go_simp
  simp only [Act.put, List.setIfInBounds_toArray, List.set_cons_zero, List.set_cons_succ]
  refine wpAnyH_take (i := 6) (oi := { dst := some 63, op := Op.move (Operand.tmp 8), type := 3, pos := "law.go:166", after := #[], guard := none }) (v := iv (k : Int)) rfl (by kernel_rfl) (by kernel_rfl) (by kernel_rfl) (fun _ _ _ h => h.elim) (Or.inl ⟨by rfl, ?y5⟩) hS0.out ?_
  case y5 =>
    intro V hV
    go_simp
  simp only [Act.put, List.setIfInBounds_toArray, List.set_cons_zero, List.set_cons_succ]
  refine wpAnyH_take (i := 7) (oi := { dst := some 64, op := Op.binOp BinOp.add 3 (Operand.tmp 63) (Operand.const (Value.int IntKind.i64 1)) 3, type := 3, pos := "law.go:166", after := #[{ on := 6, ground := Ground.data }], guard := none }) (v := iv (k1 : Int)) rfl (by kernel_rfl) (by kernel_rfl) (by kernel_rfl) (fun _ _ _ h => h.elim) (Or.inl ⟨by rfl, ?y6⟩) hS0.out ?_
  case y6 =>
    intro V hV
    (rw [← qk]; go_simp)
  simp only [Act.put, List.setIfInBounds_toArray, List.set_cons_zero, List.set_cons_succ]
  refine wpAnyH_take (i := 8) (oi := { dst := some 65, op := Op.slice 36 (Operand.tmp 62) (some (Operand.tmp 64)) none none, type := 36, pos := "law.go:166", after := #[{ on := 5, ground := Ground.data }, { on := 7, ground := Ground.data }], guard := none }) (v := .slice (shA ia k1 c 1) (n - k1) (c - k1)) rfl (by kernel_rfl) (by kernel_rfl) (by kernel_rfl) (fun _ _ _ h => h.elim) (Or.inl ⟨by rfl, ?y7⟩) hS0.out ?_
  case y7 =>
    intro V hV
    exact yl_slice V 36 _ _ _ _ rfl (.slice ia n c) (some (iv (k1 : Int))) none none rfl rfl rfl rfl _ (run_hi36 ia n c k1 (by rw [HK.out.1]; exact HK.out.2) V)
  simp only [Act.put, List.setIfInBounds_toArray, List.set_cons_zero, List.set_cons_succ]
  refine wpAnyH_ready (rs := [0]) (by kernel_rfl) (by simp) (AllReadyH.cons (i := 0) (o := { dst := some 57, op := Op.buildSlice 36 0 #[], type := 36, pos := "law.go:166", after := #[], guard := none }) rfl ?_ AllReadyH.nil)
  · intro K1 hK1
    refine step_bz (by rfl) 36 rfl _ _ (bs36z _) ?_
    obtain ⟨V1, hv1⟩ : ∃ V, V0.alloc (.cells #[] 9) = V := ⟨_, rfl⟩
    obtain ⟨r1, hr1⟩ : ∃ m, V0.heap.size = m := ⟨_, rfl⟩
    have hb1 : Below V0.heap.size V0 V1 := by rw [← hv1]; exact below_al _ _
    have hS1 : Hid (Below A.heap.size A V1) := below_tr hS0.out hb1
    have hz1 : Hid (Blk V1 r1 9 [] ∧ A.heap.size ≤ r1) := by
      refine ⟨?_, ?_⟩
      · rw [← hv1, ← hr1]; exact Blk.new V0 _ _
      · rw [← hr1]; exact (hS0.out).size
    have ho1 : Hid (OT9 r1 V1 (.slice (some ⟨r1, 0, none⟩) 0 0) 0 []) := ⟨rfl, .inr ⟨r1, 0, #[], rfl, Nat.le_refl _, hz1.out.1, Nat.le_refl _, by unfold maxLen; omega, rfl, rfl⟩⟩
    rw [hv1, hr1]
    clear hv1 hr1 hb1
    refine hK1.out _ _ hS1.out ?_
    clear hK1
    intro _
    try simp only [Act.put, List.setIfInBounds_toArray, List.set_cons_zero, List.set_cons_succ]
    refine wpAnyH_ready (rs := [4]) (by kernel_rfl) (by simp) (AllReadyH.cons (i := 4) (o := { dst := some 61, op := Op.call { callee := Callee.builtin Builtin.append, args := #[Operand.tmp 57, Operand.tmp 60], argTypes := #[36, 36] }, type := 36, pos := "law.go:166", after := #[{ on := 0, ground := Ground.data }, { on := 3, ground := Ground.data }], guard := none }) rfl ?_ AllReadyH.nil)
    · intro K1 hK1
      obtain ⟨v1, V2, ra2, hw2, hg2⟩ := run_appT V1 r1 36 (.slice (some ⟨r1, 0, none⟩) 0 0) (0) [] ((shA ia 0 c 1)) (k) (c) (xs.take k) (ho1.out) ((HX.out.lo HQ0.out.1).below hS1.out) (by have h1 := HN.out; have h2 := HQ0.out;  omega) (Nat.le_of_lt ((hz1.out).1.lt))
      refine step_ap (by rfl) 36 36 _ _ rfl _ _ rfl rfl _ _ ra2 ?_
      have hS2 : Hid (Below A.heap.size A V2) := (hS1.out).grown hg2 (hS1.out).size (fun k hk => Nat.le_trans (hz1.out).2 (OT9.blk (ho1.out) hk).1)
      have ho2 : Hid (OT9 r1 V2 v1 (0 + (k)) ([] ++ (xs.take k))) := hw2
      have hl2 : Hid (r1 < V2.heap.size) := Nat.lt_of_lt_of_le ((hz1.out).1.lt) hg2.size
      clear ra2 hw2 hg2
      refine hK1.out _ _ hS2.out ?_
      clear hK1
      intro _
      try simp only [Act.put, List.setIfInBounds_toArray, List.set_cons_zero, List.set_cons_succ]
      refine wpAnyH_ready (rs := [9]) (by kernel_rfl) (by simp) (AllReadyH.cons (i := 9) (o := { dst := some 66, op := Op.call { callee := Callee.builtin Builtin.append, args := #[Operand.tmp 61, Operand.tmp 65], argTypes := #[36, 36] }, type := 36, pos := "law.go:166", after := #[{ on := 4, ground := Ground.data }, { on := 8, ground := Ground.data }, { on := 4, ground := Ground.chain }], guard := none }) rfl ?_ AllReadyH.nil)
      · intro K1 hK1
        obtain ⟨v2, V3, ra3, hw3, hg3⟩ := run_appT V2 r1 36 v1 ((0 + (k))) ([] ++ (xs.take k)) ((shA ia k1 c 1)) (n - k1) (c - k1) (xs.drop k1) (ho2.out) ((HX.out.hi (by rw [HK.out.1]; exact HK.out.2) HQ0.out.2).below hS2.out) (by have h1 := HN.out; have h2 := HQ0.out; have h3 := HK.out; omega) (Nat.le_of_lt (hl2.out))
        refine step_ap (by rfl) 36 36 _ _ rfl _ _ rfl rfl _ _ ra3 ?_
        have hS3 : Hid (Below A.heap.size A V3) := (hS2.out).grown hg3 (hS2.out).size (fun k hk => Nat.le_trans (hz1.out).2 (OT9.blk (ho2.out) hk).1)
        have ho3 : Hid (OT9 r1 V3 v2 ((0 + (k)) + (n - k1)) (([] ++ (xs.take k)) ++ (xs.drop k1))) := hw3
        have hl3 : Hid (r1 < V3.heap.size) := Nat.lt_of_lt_of_le (hl2.out) hg3.size
        clear ra3 hw3 hg3
        refine hK1.out _ _ hS3.out ?_
        clear hK1
        intro _
        try simp only [Act.put, List.setIfInBounds_toArray, List.set_cons_zero, List.set_cons_succ]
        refine wpAnyH_take (i := 10) (oi := { dst := some 4, op := Op.assign (Operand.tmp 66), type := 36, pos := "law.go:166", after := #[{ on := 9, ground := Ground.data }, { on := 9, ground := Ground.chain }, { on := 0, ground := Ground.phase }, { on := 1, ground := Ground.phase }, { on := 2, ground := Ground.phase }, { on := 3, ground := Ground.phase }, { on := 4, ground := Ground.phase }, { on := 5, ground := Ground.phase }, { on := 6, ground := Ground.phase }, { on := 7, ground := Ground.phase }, { on := 8, ground := Ground.phase }, { on := 9, ground := Ground.phase }], guard := none }) (v := v2) rfl (by kernel_rfl) (by kernel_rfl) (by kernel_rfl) (fun _ _ _ h => h.elim) (Or.inl ⟨by rfl, ?y8⟩) hS3.out ?_
        case y8 =>
          intro V hV
          go_simp
        simp only [Act.put, List.setIfInBounds_toArray, List.set_cons_zero, List.set_cons_succ]
        refine wpAnyH_done (by kernel_rfl) ?_ _
        exact hQ V3 r1 v1 v2 hS3.out ((ho3.out).lo (hz1.out).2)
set_option maxRecDepth 100000 in
set_option maxHeartbeats 4000000 in
theorem pl15 {Q : Exit → Act → World → Prop} {x0 x1 x2 x3 x4 x6 x7 x9 x10 x11 x12 x13 x14 x15 x16 x17 x18 x19 x20 x21 x22 x23 x24 x25 x26 x27 x28 x29 x30 x31 x32 x33 x34 x35 x36 x37 x38 x39 x40 x41 x42 x43 x44 x45 x46 x47 x48 x49 x50 x51 x52 x53 x54 x55 x56 x57 x58 x59 x60 x61 x62 x63 x64 x65 x66 x67 x68 x69 x70 x71 x72 x73 x74 x75 x76 x77 x78 x79 x80 x81 x82 x83 x84 x85 x86 x87 x88 x89 x90 x91 x92 x93 x94 x95 x96 x97 x98 x99 x100 x101 x102 x103 x104 x105 x106 x107 x108 x109 x110 x111 x112 x113 x114 x115 x116 x117 x118 x119 x120 x121 x122 x123 x124 x125 x126 x127 x128 x129 x130 x131 x132 x133 x134 x135 x136 x137 x138 x139 x140 x141 x142 x143 x144 x145 x146 x147 x148 x149 x150 x151 x152 x153 x154 x155 x156 x157 x158 x159 x160 x161 x162 x163 x164 x165 x166 x167 x168 : Value} {ds : List Deferred} {A : World} {ia : Option Addr} {n c k k1 : Nat} {xs : List Vx}
    (HX : Hid (VsR A ia n xs)) (HQ0 : Hid (k ≤ n ∧ n ≤ c)) (HN : Hid (n ≤ 1000)) (HK : Hid (k1 = k + 1 ∧ k + 1 ≤ n)) (qk : IntKind.i64.wrap ((k : Int) + 1) = (k1 : Int))
    (hQ : ∀ V r1 v1 v2, Below A.heap.size A V → OV A.heap.size V v2 (0 + (k) + (n - k1)) ([] ++ (xs.take k) ++ (xs.drop k1)) → Q .normal { tmps := #[x0, x1, x2, x3, x4, v2, x6, x7, iv (k : Int), x9, x10, x11, x12, x13, x14, x15, x16, x17, x18, x19, x20, x21, x22, x23, x24, x25, x26, x27, x28, x29, x30, x31, x32, x33, x34, x35, x36, x37, x38, x39, x40, x41, x42, x43, x44, x45, x46, x47, x48, x49, x50, x51, x52, x53, x54, x55, x56, x57, x58, x59, x60, x61, x62, x63, x64, x65, x66, .slice (some ⟨r1, 0, none⟩) 0 0, .slice ia n c, iv (k : Int), .slice (shA ia 0 c 33) k c, v1, .slice ia n c, iv (k : Int), iv (k1 : Int), .slice (shA ia k1 c 33) (n - k1) (c - k1), v2, x77, x78, x79, x80, x81, x82, x83, x84, x85, x86, x87, x88, x89, x90, x91, x92, x93, x94, x95, x96, x97, x98, x99, x100, x101, x102, x103, x104, x105, x106, x107, x108, x109, x110, x111, x112, x113, x114, x115, x116, x117, x118, x119, x120, x121, x122, x123, x124, x125, x126, x127, x128, x129, x130, x131, x132, x133, x134, x135, x136, x137, x138, x139, x140, x141, x142, x143, x144, x145, x146, x147, x148, x149, x150, x151, x152, x153, x154, x155, x156, x157, x158, x159, x160, x161, x162, x163, x164, x165, x166, x167, x168], defers := ds } V) :
    (Code.region 15 #[{ dst := some 67, op := Op.buildSlice 35 0 #[], type := 35, pos := "law.go:167", after := #[], guard := none }, { dst := some 68, op := Op.move (Operand.tmp 5), type := 35, pos := "law.go:167", after := #[], guard := none }, { dst := some 69, op := Op.move (Operand.tmp 8), type := 3, pos := "law.go:167", after := #[], guard := none }, { dst := some 70, op := Op.slice 35 (Operand.tmp 68) none (some (Operand.tmp 69)) none, type := 35, pos := "law.go:167", after := #[{ on := 1, ground := Ground.data }, { on := 2, ground := Ground.data }], guard := none }, { dst := some 71, op := Op.call { callee := Callee.builtin Builtin.append, args := #[Operand.tmp 67, Operand.tmp 70], argTypes := #[35, 35] }, type := 35, pos := "law.go:167", after := #[{ on := 0, ground := Ground.data }, { on := 3, ground := Ground.data }], guard := none }, { dst := some 72, op := Op.move (Operand.tmp 5), type := 35, pos := "law.go:167", after := #[], guard := none }, { dst := some 73, op := Op.move (Operand.tmp 8), type := 3, pos := "law.go:167", after := #[], guard := none }, { dst := some 74, op := Op.binOp BinOp.add 3 (Operand.tmp 73) (Operand.const (Value.int IntKind.i64 1)) 3, type := 3, pos := "law.go:167", after := #[{ on := 6, ground := Ground.data }], guard := none }, { dst := some 75, op := Op.slice 35 (Operand.tmp 72) (some (Operand.tmp 74)) none none, type := 35, pos := "law.go:167", after := #[{ on := 5, ground := Ground.data }, { on := 7, ground := Ground.data }], guard := none }, { dst := some 76, op := Op.call { callee := Callee.builtin Builtin.append, args := #[Operand.tmp 71, Operand.tmp 75], argTypes := #[35, 35] }, type := 35, pos := "law.go:167", after := #[{ on := 4, ground := Ground.data }, { on := 8, ground := Ground.data }, { on := 4, ground := Ground.chain }], guard := none }, { dst := some 5, op := Op.assign (Operand.tmp 76), type := 35, pos := "law.go:167", after := #[{ on := 9, ground := Ground.data }, { on := 9, ground := Ground.chain }, { on := 0, ground := Ground.phase }, { on := 1, ground := Ground.phase }, { on := 2, ground := Ground.phase }, { on := 3, ground := Ground.phase }, { on := 4, ground := Ground.phase }, { on := 5, ground := Ground.phase }, { on := 6, ground := Ground.phase }, { on := 7, ground := Ground.phase }, { on := 8, ground := Ground.phase }, { on := 9, ground := Ground.phase }], guard := none }] true).wp Try.prog Q { tmps := #[x0, x1, x2, x3, x4, .slice ia n c, x6, x7, iv (k : Int), x9, x10, x11, x12, x13, x14, x15, x16, x17, x18, x19, x20, x21, x22, x23, x24, x25, x26, x27, x28, x29, x30, x31, x32, x33, x34, x35, x36, x37, x38, x39, x40, x41, x42, x43, x44, x45, x46, x47, x48, x49, x50, x51, x52, x53, x54, x55, x56, x57, x58, x59, x60, x61, x62, x63, x64, x65, x66, x67, x68, x69, x70, x71, x72, x73, x74, x75, x76, x77, x78, x79, x80, x81, x82, x83, x84, x85, x86, x87, x88, x89, x90, x91, x92, x93, x94, x95, x96, x97, x98, x99, x100, x101, x102, x103, x104, x105, x106, x107, x108, x109, x110, x111, x112, x113, x114, x115, x116, x117, x118, x119, x120, x121, x122, x123, x124, x125, x126, x127, x128, x129, x130, x131, x132, x133, x134, x135, x136, x137, x138, x139, x140, x141, x142, x143, x144, x145, x146, x147, x148, x149, x150, x151, x152, x153, x154, x155, x156, x157, x158, x159, x160, x161, x162, x163, x164, x165, x166, x167, x168], defers := ds } A := by
  refine Code.wp_mono (Q := fun x a' w' => match x with | .normal => Q .normal a' w' | _ => False) (by intro x a' w' h; cases x <;> first | exact h | exact h.elim) ?_
  refine wp_region_held (S := fun V => Below A.heap.size A V) (by kernel_rfl) ?_
  have hS0 : Hid (Below A.heap.size A A.drew) := below_drew0 A
  change wpAnyH Try.prog .any _ _ (fun V => Below A.heap.size A V) 11 (Array.replicate 11 false) _ A.drew
  obtain ⟨V0, hV0⟩ : ∃ V0, A.drew = V0 := ⟨_, rfl⟩
  rw [hV0]
  rw [hV0] at hS0
  clear hV0
  refine wpAnyH_take (i := 1) (oi := { dst := some 68, op := Op.move (Operand.tmp 5), type := 35, pos := "law.go:167", after := #[], guard := none }) (v := .slice ia n c) rfl (by kernel_rfl) (by kernel_rfl) (by kernel_rfl) (fun _ _ _ h => h.elim) (Or.inl ⟨by rfl, ?y1⟩) hS0.out ?_
  case y1 =>
    intro V hV
    go_simp
  simp only [Act.put, List.setIfInBounds_toArray, List.set_cons_zero, List.set_cons_succ]
  refine wpAnyH_take (i := 2) (oi := { dst := some 69, op := Op.move (Operand.tmp 8), type := 3, pos := "law.go:167", after := #[], guard := none }) (v := iv (k : Int)) rfl (by kernel_rfl) (by kernel_rfl) (by kernel_rfl) (fun _ _ _ h => h.elim) (Or.inl ⟨by rfl, ?y2⟩) hS0.out ?_
  case y2 =>
    intro V hV
    go_simp
  simp only [Act.put, List.setIfInBounds_toArray, List.set_cons_zero, List.set_cons_succ]
  refine wpAnyH_take (i := 3) (oi := { dst := some 70, op := Op.slice 35 (Operand.tmp 68) none (some (Operand.tmp 69)) none, type := 35, pos := "law.go:167", after := #[{ on := 1, ground := Ground.data }, { on := 2, ground := Ground.data }], guard := none }) (v := .slice (shA ia 0 c 33) k c) rfl (by kernel_rfl) (by kernel_rfl) (by kernel_rfl) (fun _ _ _ h => h.elim) (Or.inl ⟨by rfl, ?y3⟩) hS0.out ?_
  case y3 =>
    intro V hV
    exact yl_slice V 35 _ _ _ _ rfl (.slice ia n c) none (some (iv (k : Int))) none rfl rfl rfl rfl _ (run_lo35 ia n c k HQ0.out.1 HQ0.out.2 V)
  simp only [Act.put, List.setIfInBounds_toArray, List.set_cons_zero, List.set_cons_succ]
  refine wpAnyH_take (i := 5) (oi := { dst := some 72, op := Op.move (Operand.tmp 5), type := 35, pos := "law.go:167", after := #[], guard := none }) (v := .slice ia n c) rfl (by kernel_rfl) (by kernel_rfl) (by kernel_rfl) (fun _ _ _ h => h.elim) (Or.inl ⟨by rfl, ?y4⟩) hS0.out ?_
  case y4 =>
    intro V hV
    go_simp
  simp only [Act.put, List.setIfInBounds_toArray, List.set_cons_zero, List.set_cons_succ]
  refine wpAnyH_take (i := 6) (oi := { dst := some 73, op := Op.move (Operand.tmp 8), type := 3, pos := "law.go:167", after := #[], guard := none }) (v := iv (k : Int)) rfl (by kernel_rfl) (by kernel_rfl) (by kernel_rfl) (fun _ _ _ h => h.elim) (Or.inl ⟨by rfl, ?y5⟩) hS0.out ?_
  case y5 =>
    intro V hV
    go_simp
  simp only [Act.put, List.setIfInBounds_toArray, List.set_cons_zero, List.set_cons_succ]
  refine wpAnyH_take (i := 7) (oi := { dst := some 74, op := Op.binOp BinOp.add 3 (Operand.tmp 73) (Operand.const (Value.int IntKind.i64 1)) 3, type := 3, pos := "law.go:167", after := #[{ on := 6, ground := Ground.data }], guard := none }) (v := iv (k1 : Int)) rfl (by kernel_rfl) (by kernel_rfl) (by kernel_rfl) (fun _ _ _ h => h.elim) (Or.inl ⟨by rfl, ?y6⟩) hS0.out ?_
  case y6 =>
    intro V hV
    (rw [← qk]; go_simp)
  simp only [Act.put, List.setIfInBounds_toArray, List.set_cons_zero, List.set_cons_succ]
  refine wpAnyH_take (i := 8) (oi := { dst := some 75, op := Op.slice 35 (Operand.tmp 72) (some (Operand.tmp 74)) none none, type := 35, pos := "law.go:167", after := #[{ on := 5, ground := Ground.data }, { on := 7, ground := Ground.data }], guard := none }) (v := .slice (shA ia k1 c 33) (n - k1) (c - k1)) rfl (by kernel_rfl) (by kernel_rfl) (by kernel_rfl) (fun _ _ _ h => h.elim) (Or.inl ⟨by rfl, ?y7⟩) hS0.out ?_
  case y7 =>
    intro V hV
    exact yl_slice V 35 _ _ _ _ rfl (.slice ia n c) (some (iv (k1 : Int))) none none rfl rfl rfl rfl _ (run_hi35 ia n c k1 (by rw [HK.out.1]; exact HK.out.2) V)
  simp only [Act.put, List.setIfInBounds_toArray, List.set_cons_zero, List.set_cons_succ]
  refine wpAnyH_ready (rs := [0]) (by kernel_rfl) (by simp) (AllReadyH.cons (i := 0) (o := { dst := some 67, op := Op.buildSlice 35 0 #[], type := 35, pos := "law.go:167", after := #[], guard := none }) rfl ?_ AllReadyH.nil)
  · intro K1 hK1
    refine step_bz (by rfl) 35 rfl _ _ (bs35z _) ?_
    obtain ⟨V1, hv1⟩ : ∃ V, V0.alloc (.cells #[] 34) = V := ⟨_, rfl⟩
    obtain ⟨r1, hr1⟩ : ∃ m, V0.heap.size = m := ⟨_, rfl⟩
    have hb1 : Below V0.heap.size V0 V1 := by rw [← hv1]; exact below_al _ _
    have hS1 : Hid (Below A.heap.size A V1) := below_tr hS0.out hb1
    have hz1 : Hid (Blk V1 r1 34 [] ∧ A.heap.size ≤ r1) := by
      refine ⟨?_, ?_⟩
      · rw [← hv1, ← hr1]; exact Blk.new V0 _ _
      · rw [← hr1]; exact (hS0.out).size
    have ho1 : Hid (OV r1 V1 (.slice (some ⟨r1, 0, none⟩) 0 0) 0 []) := ⟨⟨rfl, .inr ⟨r1, 0, #[], rfl, Nat.le_refl _, hz1.out.1, Nat.le_refl _, by unfold maxLen; omega, rfl, rfl⟩⟩, by simp⟩
    rw [hv1, hr1]
    clear hv1 hr1 hb1
    refine hK1.out _ _ hS1.out ?_
    clear hK1
    intro _
    try simp only [Act.put, List.setIfInBounds_toArray, List.set_cons_zero, List.set_cons_succ]
    refine wpAnyH_ready (rs := [4]) (by kernel_rfl) (by simp) (AllReadyH.cons (i := 4) (o := { dst := some 71, op := Op.call { callee := Callee.builtin Builtin.append, args := #[Operand.tmp 67, Operand.tmp 70], argTypes := #[35, 35] }, type := 35, pos := "law.go:167", after := #[{ on := 0, ground := Ground.data }, { on := 3, ground := Ground.data }], guard := none }) rfl ?_ AllReadyH.nil)
    · intro K1 hK1
      obtain ⟨v1, V2, ra2, hw2, hg2, _⟩ := run_app V1 r1 35 (.slice (some ⟨r1, 0, none⟩) 0 0) (0) [] ((shA ia 0 c 33)) (k) (c) (xs.take k) (ho1.out) ((HX.out.lo HQ0.out.1).below hS1.out) (by have h1 := HN.out; have h2 := HQ0.out;  omega) (Nat.le_of_lt ((hz1.out).1.lt))
      refine step_ap (by rfl) 35 35 _ _ rfl _ _ rfl rfl _ _ ra2 ?_
      have hS2 : Hid (Below A.heap.size A V2) := (hS1.out).grown hg2 (hS1.out).size (fun k hk => Nat.le_trans (hz1.out).2 (OV.own (ho1.out) hk).1)
      have ho2 : Hid (OV r1 V2 v1 (0 + (k)) ([] ++ (xs.take k))) := hw2
      have hl2 : Hid (r1 < V2.heap.size) := Nat.lt_of_lt_of_le ((hz1.out).1.lt) hg2.size
      clear ra2 hw2 hg2
      refine hK1.out _ _ hS2.out ?_
      clear hK1
      intro _
      try simp only [Act.put, List.setIfInBounds_toArray, List.set_cons_zero, List.set_cons_succ]
      refine wpAnyH_ready (rs := [9]) (by kernel_rfl) (by simp) (AllReadyH.cons (i := 9) (o := { dst := some 76, op := Op.call { callee := Callee.builtin Builtin.append, args := #[Operand.tmp 71, Operand.tmp 75], argTypes := #[35, 35] }, type := 35, pos := "law.go:167", after := #[{ on := 4, ground := Ground.data }, { on := 8, ground := Ground.data }, { on := 4, ground := Ground.chain }], guard := none }) rfl ?_ AllReadyH.nil)
      · intro K1 hK1
        obtain ⟨v2, V3, ra3, hw3, hg3, _⟩ := run_app V2 r1 35 v1 ((0 + (k))) ([] ++ (xs.take k)) ((shA ia k1 c 33)) (n - k1) (c - k1) (xs.drop k1) (ho2.out) ((HX.out.hi (by rw [HK.out.1]; exact HK.out.2) HQ0.out.2).below hS2.out) (by have h1 := HN.out; have h2 := HQ0.out; have h3 := HK.out; omega) (Nat.le_of_lt (hl2.out))
        refine step_ap (by rfl) 35 35 _ _ rfl _ _ rfl rfl _ _ ra3 ?_
        have hS3 : Hid (Below A.heap.size A V3) := (hS2.out).grown hg3 (hS2.out).size (fun k hk => Nat.le_trans (hz1.out).2 (OV.own (ho2.out) hk).1)
        have ho3 : Hid (OV r1 V3 v2 ((0 + (k)) + (n - k1)) (([] ++ (xs.take k)) ++ (xs.drop k1))) := hw3
        have hl3 : Hid (r1 < V3.heap.size) := Nat.lt_of_lt_of_le (hl2.out) hg3.size
        clear ra3 hw3 hg3
        refine hK1.out _ _ hS3.out ?_
        clear hK1
        intro _
        try simp only [Act.put, List.setIfInBounds_toArray, List.set_cons_zero, List.set_cons_succ]
        refine wpAnyH_take (i := 10) (oi := { dst := some 5, op := Op.assign (Operand.tmp 76), type := 35, pos := "law.go:167", after := #[{ on := 9, ground := Ground.data }, { on := 9, ground := Ground.chain }, { on := 0, ground := Ground.phase }, { on := 1, ground := Ground.phase }, { on := 2, ground := Ground.phase }, { on := 3, ground := Ground.phase }, { on := 4, ground := Ground.phase }, { on := 5, ground := Ground.phase }, { on := 6, ground := Ground.phase }, { on := 7, ground := Ground.phase }, { on := 8, ground := Ground.phase }, { on := 9, ground := Ground.phase }], guard := none }) (v := v2) rfl (by kernel_rfl) (by kernel_rfl) (by kernel_rfl) (fun _ _ _ h => h.elim) (Or.inl ⟨by rfl, ?y8⟩) hS3.out ?_
        case y8 =>
          intro V hV
          go_simp
        simp only [Act.put, List.setIfInBounds_toArray, List.set_cons_zero, List.set_cons_succ]
        refine wpAnyH_done (by kernel_rfl) ?_ _
        exact hQ V3 r1 v1 v2 hS3.out ((ho3.out).lo (hz1.out).2)
set_option maxRecDepth 100000 in
set_option maxHeartbeats 4000000 in
theorem pl31 {Q : Exit → Act → World → Prop} {x0 x1 x2 x3 x5 x6 x7 x9 x10 x11 x12 x14 x15 x16 x17 x18 x19 x20 x21 x22 x23 x24 x25 x26 x27 x28 x29 x30 x31 x32 x33 x34 x35 x36 x37 x38 x39 x40 x41 x42 x43 x44 x45 x46 x47 x48 x49 x50 x51 x52 x53 x54 x55 x56 x57 x58 x59 x60 x61 x62 x63 x64 x65 x66 x67 x68 x69 x70 x71 x72 x73 x74 x75 x76 x77 x78 x79 x80 x81 x82 x83 x84 x85 x86 x87 x88 x89 x90 x91 x92 x93 x94 x95 x96 x97 x98 x99 x100 x101 x102 x103 x104 x105 x106 x107 x108 x109 x110 x111 x112 x113 x114 x115 x116 x117 x118 x119 x120 x121 x122 x123 x124 x125 x126 x127 x128 x129 x130 x131 x132 x133 x134 x135 x136 x137 x138 x139 x140 x141 x142 x143 x144 x145 x146 x147 x148 x149 x150 x151 x152 x153 x154 x155 x156 x157 x158 x159 x160 x161 x162 x163 x164 x165 x166 x167 x168 : Value} {ds : List Deferred} {A : World} {ia la : Option Addr} {n c k m lc : Nat} {xs ls : List BA}
    (HX : Hid (TsR A ia n xs)) (HQ0 : Hid (k ≤ n ∧ n ≤ c)) (HN : Hid (n + m ≤ 1000)) (HLS : Hid (TsR A la m ls))
    (hQ : ∀ V r1 v1 v2 v3, Below A.heap.size A V → OT9 A.heap.size V v3 (0 + (k) + (m) + (n - k)) ([] ++ (xs.take k) ++ (ls) ++ (xs.drop k)) → Q .normal { tmps := #[x0, x1, x2, x3, v3, x5, x6, x7, iv (k : Int), x9, x10, x11, x12, .slice la m lc, x14, x15, x16, x17, x18, x19, x20, x21, x22, x23, x24, x25, x26, x27, x28, x29, x30, x31, x32, x33, x34, x35, x36, x37, x38, x39, x40, x41, x42, x43, x44, x45, x46, x47, x48, x49, x50, x51, x52, x53, x54, x55, x56, x57, x58, x59, x60, x61, x62, x63, x64, x65, x66, x67, x68, x69, x70, x71, x72, x73, x74, x75, x76, x77, x78, x79, x80, x81, x82, x83, x84, x85, x86, x87, x88, x89, x90, x91, x92, x93, x94, x95, x96, x97, x98, x99, x100, x101, x102, x103, x104, x105, x106, x107, x108, x109, x110, x111, x112, x113, x114, x115, x116, x117, x118, x119, x120, x121, x122, x123, x124, x125, x126, x127, x128, .slice (some ⟨r1, 0, none⟩) 0 0, .slice ia n c, iv (k : Int), .slice (shA ia 0 c 1) k c, v1, .slice la m lc, v2, .slice ia n c, iv (k : Int), .slice (shA ia k c 1) (n - k) (c - k), v3, x140, x141, x142, x143, x144, x145, x146, x147, x148, x149, x150, x151, x152, x153, x154, x155, x156, x157, x158, x159, x160, x161, x162, x163, x164, x165, x166, x167, x168], defers := ds } V) :
    (Code.region 31 #[{ dst := some 129, op := Op.buildSlice 36 0 #[], type := 36, pos := "law.go:188", after := #[], guard := none }, { dst := some 130, op := Op.move (Operand.tmp 4), type := 36, pos := "law.go:188", after := #[], guard := none }, { dst := some 131, op := Op.move (Operand.tmp 8), type := 3, pos := "law.go:188", after := #[], guard := none }, { dst := some 132, op := Op.slice 36 (Operand.tmp 130) none (some (Operand.tmp 131)) none, type := 36, pos := "law.go:188", after := #[{ on := 1, ground := Ground.data }, { on := 2, ground := Ground.data }], guard := none }, { dst := some 133, op := Op.call { callee := Callee.builtin Builtin.append, args := #[Operand.tmp 129, Operand.tmp 132], argTypes := #[36, 36] }, type := 36, pos := "law.go:188", after := #[{ on := 0, ground := Ground.data }, { on := 3, ground := Ground.data }], guard := none }, { dst := some 134, op := Op.move (Operand.tmp 13), type := 36, pos := "law.go:188", after := #[], guard := none }, { dst := some 135, op := Op.call { callee := Callee.builtin Builtin.append, args := #[Operand.tmp 133, Operand.tmp 134], argTypes := #[36, 36] }, type := 36, pos := "law.go:188", after := #[{ on := 4, ground := Ground.data }, { on := 5, ground := Ground.data }, { on := 4, ground := Ground.chain }], guard := none }, { dst := some 136, op := Op.move (Operand.tmp 4), type := 36, pos := "law.go:188", after := #[], guard := none }, { dst := some 137, op := Op.move (Operand.tmp 8), type := 3, pos := "law.go:188", after := #[], guard := none }, { dst := some 138, op := Op.slice 36 (Operand.tmp 136) (some (Operand.tmp 137)) none none, type := 36, pos := "law.go:188", after := #[{ on := 7, ground := Ground.data }, { on := 8, ground := Ground.data }], guard := none }, { dst := some 139, op := Op.call { callee := Callee.builtin Builtin.append, args := #[Operand.tmp 135, Operand.tmp 138], argTypes := #[36, 36] }, type := 36, pos := "law.go:188", after := #[{ on := 6, ground := Ground.data }, { on := 9, ground := Ground.data }, { on := 6, ground := Ground.chain }], guard := none }, { dst := some 4, op := Op.assign (Operand.tmp 139), type := 36, pos := "law.go:188", after := #[{ on := 10, ground := Ground.data }, { on := 10, ground := Ground.chain }, { on := 0, ground := Ground.phase }, { on := 1, ground := Ground.phase }, { on := 2, ground := Ground.phase }, { on := 3, ground := Ground.phase }, { on := 4, ground := Ground.phase }, { on := 5, ground := Ground.phase }, { on := 6, ground := Ground.phase }, { on := 7, ground := Ground.phase }, { on := 8, ground := Ground.phase }, { on := 9, ground := Ground.phase }, { on := 10, ground := Ground.phase }], guard := none }] true).wp Try.prog Q { tmps := #[x0, x1, x2, x3, .slice ia n c, x5, x6, x7, iv (k : Int), x9, x10, x11, x12, .slice la m lc, x14, x15, x16, x17, x18, x19, x20, x21, x22, x23, x24, x25, x26, x27, x28, x29, x30, x31, x32, x33, x34, x35, x36, x37, x38, x39, x40, x41, x42, x43, x44, x45, x46, x47, x48, x49, x50, x51, x52, x53, x54, x55, x56, x57, x58, x59, x60, x61, x62, x63, x64, x65, x66, x67, x68, x69, x70, x71, x72, x73, x74, x75, x76, x77, x78, x79, x80, x81, x82, x83, x84, x85, x86, x87, x88, x89, x90, x91, x92, x93, x94, x95, x96, x97, x98, x99, x100, x101, x102, x103, x104, x105, x106, x107, x108, x109, x110, x111, x112, x113, x114, x115, x116, x117, x118, x119, x120, x121, x122, x123, x124, x125, x126, x127, x128, x129, x130, x131, x132, x133, x134, x135, x136, x137, x138, x139, x140, x141, x142, x143, x144, x145, x146, x147, x148, x149, x150, x151, x152, x153, x154, x155, x156, x157, x158, x159, x160, x161, x162, x163, x164, x165, x166, x167, x168], defers := ds } A := by
  refine Code.wp_mono (Q := fun x a' w' => match x with | .normal => Q .normal a' w' | _ => False) (by intro x a' w' h; cases x <;> first | exact h | exact h.elim) ?_
  refine wp_region_held (S := fun V => Below A.heap.size A V) (by kernel_rfl) ?_
  have hS0 : Hid (Below A.heap.size A A.drew) := below_drew0 A
  change wpAnyH Try.prog .any _ _ (fun V => Below A.heap.size A V) 12 (Array.replicate 12 false) _ A.drew
  obtain ⟨V0, hV0⟩ : ∃ V0, A.drew = V0 := ⟨_, rfl⟩
  rw [hV0]
  rw [hV0] at hS0
  clear hV0
  refine wpAnyH_take (i := 1) (oi := { dst := some 130, op := Op.move (Operand.tmp 4), type := 36, pos := "law.go:188", after := #[], guard := none }) (v := .slice ia n c) rfl (by kernel_rfl) (by kernel_rfl) (by kernel_rfl) (fun _ _ _ h => h.elim) (Or.inl ⟨by rfl, ?y1⟩) hS0.out ?_
  case y1 =>
    intro V hV
    go_simp
  simp only [Act.put, List.setIfInBounds_toArray, List.set_cons_zero, List.set_cons_succ]
  refine wpAnyH_take (i := 2) (oi := { dst := some 131, op := Op.move (Operand.tmp 8), type := 3, pos := "law.go:188", after := #[], guard := none }) (v := iv (k : Int)) rfl (by kernel_rfl) (by kernel_rfl) (by kernel_rfl) (fun _ _ _ h => h.elim) (Or.inl ⟨by rfl, ?y2⟩) hS0.out ?_
  case y2 =>
    intro V hV
    go_simp
  simp only [Act.put, List.setIfInBounds_toArray, List.set_cons_zero, List.set_cons_succ]
  refine wpAnyH_take (i := 3) (oi := { dst := some 132, op := Op.slice 36 (Operand.tmp 130) none (some (Operand.tmp 131)) none, type := 36, pos := "law.go:188", after := #[{ on := 1, ground := Ground.data }, { on := 2, ground := Ground.data }], guard := none }) (v := .slice (shA ia 0 c 1) k c) rfl (by kernel_rfl) (by kernel_rfl) (by kernel_rfl) (fun _ _ _ h => h.elim) (Or.inl ⟨by rfl, ?y3⟩) hS0.out ?_
  case y3 =>
    intro V hV
    exact yl_slice V 36 _ _ _ _ rfl (.slice ia n c) none (some (iv (k : Int))) none rfl rfl rfl rfl _ (run_lo36 ia n c k HQ0.out.1 HQ0.out.2 V)
  simp only [Act.put, List.setIfInBounds_toArray, List.set_cons_zero, List.set_cons_succ]
  refine wpAnyH_take (i := 5) (oi := { dst := some 134, op := Op.move (Operand.tmp 13), type := 36, pos := "law.go:188", after := #[], guard := none }) (v := .slice la m lc) rfl (by kernel_rfl) (by kernel_rfl) (by kernel_rfl) (fun _ _ _ h => h.elim) (Or.inl ⟨by rfl, ?y4⟩) hS0.out ?_
  case y4 =>
    intro V hV
    go_simp
  simp only [Act.put, List.setIfInBounds_toArray, List.set_cons_zero, List.set_cons_succ]
  refine wpAnyH_take (i := 7) (oi := { dst := some 136, op := Op.move (Operand.tmp 4), type := 36, pos := "law.go:188", after := #[], guard := none }) (v := .slice ia n c) rfl (by kernel_rfl) (by kernel_rfl) (by kernel_rfl) (fun _ _ _ h => h.elim) (Or.inl ⟨by rfl, ?y5⟩) hS0.out ?_
  case y5 =>
    intro V hV
    go_simp
  simp only [Act.put, List.setIfInBounds_toArray, List.set_cons_zero, List.set_cons_succ]
  refine wpAnyH_take (i := 8) (oi := { dst := some 137, op := Op.move (Operand.tmp 8), type := 3, pos := "law.go:188", after := #[], guard := none }) (v := iv (k : Int)) rfl (by kernel_rfl) (by kernel_rfl) (by kernel_rfl) (fun _ _ _ h => h.elim) (Or.inl ⟨by rfl, ?y6⟩) hS0.out ?_
  case y6 =>
    intro V hV
    go_simp
  simp only [Act.put, List.setIfInBounds_toArray, List.set_cons_zero, List.set_cons_succ]
  refine wpAnyH_take (i := 9) (oi := { dst := some 138, op := Op.slice 36 (Operand.tmp 136) (some (Operand.tmp 137)) none none, type := 36, pos := "law.go:188", after := #[{ on := 7, ground := Ground.data }, { on := 8, ground := Ground.data }], guard := none }) (v := .slice (shA ia k c 1) (n - k) (c - k)) rfl (by kernel_rfl) (by kernel_rfl) (by kernel_rfl) (fun _ _ _ h => h.elim) (Or.inl ⟨by rfl, ?y7⟩) hS0.out ?_
  case y7 =>
    intro V hV
    exact yl_slice V 36 _ _ _ _ rfl (.slice ia n c) (some (iv (k : Int))) none none rfl rfl rfl rfl _ (run_hi36 ia n c k HQ0.out.1 V)
  simp only [Act.put, List.setIfInBounds_toArray, List.set_cons_zero, List.set_cons_succ]
  refine wpAnyH_ready (rs := [0]) (by kernel_rfl) (by simp) (AllReadyH.cons (i := 0) (o := { dst := some 129, op := Op.buildSlice 36 0 #[], type := 36, pos := "law.go:188", after := #[], guard := none }) rfl ?_ AllReadyH.nil)
  · intro K1 hK1
    refine step_bz (by rfl) 36 rfl _ _ (bs36z _) ?_
    obtain ⟨V1, hv1⟩ : ∃ V, V0.alloc (.cells #[] 9) = V := ⟨_, rfl⟩
    obtain ⟨r1, hr1⟩ : ∃ m, V0.heap.size = m := ⟨_, rfl⟩
    have hb1 : Below V0.heap.size V0 V1 := by rw [← hv1]; exact below_al _ _
    have hS1 : Hid (Below A.heap.size A V1) := below_tr hS0.out hb1
    have hz1 : Hid (Blk V1 r1 9 [] ∧ A.heap.size ≤ r1) := by
      refine ⟨?_, ?_⟩
      · rw [← hv1, ← hr1]; exact Blk.new V0 _ _
      · rw [← hr1]; exact (hS0.out).size
    have ho1 : Hid (OT9 r1 V1 (.slice (some ⟨r1, 0, none⟩) 0 0) 0 []) := ⟨rfl, .inr ⟨r1, 0, #[], rfl, Nat.le_refl _, hz1.out.1, Nat.le_refl _, by unfold maxLen; omega, rfl, rfl⟩⟩
    rw [hv1, hr1]
    clear hv1 hr1 hb1
    refine hK1.out _ _ hS1.out ?_
    clear hK1
    intro _
    try simp only [Act.put, List.setIfInBounds_toArray, List.set_cons_zero, List.set_cons_succ]
    refine wpAnyH_ready (rs := [4]) (by kernel_rfl) (by simp) (AllReadyH.cons (i := 4) (o := { dst := some 133, op := Op.call { callee := Callee.builtin Builtin.append, args := #[Operand.tmp 129, Operand.tmp 132], argTypes := #[36, 36] }, type := 36, pos := "law.go:188", after := #[{ on := 0, ground := Ground.data }, { on := 3, ground := Ground.data }], guard := none }) rfl ?_ AllReadyH.nil)
    · intro K1 hK1
      obtain ⟨v1, V2, ra2, hw2, hg2⟩ := run_appT V1 r1 36 (.slice (some ⟨r1, 0, none⟩) 0 0) (0) [] ((shA ia 0 c 1)) (k) (c) (xs.take k) (ho1.out) ((HX.out.lo HQ0.out.1).below hS1.out) (by have h1 := HN.out; have h2 := HQ0.out;  omega) (Nat.le_of_lt ((hz1.out).1.lt))
      refine step_ap (by rfl) 36 36 _ _ rfl _ _ rfl rfl _ _ ra2 ?_
      have hS2 : Hid (Below A.heap.size A V2) := (hS1.out).grown hg2 (hS1.out).size (fun k hk => Nat.le_trans (hz1.out).2 (OT9.blk (ho1.out) hk).1)
      have ho2 : Hid (OT9 r1 V2 v1 (0 + (k)) ([] ++ (xs.take k))) := hw2
      have hl2 : Hid (r1 < V2.heap.size) := Nat.lt_of_lt_of_le ((hz1.out).1.lt) hg2.size
      clear ra2 hw2 hg2
      refine hK1.out _ _ hS2.out ?_
      clear hK1
      intro _
      try simp only [Act.put, List.setIfInBounds_toArray, List.set_cons_zero, List.set_cons_succ]
      refine wpAnyH_ready (rs := [6]) (by kernel_rfl) (by simp) (AllReadyH.cons (i := 6) (o := { dst := some 135, op := Op.call { callee := Callee.builtin Builtin.append, args := #[Operand.tmp 133, Operand.tmp 134], argTypes := #[36, 36] }, type := 36, pos := "law.go:188", after := #[{ on := 4, ground := Ground.data }, { on := 5, ground := Ground.data }, { on := 4, ground := Ground.chain }], guard := none }) rfl ?_ AllReadyH.nil)
      · intro K1 hK1
        obtain ⟨v2, V3, ra3, hw3, hg3⟩ := run_appT V2 r1 36 v1 ((0 + (k))) ([] ++ (xs.take k)) (la) (m) (lc) (ls) (ho2.out) ((HLS.out).below hS2.out) (by have h1 := HN.out; have h2 := HQ0.out;  omega) (Nat.le_of_lt (hl2.out))
        refine step_ap (by rfl) 36 36 _ _ rfl _ _ rfl rfl _ _ ra3 ?_
        have hS3 : Hid (Below A.heap.size A V3) := (hS2.out).grown hg3 (hS2.out).size (fun k hk => Nat.le_trans (hz1.out).2 (OT9.blk (ho2.out) hk).1)
        have ho3 : Hid (OT9 r1 V3 v2 ((0 + (k)) + (m)) (([] ++ (xs.take k)) ++ (ls))) := hw3
        have hl3 : Hid (r1 < V3.heap.size) := Nat.lt_of_lt_of_le (hl2.out) hg3.size
        clear ra3 hw3 hg3
        refine hK1.out _ _ hS3.out ?_
        clear hK1
        intro _
        try simp only [Act.put, List.setIfInBounds_toArray, List.set_cons_zero, List.set_cons_succ]
        refine wpAnyH_ready (rs := [10]) (by kernel_rfl) (by simp) (AllReadyH.cons (i := 10) (o := { dst := some 139, op := Op.call { callee := Callee.builtin Builtin.append, args := #[Operand.tmp 135, Operand.tmp 138], argTypes := #[36, 36] }, type := 36, pos := "law.go:188", after := #[{ on := 6, ground := Ground.data }, { on := 9, ground := Ground.data }, { on := 6, ground := Ground.chain }], guard := none }) rfl ?_ AllReadyH.nil)
        · intro K1 hK1
          obtain ⟨v3, V4, ra4, hw4, hg4⟩ := run_appT V3 r1 36 v2 (((0 + (k)) + (m))) (([] ++ (xs.take k)) ++ (ls)) ((shA ia k c 1)) (n - k) (c - k) (xs.drop k) (ho3.out) ((HX.out.hi HQ0.out.1 HQ0.out.2).below hS3.out) (by have h1 := HN.out; have h2 := HQ0.out;  omega) (Nat.le_of_lt (hl3.out))
          refine step_ap (by rfl) 36 36 _ _ rfl _ _ rfl rfl _ _ ra4 ?_
          have hS4 : Hid (Below A.heap.size A V4) := (hS3.out).grown hg4 (hS3.out).size (fun k hk => Nat.le_trans (hz1.out).2 (OT9.blk (ho3.out) hk).1)
          have ho4 : Hid (OT9 r1 V4 v3 (((0 + (k)) + (m)) + (n - k)) ((([] ++ (xs.take k)) ++ (ls)) ++ (xs.drop k))) := hw4
          have hl4 : Hid (r1 < V4.heap.size) := Nat.lt_of_lt_of_le (hl3.out) hg4.size
          clear ra4 hw4 hg4
          refine hK1.out _ _ hS4.out ?_
          clear hK1
          intro _
          try simp only [Act.put, List.setIfInBounds_toArray, List.set_cons_zero, List.set_cons_succ]
          refine wpAnyH_take (i := 11) (oi := { dst := some 4, op := Op.assign (Operand.tmp 139), type := 36, pos := "law.go:188", after := #[{ on := 10, ground := Ground.data }, { on := 10, ground := Ground.chain }, { on := 0, ground := Ground.phase }, { on := 1, ground := Ground.phase }, { on := 2, ground := Ground.phase }, { on := 3, ground := Ground.phase }, { on := 4, ground := Ground.phase }, { on := 5, ground := Ground.phase }, { on := 6, ground := Ground.phase }, { on := 7, ground := Ground.phase }, { on := 8, ground := Ground.phase }, { on := 9, ground := Ground.phase }, { on := 10, ground := Ground.phase }], guard := none }) (v := v3) rfl (by kernel_rfl) (by kernel_rfl) (by kernel_rfl) (fun _ _ _ h => h.elim) (Or.inl ⟨by rfl, ?y8⟩) hS4.out ?_
          case y8 =>
            intro V hV
            go_simp
          simp only [Act.put, List.setIfInBounds_toArray, List.set_cons_zero, List.set_cons_succ]
          refine wpAnyH_done (by kernel_rfl) ?_ _
          exact hQ V4 r1 v1 v2 v3 hS4.out ((ho4.out).lo (hz1.out).2)
set_option maxRecDepth 100000 in
set_option maxHeartbeats 4000000 in
theorem pl32 {Q : Exit → Act → World → Prop} {x0 x1 x2 x3 x4 x6 x7 x9 x10 x11 x13 x14 x15 x16 x17 x18 x19 x20 x21 x22 x23 x24 x25 x26 x27 x28 x29 x30 x31 x32 x33 x34 x35 x36 x37 x38 x39 x40 x41 x42 x43 x44 x45 x46 x47 x48 x49 x50 x51 x52 x53 x54 x55 x56 x57 x58 x59 x60 x61 x62 x63 x64 x65 x66 x67 x68 x69 x70 x71 x72 x73 x74 x75 x76 x77 x78 x79 x80 x81 x82 x83 x84 x85 x86 x87 x88 x89 x90 x91 x92 x93 x94 x95 x96 x97 x98 x99 x100 x101 x102 x103 x104 x105 x106 x107 x108 x109 x110 x111 x112 x113 x114 x115 x116 x117 x118 x119 x120 x121 x122 x123 x124 x125 x126 x127 x128 x129 x130 x131 x132 x133 x134 x135 x136 x137 x138 x139 x140 x141 x142 x143 x144 x145 x146 x147 x148 x149 x150 x151 x152 x153 x154 x155 x156 x157 x158 x159 x160 x161 x162 x163 x164 x165 x166 x167 x168 : Value} {ds : List Deferred} {A : World} {ia la : Option Addr} {n c k m lc : Nat} {xs ls : List Vx}
    (HX : Hid (VsR A ia n xs)) (HQ0 : Hid (k ≤ n ∧ n ≤ c)) (HN : Hid (n + m ≤ 1000)) (HLS : Hid (VsR A la m ls))
    (hQ : ∀ V r1 v1 v2 v3, Below A.heap.size A V → OV A.heap.size V v3 (0 + (k) + (m) + (n - k)) ([] ++ (xs.take k) ++ (ls) ++ (xs.drop k)) → Q .normal { tmps := #[x0, x1, x2, x3, x4, v3, x6, x7, iv (k : Int), x9, x10, x11, .slice la m lc, x13, x14, x15, x16, x17, x18, x19, x20, x21, x22, x23, x24, x25, x26, x27, x28, x29, x30, x31, x32, x33, x34, x35, x36, x37, x38, x39, x40, x41, x42, x43, x44, x45, x46, x47, x48, x49, x50, x51, x52, x53, x54, x55, x56, x57, x58, x59, x60, x61, x62, x63, x64, x65, x66, x67, x68, x69, x70, x71, x72, x73, x74, x75, x76, x77, x78, x79, x80, x81, x82, x83, x84, x85, x86, x87, x88, x89, x90, x91, x92, x93, x94, x95, x96, x97, x98, x99, x100, x101, x102, x103, x104, x105, x106, x107, x108, x109, x110, x111, x112, x113, x114, x115, x116, x117, x118, x119, x120, x121, x122, x123, x124, x125, x126, x127, x128, x129, x130, x131, x132, x133, x134, x135, x136, x137, x138, x139, .slice (some ⟨r1, 0, none⟩) 0 0, .slice ia n c, iv (k : Int), .slice (shA ia 0 c 33) k c, v1, .slice la m lc, v2, .slice ia n c, iv (k : Int), .slice (shA ia k c 33) (n - k) (c - k), v3, x151, x152, x153, x154, x155, x156, x157, x158, x159, x160, x161, x162, x163, x164, x165, x166, x167, x168], defers := ds } V) :
    (Code.region 32 #[{ dst := some 140, op := Op.buildSlice 35 0 #[], type := 35, pos := "law.go:189", after := #[], guard := none }, { dst := some 141, op := Op.move (Operand.tmp 5), type := 35, pos := "law.go:189", after := #[], guard := none }, { dst := some 142, op := Op.move (Operand.tmp 8), type := 3, pos := "law.go:189", after := #[], guard := none }, { dst := some 143, op := Op.slice 35 (Operand.tmp 141) none (some (Operand.tmp 142)) none, type := 35, pos := "law.go:189", after := #[{ on := 1, ground := Ground.data }, { on := 2, ground := Ground.data }], guard := none }, { dst := some 144, op := Op.call { callee := Callee.builtin Builtin.append, args := #[Operand.tmp 140, Operand.tmp 143], argTypes := #[35, 35] }, type := 35, pos := "law.go:189", after := #[{ on := 0, ground := Ground.data }, { on := 3, ground := Ground.data }], guard := none }, { dst := some 145, op := Op.move (Operand.tmp 12), type := 35, pos := "law.go:189", after := #[], guard := none }, { dst := some 146, op := Op.call { callee := Callee.builtin Builtin.append, args := #[Operand.tmp 144, Operand.tmp 145], argTypes := #[35, 35] }, type := 35, pos := "law.go:189", after := #[{ on := 4, ground := Ground.data }, { on := 5, ground := Ground.data }, { on := 4, ground := Ground.chain }], guard := none }, { dst := some 147, op := Op.move (Operand.tmp 5), type := 35, pos := "law.go:189", after := #[], guard := none }, { dst := some 148, op := Op.move (Operand.tmp 8), type := 3, pos := "law.go:189", after := #[], guard := none }, { dst := some 149, op := Op.slice 35 (Operand.tmp 147) (some (Operand.tmp 148)) none none, type := 35, pos := "law.go:189", after := #[{ on := 7, ground := Ground.data }, { on := 8, ground := Ground.data }], guard := none }, { dst := some 150, op := Op.call { callee := Callee.builtin Builtin.append, args := #[Operand.tmp 146, Operand.tmp 149], argTypes := #[35, 35] }, type := 35, pos := "law.go:189", after := #[{ on := 6, ground := Ground.data }, { on := 9, ground := Ground.data }, { on := 6, ground := Ground.chain }], guard := none }, { dst := some 5, op := Op.assign (Operand.tmp 150), type := 35, pos := "law.go:189", after := #[{ on := 10, ground := Ground.data }, { on := 10, ground := Ground.chain }, { on := 0, ground := Ground.phase }, { on := 1, ground := Ground.phase }, { on := 2, ground := Ground.phase }, { on := 3, ground := Ground.phase }, { on := 4, ground := Ground.phase }, { on := 5, ground := Ground.phase }, { on := 6, ground := Ground.phase }, { on := 7, ground := Ground.phase }, { on := 8, ground := Ground.phase }, { on := 9, ground := Ground.phase }, { on := 10, ground := Ground.phase }], guard := none }] true).wp Try.prog Q { tmps := #[x0, x1, x2, x3, x4, .slice ia n c, x6, x7, iv (k : Int), x9, x10, x11, .slice la m lc, x13, x14, x15, x16, x17, x18, x19, x20, x21, x22, x23, x24, x25, x26, x27, x28, x29, x30, x31, x32, x33, x34, x35, x36, x37, x38, x39, x40, x41, x42, x43, x44, x45, x46, x47, x48, x49, x50, x51, x52, x53, x54, x55, x56, x57, x58, x59, x60, x61, x62, x63, x64, x65, x66, x67, x68, x69, x70, x71, x72, x73, x74, x75, x76, x77, x78, x79, x80, x81, x82, x83, x84, x85, x86, x87, x88, x89, x90, x91, x92, x93, x94, x95, x96, x97, x98, x99, x100, x101, x102, x103, x104, x105, x106, x107, x108, x109, x110, x111, x112, x113, x114, x115, x116, x117, x118, x119, x120, x121, x122, x123, x124, x125, x126, x127, x128, x129, x130, x131, x132, x133, x134, x135, x136, x137, x138, x139, x140, x141, x142, x143, x144, x145, x146, x147, x148, x149, x150, x151, x152, x153, x154, x155, x156, x157, x158, x159, x160, x161, x162, x163, x164, x165, x166, x167, x168], defers := ds } A := by
  refine Code.wp_mono (Q := fun x a' w' => match x with | .normal => Q .normal a' w' | _ => False) (by intro x a' w' h; cases x <;> first | exact h | exact h.elim) ?_
  refine wp_region_held (S := fun V => Below A.heap.size A V) (by kernel_rfl) ?_
  have hS0 : Hid (Below A.heap.size A A.drew) := below_drew0 A
  change wpAnyH Try.prog .any _ _ (fun V => Below A.heap.size A V) 12 (Array.replicate 12 false) _ A.drew
  obtain ⟨V0, hV0⟩ : ∃ V0, A.drew = V0 := ⟨_, rfl⟩
  rw [hV0]
  rw [hV0] at hS0
  clear hV0
  refine wpAnyH_take (i := 1) (oi := { dst := some 141, op := Op.move (Operand.tmp 5), type := 35, pos := "law.go:189", after := #[], guard := none }) (v := .slice ia n c) rfl (by kernel_rfl) (by kernel_rfl) (by kernel_rfl) (fun _ _ _ h => h.elim) (Or.inl ⟨by rfl, ?y1⟩) hS0.out ?_
  case y1 =>
    intro V hV
    go_simp
  simp only [Act.put, List.setIfInBounds_toArray, List.set_cons_zero, List.set_cons_succ]
  refine wpAnyH_take (i := 2) (oi := { dst := some 142, op := Op.move (Operand.tmp 8), type := 3, pos := "law.go:189", after := #[], guard := none }) (v := iv (k : Int)) rfl (by kernel_rfl) (by kernel_rfl) (by kernel_rfl) (fun _ _ _ h => h.elim) (Or.inl ⟨by rfl, ?y2⟩) hS0.out ?_
  case y2 =>
    intro V hV
    go_simp
  simp only [Act.put, List.setIfInBounds_toArray, List.set_cons_zero, List.set_cons_succ]
  refine wpAnyH_take (i := 3) (oi := { dst := some 143, op := Op.slice 35 (Operand.tmp 141) none (some (Operand.tmp 142)) none, type := 35, pos := "law.go:189", after := #[{ on := 1, ground := Ground.data }, { on := 2, ground := Ground.data }], guard := none }) (v := .slice (shA ia 0 c 33) k c) rfl (by kernel_rfl) (by kernel_rfl) (by kernel_rfl) (fun _ _ _ h => h.elim) (Or.inl ⟨by rfl, ?y3⟩) hS0.out ?_
  case y3 =>
    intro V hV
    exact yl_slice V 35 _ _ _ _ rfl (.slice ia n c) none (some (iv (k : Int))) none rfl rfl rfl rfl _ (run_lo35 ia n c k HQ0.out.1 HQ0.out.2 V)
  simp only [Act.put, List.setIfInBounds_toArray, List.set_cons_zero, List.set_cons_succ]
  refine wpAnyH_take (i := 5) (oi := { dst := some 145, op := Op.move (Operand.tmp 12), type := 35, pos := "law.go:189", after := #[], guard := none }) (v := .slice la m lc) rfl (by kernel_rfl) (by kernel_rfl) (by kernel_rfl) (fun _ _ _ h => h.elim) (Or.inl ⟨by rfl, ?y4⟩) hS0.out ?_
  case y4 =>
    intro V hV
    go_simp
  simp only [Act.put, List.setIfInBounds_toArray, List.set_cons_zero, List.set_cons_succ]
  refine wpAnyH_take (i := 7) (oi := { dst := some 147, op := Op.move (Operand.tmp 5), type := 35, pos := "law.go:189", after := #[], guard := none }) (v := .slice ia n c) rfl (by kernel_rfl) (by kernel_rfl) (by kernel_rfl) (fun _ _ _ h => h.elim) (Or.inl ⟨by rfl, ?y5⟩) hS0.out ?_
  case y5 =>
    intro V hV
    go_simp
  simp only [Act.put, List.setIfInBounds_toArray, List.set_cons_zero, List.set_cons_succ]
  refine wpAnyH_take (i := 8) (oi := { dst := some 148, op := Op.move (Operand.tmp 8), type := 3, pos := "law.go:189", after := #[], guard := none }) (v := iv (k : Int)) rfl (by kernel_rfl) (by kernel_rfl) (by kernel_rfl) (fun _ _ _ h => h.elim) (Or.inl ⟨by rfl, ?y6⟩) hS0.out ?_
  case y6 =>
    intro V hV
    go_simp
  simp only [Act.put, List.setIfInBounds_toArray, List.set_cons_zero, List.set_cons_succ]
  refine wpAnyH_take (i := 9) (oi := { dst := some 149, op := Op.slice 35 (Operand.tmp 147) (some (Operand.tmp 148)) none none, type := 35, pos := "law.go:189", after := #[{ on := 7, ground := Ground.data }, { on := 8, ground := Ground.data }], guard := none }) (v := .slice (shA ia k c 33) (n - k) (c - k)) rfl (by kernel_rfl) (by kernel_rfl) (by kernel_rfl) (fun _ _ _ h => h.elim) (Or.inl ⟨by rfl, ?y7⟩) hS0.out ?_
  case y7 =>
    intro V hV
    exact yl_slice V 35 _ _ _ _ rfl (.slice ia n c) (some (iv (k : Int))) none none rfl rfl rfl rfl _ (run_hi35 ia n c k HQ0.out.1 V)
  simp only [Act.put, List.setIfInBounds_toArray, List.set_cons_zero, List.set_cons_succ]
  refine wpAnyH_ready (rs := [0]) (by kernel_rfl) (by simp) (AllReadyH.cons (i := 0) (o := { dst := some 140, op := Op.buildSlice 35 0 #[], type := 35, pos := "law.go:189", after := #[], guard := none }) rfl ?_ AllReadyH.nil)
  · intro K1 hK1
    refine step_bz (by rfl) 35 rfl _ _ (bs35z _) ?_
    obtain ⟨V1, hv1⟩ : ∃ V, V0.alloc (.cells #[] 34) = V := ⟨_, rfl⟩
    obtain ⟨r1, hr1⟩ : ∃ m, V0.heap.size = m := ⟨_, rfl⟩
    have hb1 : Below V0.heap.size V0 V1 := by rw [← hv1]; exact below_al _ _
    have hS1 : Hid (Below A.heap.size A V1) := below_tr hS0.out hb1
    have hz1 : Hid (Blk V1 r1 34 [] ∧ A.heap.size ≤ r1) := by
      refine ⟨?_, ?_⟩
      · rw [← hv1, ← hr1]; exact Blk.new V0 _ _
      · rw [← hr1]; exact (hS0.out).size
    have ho1 : Hid (OV r1 V1 (.slice (some ⟨r1, 0, none⟩) 0 0) 0 []) := ⟨⟨rfl, .inr ⟨r1, 0, #[], rfl, Nat.le_refl _, hz1.out.1, Nat.le_refl _, by unfold maxLen; omega, rfl, rfl⟩⟩, by simp⟩
    rw [hv1, hr1]
    clear hv1 hr1 hb1
    refine hK1.out _ _ hS1.out ?_
    clear hK1
    intro _
    try simp only [Act.put, List.setIfInBounds_toArray, List.set_cons_zero, List.set_cons_succ]
    refine wpAnyH_ready (rs := [4]) (by kernel_rfl) (by simp) (AllReadyH.cons (i := 4) (o := { dst := some 144, op := Op.call { callee := Callee.builtin Builtin.append, args := #[Operand.tmp 140, Operand.tmp 143], argTypes := #[35, 35] }, type := 35, pos := "law.go:189", after := #[{ on := 0, ground := Ground.data }, { on := 3, ground := Ground.data }], guard := none }) rfl ?_ AllReadyH.nil)
    · intro K1 hK1
      obtain ⟨v1, V2, ra2, hw2, hg2, _⟩ := run_app V1 r1 35 (.slice (some ⟨r1, 0, none⟩) 0 0) (0) [] ((shA ia 0 c 33)) (k) (c) (xs.take k) (ho1.out) ((HX.out.lo HQ0.out.1).below hS1.out) (by have h1 := HN.out; have h2 := HQ0.out;  omega) (Nat.le_of_lt ((hz1.out).1.lt))
      refine step_ap (by rfl) 35 35 _ _ rfl _ _ rfl rfl _ _ ra2 ?_
      have hS2 : Hid (Below A.heap.size A V2) := (hS1.out).grown hg2 (hS1.out).size (fun k hk => Nat.le_trans (hz1.out).2 (OV.own (ho1.out) hk).1)
      have ho2 : Hid (OV r1 V2 v1 (0 + (k)) ([] ++ (xs.take k))) := hw2
      have hl2 : Hid (r1 < V2.heap.size) := Nat.lt_of_lt_of_le ((hz1.out).1.lt) hg2.size
      clear ra2 hw2 hg2
      refine hK1.out _ _ hS2.out ?_
      clear hK1
      intro _
      try simp only [Act.put, List.setIfInBounds_toArray, List.set_cons_zero, List.set_cons_succ]
      refine wpAnyH_ready (rs := [6]) (by kernel_rfl) (by simp) (AllReadyH.cons (i := 6) (o := { dst := some 146, op := Op.call { callee := Callee.builtin Builtin.append, args := #[Operand.tmp 144, Operand.tmp 145], argTypes := #[35, 35] }, type := 35, pos := "law.go:189", after := #[{ on := 4, ground := Ground.data }, { on := 5, ground := Ground.data }, { on := 4, ground := Ground.chain }], guard := none }) rfl ?_ AllReadyH.nil)
      · intro K1 hK1
        obtain ⟨v2, V3, ra3, hw3, hg3, _⟩ := run_app V2 r1 35 v1 ((0 + (k))) ([] ++ (xs.take k)) (la) (m) (lc) (ls) (ho2.out) ((HLS.out).below hS2.out) (by have h1 := HN.out; have h2 := HQ0.out;  omega) (Nat.le_of_lt (hl2.out))
        refine step_ap (by rfl) 35 35 _ _ rfl _ _ rfl rfl _ _ ra3 ?_
        have hS3 : Hid (Below A.heap.size A V3) := (hS2.out).grown hg3 (hS2.out).size (fun k hk => Nat.le_trans (hz1.out).2 (OV.own (ho2.out) hk).1)
        have ho3 : Hid (OV r1 V3 v2 ((0 + (k)) + (m)) (([] ++ (xs.take k)) ++ (ls))) := hw3
        have hl3 : Hid (r1 < V3.heap.size) := Nat.lt_of_lt_of_le (hl2.out) hg3.size
        clear ra3 hw3 hg3
        refine hK1.out _ _ hS3.out ?_
        clear hK1
        intro _
        try simp only [Act.put, List.setIfInBounds_toArray, List.set_cons_zero, List.set_cons_succ]
        refine wpAnyH_ready (rs := [10]) (by kernel_rfl) (by simp) (AllReadyH.cons (i := 10) (o := { dst := some 150, op := Op.call { callee := Callee.builtin Builtin.append, args := #[Operand.tmp 146, Operand.tmp 149], argTypes := #[35, 35] }, type := 35, pos := "law.go:189", after := #[{ on := 6, ground := Ground.data }, { on := 9, ground := Ground.data }, { on := 6, ground := Ground.chain }], guard := none }) rfl ?_ AllReadyH.nil)
        · intro K1 hK1
          obtain ⟨v3, V4, ra4, hw4, hg4, _⟩ := run_app V3 r1 35 v2 (((0 + (k)) + (m))) (([] ++ (xs.take k)) ++ (ls)) ((shA ia k c 33)) (n - k) (c - k) (xs.drop k) (ho3.out) ((HX.out.hi HQ0.out.1 HQ0.out.2).below hS3.out) (by have h1 := HN.out; have h2 := HQ0.out;  omega) (Nat.le_of_lt (hl3.out))
          refine step_ap (by rfl) 35 35 _ _ rfl _ _ rfl rfl _ _ ra4 ?_
          have hS4 : Hid (Below A.heap.size A V4) := (hS3.out).grown hg4 (hS3.out).size (fun k hk => Nat.le_trans (hz1.out).2 (OV.own (ho3.out) hk).1)
          have ho4 : Hid (OV r1 V4 v3 (((0 + (k)) + (m)) + (n - k)) ((([] ++ (xs.take k)) ++ (ls)) ++ (xs.drop k))) := hw4
          have hl4 : Hid (r1 < V4.heap.size) := Nat.lt_of_lt_of_le (hl3.out) hg4.size
          clear ra4 hw4 hg4
          refine hK1.out _ _ hS4.out ?_
          clear hK1
          intro _
          try simp only [Act.put, List.setIfInBounds_toArray, List.set_cons_zero, List.set_cons_succ]
          refine wpAnyH_take (i := 11) (oi := { dst := some 5, op := Op.assign (Operand.tmp 150), type := 35, pos := "law.go:189", after := #[{ on := 10, ground := Ground.data }, { on := 10, ground := Ground.chain }, { on := 0, ground := Ground.phase }, { on := 1, ground := Ground.phase }, { on := 2, ground := Ground.phase }, { on := 3, ground := Ground.phase }, { on := 4, ground := Ground.phase }, { on := 5, ground := Ground.phase }, { on := 6, ground := Ground.phase }, { on := 7, ground := Ground.phase }, { on := 8, ground := Ground.phase }, { on := 9, ground := Ground.phase }, { on := 10, ground := Ground.phase }], guard := none }) (v := v3) rfl (by kernel_rfl) (by kernel_rfl) (by kernel_rfl) (fun _ _ _ h => h.elim) (Or.inl ⟨by rfl, ?y8⟩) hS4.out ?_
          case y8 =>
            intro V hV
            go_simp
          simp only [Act.put, List.setIfInBounds_toArray, List.set_cons_zero, List.set_cons_succ]
          refine wpAnyH_done (by kernel_rfl) ?_ _
          exact hQ V4 r1 v1 v2 v3 hS4.out ((ho4.out).lo (hz1.out).2)
end Go.Proofs.Ytjcihaohpbmogaa.Oct
