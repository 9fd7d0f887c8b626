/-
  Layer 4 (frame): the last statement of the law on frames one behind the other.
-/
import Derived.Test.YtchblcfbllcbmabAll
import Derived.Test.YtchblcfbllcbmabKept
import Derived.Test.YtchblcfbllcbmabSums
import Derived.Deep.RegionHeldLaw
namespace Go.Proofs.Ytchblcfbllcbmab.Oct
open Go.RowKit Go.Shelf
set_option maxRecDepth 100000 in
set_option maxHeartbeats 2000000 in
theorem last_all {Q : Exit → Act → World → Prop} {x0 x1 x2 x3 x5 x7 x8 x9 x10 x12 x14 x15 x16 x17 x18 x19 x20 x21 x22 x23 x24 x25 x26 x27 x28 x29 x30 x31 x32 x33 x34 x35 x36 x37 x38 x39 x40 x41 x42 x43 x44 x45 x46 x47 x48 x49 x50 x51 x52 x53 x54 x55 x56 x57 x58 x59 x60 x61 x62 x63 x64 x65 x66 x67 x68 x69 x70 x71 x72 x73 x74 x75 x76 x77 x78 x79 x80 x81 x82 x83 x84 x85 x86 x87 x88 x89 x90 x91 x92 x93 x94 x95 x96 x97 x98 x99 x100 x101 x102 x103 x104 x105 x106 x107 x108 x109 x110 x111 x112 : Value} {ds : List Deferred} {A : World} {r e n p i t : Nat} {ae : Option Addr} {ce : Nat}
    (cI : A.cell? ⟨p, 0, none⟩ = some (.int .i64 (i : Int))) (cE : A.cell? ⟨e, 0, none⟩ = some (.slice ae t ce)) (hr : A.heap[r]? = some (.cells #[.bool false] 4)) (hrp : r ≠ p) (hre : r ≠ e) (hit : i = t)
    (hQ : ∀ a' w9, a'.defers = ds → a'.tmps[4]? = some (.pointer (some ⟨r, 0, none⟩)) → Below A.heap.size A w9 → Q .normal a' (w9.setCell ⟨r, 0, none⟩ (.bool true))) :
    (Code.region 23 #[{ dst := some 98, op := Op.load 3 (Operand.tmp 13), type := 3, pos := "law.go:99", after := #[], guard := none }, { dst := some 99, op := Op.load 35 (Operand.tmp 6), type := 35, pos := "law.go:99", after := #[], guard := none }, { dst := some 100, op := Op.call { callee := Callee.builtin Builtin.len, args := #[Operand.tmp 99], argTypes := #[35] }, type := 3, pos := "law.go:99", after := #[{ on := 1, ground := Ground.data }], guard := none }, { dst := some 101, op := Op.binOp BinOp.eql 3 (Operand.tmp 98) (Operand.tmp 100) 3, type := 4, pos := "law.go:99", after := #[{ on := 0, ground := Ground.data }, { on := 2, ground := Ground.data }], guard := none }, { dst := some 102, op := Op.move (Operand.tmp 101), type := 4, pos := "law.go:99", after := #[{ on := 3, ground := Ground.data }], guard := none }, { dst := some 103, op := Op.load 35 (Operand.tmp 6), type := 35, pos := "law.go:99", after := #[{ on := 4, ground := Ground.guard }], guard := some (4, false) }, { dst := some 104, op := Op.load 3 (Operand.tmp 13), type := 3, pos := "law.go:99", after := #[{ on := 4, ground := Ground.guard }], guard := some (4, false) }, { dst := some 105, op := Op.indexAddr 35 (Operand.tmp 103) (Operand.tmp 104), type := 0, pos := "law.go:99", after := #[{ on := 5, ground := Ground.data }, { on := 6, ground := Ground.data }, { on := 4, ground := Ground.guard }], guard := some (4, false) }, { dst := some 106, op := Op.load 3 (Operand.tmp 105), type := 3, pos := "law.go:99", after := #[{ on := 7, ground := Ground.data }, { on := 4, ground := Ground.guard }], guard := some (4, false) }, { dst := some 107, op := Op.load 3 (Operand.tmp 11), type := 3, pos := "law.go:99", after := #[{ on := 4, ground := Ground.guard }], guard := some (4, false) }, { dst := some 108, op := Op.binOp BinOp.gtr 3 (Operand.tmp 106) (Operand.tmp 107) 3, type := 4, pos := "law.go:99", after := #[{ on := 8, ground := Ground.data }, { on := 9, ground := Ground.data }, { on := 4, ground := Ground.guard }], guard := some (4, false) }, { dst := some 109, op := Op.pick (Operand.tmp 102) (Operand.const (Value.bool true)) (Operand.tmp 108), type := 4, pos := "law.go:99", after := #[{ on := 4, ground := Ground.data }, { on := 10, ground := Ground.data }], guard := none }, { dst := some 110, op := Op.move (Operand.tmp 109), type := 4, pos := "law.go:99", after := #[{ on := 11, ground := Ground.data }, { on := 4, ground := Ground.chain }], guard := none }, { dst := some 111, op := Op.call { callee := Callee.value (Operand.func 6), args := #[], argTypes := #[] }, type := 4, pos := "law.go:99", after := #[{ on := 12, ground := Ground.chain }, { on := 12, ground := Ground.guard }], guard := some (12, true) }, { dst := some 112, op := Op.pick (Operand.tmp 110) (Operand.tmp 111) (Operand.const (Value.bool false)), type := 4, pos := "law.go:99", after := #[{ on := 12, ground := Ground.data }, { on := 13, ground := Ground.data }], guard := none }, { dst := none, op := Op.store 4 (Operand.tmp 4) (Operand.tmp 112), type := 0, pos := "law.go:99", after := #[{ on := 14, ground := Ground.data }, { on := 13, ground := Ground.chain }, { on := 0, ground := Ground.phase }, { on := 1, ground := Ground.phase }, { on := 2, ground := Ground.phase }, { on := 3, ground := Ground.phase }, { on := 4, ground := Ground.phase }, { on := 5, ground := Ground.phase }, { on := 6, ground := Ground.phase }, { on := 7, ground := Ground.phase }, { on := 8, ground := Ground.phase }, { on := 9, ground := Ground.phase }, { on := 10, ground := Ground.phase }, { on := 11, ground := Ground.phase }, { on := 12, ground := Ground.phase }, { on := 13, ground := Ground.phase }, { on := 14, ground := Ground.phase }], guard := none }] true).wp Try.prog Q { tmps := #[x0, x1, x2, x3, .pointer (some ⟨r, 0, none⟩), x5, .pointer (some ⟨e, 0, none⟩), x7, x8, x9, x10, .pointer (some ⟨n, 0, none⟩), x12, .pointer (some ⟨p, 0, none⟩), x14, x15, x16, x17, x18, x19, x20, x21, x22, x23, x24, x25, x26, x27, x28, x29, x30, x31, x32, x33, x34, x35, x36, x37, x38, x39, x40, x41, x42, x43, x44, x45, x46, x47, x48, x49, x50, x51, x52, x53, x54, x55, x56, x57, x58, x59, x60, x61, x62, x63, x64, x65, x66, x67, x68, x69, x70, x71, x72, x73, x74, x75, x76, x77, x78, x79, x80, x81, x82, x83, x84, x85, x86, x87, x88, x89, x90, x91, x92, x93, x94, x95, x96, x97, x98, x99, x100, x101, x102, x103, x104, x105, x106, x107, x108, x109, x110, x111, x112], defers := ds } A := by
  refine Code.wp_mono (Q := fun x a' w' => match x with | .normal => Q .normal a' w' | _ => False) (by intro x a' w' h; cases x <;> first | exact h | exact h.elim) ?_
  obtain ⟨S, hSd⟩ : ∃ S : World → Prop, S = fun W => W.cell? ⟨p, 0, none⟩ = some (.int .i64 (i : Int)) ∧ W.cell? ⟨e, 0, none⟩ = some (.slice ae t ce) := ⟨_, rfl⟩
  refine wp_region_held (S := S) (by kernel_rfl) ?_
  have hS : S A.drew := by rw [hSd]; exact ⟨cI, cE⟩
  have HS : Hid (S A.drew) := hS
  have hit' : (i : Int) = (t : Int) := by omega
  change wpAnyH Try.prog .any _ _ S 16 (Array.replicate 16 false) _ A.drew
  refine wpAnyH_take (i := 0) (oi := { dst := some 98, op := Op.load 3 (Operand.tmp 13), type := 3, pos := "law.go:99", after := #[], guard := none }) (v := .int .i64 (i : Int)) rfl (by kernel_rfl) (by kernel_rfl) (by kernel_rfl) (fun _ _ _ h => h.elim) (Or.inl ⟨by rfl, ?y0⟩) hS ?_
  case y0 =>
    intro W hW
    rw [hSd] at hW; obtain ⟨s1, s2⟩ := hW
    go_simp
  simp only [Act.put, List.setIfInBounds_toArray, List.set_cons_zero, List.set_cons_succ]
  refine wpAnyH_take (i := 1) (oi := { dst := some 99, op := Op.load 35 (Operand.tmp 6), type := 35, pos := "law.go:99", after := #[], guard := none }) (v := .slice ae t ce) rfl (by kernel_rfl) (by kernel_rfl) (by kernel_rfl) (fun _ _ _ h => h.elim) (Or.inl ⟨by rfl, ?y1⟩) hS ?_
  case y1 =>
    intro W hW
    rw [hSd] at hW; obtain ⟨s1, s2⟩ := hW
    go_simp
  simp only [Act.put, List.setIfInBounds_toArray, List.set_cons_zero, List.set_cons_succ]
  refine wpAnyH_take (i := 2) (oi := { dst := some 100, op := Op.call { callee := Callee.builtin Builtin.len, args := #[Operand.tmp 99], argTypes := #[35] }, type := 3, pos := "law.go:99", after := #[{ on := 1, ground := Ground.data }], guard := none }) (v := .int .i64 (t : Int)) rfl (by kernel_rfl) (by kernel_rfl) (by kernel_rfl) (fun _ _ _ h => h.elim) (Or.inl ⟨by rfl, ?y2⟩) hS ?_
  case y2 =>
    intro W hW
    rw [hSd] at hW; obtain ⟨s1, s2⟩ := hW
    go_simp
  simp only [Act.put, List.setIfInBounds_toArray, List.set_cons_zero, List.set_cons_succ]
  refine wpAnyH_take (i := 3) (oi := { dst := some 101, op := Op.binOp BinOp.eql 3 (Operand.tmp 98) (Operand.tmp 100) 3, type := 4, pos := "law.go:99", after := #[{ on := 0, ground := Ground.data }, { on := 2, ground := Ground.data }], guard := none }) (v := .bool true) rfl (by kernel_rfl) (by kernel_rfl) (by kernel_rfl) (fun _ _ _ h => h.elim) (Or.inl ⟨by rfl, ?y3⟩) hS ?_
  case y3 =>
    intro W hW
    rw [hSd] at hW; obtain ⟨s1, s2⟩ := hW
    go_simp
  simp only [Act.put, List.setIfInBounds_toArray, List.set_cons_zero, List.set_cons_succ]
  refine wpAnyH_take (i := 4) (oi := { dst := some 102, op := Op.move (Operand.tmp 101), type := 4, pos := "law.go:99", after := #[{ on := 3, ground := Ground.data }], guard := none }) (v := .bool true) rfl (by kernel_rfl) (by kernel_rfl) (by kernel_rfl) (fun _ _ _ h => h.elim) (Or.inl ⟨by rfl, ?y4⟩) hS ?_
  case y4 =>
    intro W hW
    rw [hSd] at hW; obtain ⟨s1, s2⟩ := hW
    go_simp
  simp only [Act.put, List.setIfInBounds_toArray, List.set_cons_zero, List.set_cons_succ]
  refine wpAnyH_take (i := 5) (oi := { dst := some 103, op := Op.load 35 (Operand.tmp 6), type := 35, pos := "law.go:99", after := #[{ on := 4, ground := Ground.guard }], guard := some (4, false) }) (v := undef) rfl (by kernel_rfl) (by kernel_rfl) (by kernel_rfl) (fun _ _ _ h => h.elim) (Or.inr ⟨by rfl, rfl⟩) hS ?_
  simp only [Act.put, List.setIfInBounds_toArray, List.set_cons_zero, List.set_cons_succ]
  refine wpAnyH_take (i := 6) (oi := { dst := some 104, op := Op.load 3 (Operand.tmp 13), type := 3, pos := "law.go:99", after := #[{ on := 4, ground := Ground.guard }], guard := some (4, false) }) (v := undef) rfl (by kernel_rfl) (by kernel_rfl) (by kernel_rfl) (fun _ _ _ h => h.elim) (Or.inr ⟨by rfl, rfl⟩) hS ?_
  simp only [Act.put, List.setIfInBounds_toArray, List.set_cons_zero, List.set_cons_succ]
  refine wpAnyH_take (i := 7) (oi := { dst := some 105, op := Op.indexAddr 35 (Operand.tmp 103) (Operand.tmp 104), type := 0, pos := "law.go:99", after := #[{ on := 5, ground := Ground.data }, { on := 6, ground := Ground.data }, { on := 4, ground := Ground.guard }], guard := some (4, false) }) (v := undef) rfl (by kernel_rfl) (by kernel_rfl) (by kernel_rfl) (fun _ _ _ h => h.elim) (Or.inr ⟨by rfl, rfl⟩) hS ?_
  simp only [Act.put, List.setIfInBounds_toArray, List.set_cons_zero, List.set_cons_succ]
  refine wpAnyH_take (i := 8) (oi := { dst := some 106, op := Op.load 3 (Operand.tmp 105), type := 3, pos := "law.go:99", after := #[{ on := 7, ground := Ground.data }, { on := 4, ground := Ground.guard }], guard := some (4, false) }) (v := undef) rfl (by kernel_rfl) (by kernel_rfl) (by kernel_rfl) (fun _ _ _ h => h.elim) (Or.inr ⟨by rfl, rfl⟩) hS ?_
  simp only [Act.put, List.setIfInBounds_toArray, List.set_cons_zero, List.set_cons_succ]
  refine wpAnyH_take (i := 9) (oi := { dst := some 107, op := Op.load 3 (Operand.tmp 11), type := 3, pos := "law.go:99", after := #[{ on := 4, ground := Ground.guard }], guard := some (4, false) }) (v := undef) rfl (by kernel_rfl) (by kernel_rfl) (by kernel_rfl) (fun _ _ _ h => h.elim) (Or.inr ⟨by rfl, rfl⟩) hS ?_
  simp only [Act.put, List.setIfInBounds_toArray, List.set_cons_zero, List.set_cons_succ]
  refine wpAnyH_take (i := 10) (oi := { dst := some 108, op := Op.binOp BinOp.gtr 3 (Operand.tmp 106) (Operand.tmp 107) 3, type := 4, pos := "law.go:99", after := #[{ on := 8, ground := Ground.data }, { on := 9, ground := Ground.data }, { on := 4, ground := Ground.guard }], guard := some (4, false) }) (v := undef) rfl (by kernel_rfl) (by kernel_rfl) (by kernel_rfl) (fun _ _ _ h => h.elim) (Or.inr ⟨by rfl, rfl⟩) hS ?_
  simp only [Act.put, List.setIfInBounds_toArray, List.set_cons_zero, List.set_cons_succ]
  refine wpAnyH_take (i := 11) (oi := { dst := some 109, op := Op.pick (Operand.tmp 102) (Operand.const (Value.bool true)) (Operand.tmp 108), type := 4, pos := "law.go:99", after := #[{ on := 4, ground := Ground.data }, { on := 10, ground := Ground.data }], guard := none }) (v := .bool true) rfl (by kernel_rfl) (by kernel_rfl) (by kernel_rfl) (fun _ _ _ h => h.elim) (Or.inl ⟨by rfl, ?y11⟩) hS ?_
  case y11 =>
    intro W hW
    rw [hSd] at hW; obtain ⟨s1, s2⟩ := hW
    go_simp
  simp only [Act.put, List.setIfInBounds_toArray, List.set_cons_zero, List.set_cons_succ]
  refine wpAnyH_take (i := 12) (oi := { dst := some 110, op := Op.move (Operand.tmp 109), type := 4, pos := "law.go:99", after := #[{ on := 11, ground := Ground.data }, { on := 4, ground := Ground.chain }], guard := none }) (v := .bool true) rfl (by kernel_rfl) (by kernel_rfl) (by kernel_rfl) (fun _ _ _ h => h.elim) (Or.inl ⟨by rfl, ?y12⟩) hS ?_
  case y12 =>
    intro W hW
    rw [hSd] at hW; obtain ⟨s1, s2⟩ := hW
    go_simp
  simp only [Act.put, List.setIfInBounds_toArray, List.set_cons_zero, List.set_cons_succ]
  refine wpAnyH_ready (rs := [13]) (by kernel_rfl) (by simp) (AllReadyH.cons (i := 13) (o := { dst := some 111, op := Op.call { callee := Callee.value (Operand.func 6), args := #[], argTypes := #[] }, type := 4, pos := "law.go:99", after := #[{ on := 12, ground := Ground.chain }, { on := 12, ground := Ground.guard }], guard := some (12, true) }) rfl ?_ AllReadyH.nil)
  intro K' hK'
  rw [if_pos (by rfl)]
  have hlv := lives_is A.drew
  have HLV : Hid (Calls Try.prog 6 #[] A.drew fun e w' => e = .returned (.bool true) ∧ Below A.drew.heap.size A.drew w') := hlv
  clear hlv
  go_wp2_with (first | (go_at_call 6; refine HLV.out.mono ?_; rintro e w9 ⟨rfl, hb9⟩))
  have HB9 : Hid (Below A.heap.size A w9) := ⟨hb9.os, hb9.tape, hb9.output, hb9.size, hb9.block⟩
  have hS9 : S w9 := by rw [hSd]; exact ⟨(HB9.out.cell (p := ⟨p, 0, none⟩) (World.block_lt_of_cell? A _ cI)).trans cI, (HB9.out.cell (p := ⟨e, 0, none⟩) (World.block_lt_of_cell? A _ cE)).trans cE⟩
  have HR9 : Hid (w9.heap[r]? = some (.cells #[.bool false] 4)) := (HB9.out.block r (lt_of_block hr)).trans hr
  have c9 := (cell_box HR9.out).1
  have f9 := (cell_box HR9.out).2
  clear hb9
  refine hK'.out _ _ hS9 ?_
  clear hS hK'
  intro hS
  refine wpAnyH_take (i := 14) (oi := { dst := some 112, op := Op.pick (Operand.tmp 110) (Operand.tmp 111) (Operand.const (Value.bool false)), type := 4, pos := "law.go:99", after := #[{ on := 12, ground := Ground.data }, { on := 13, ground := Ground.data }], guard := none }) (v := .bool true) rfl (by kernel_rfl) (by kernel_rfl) (by kernel_rfl) (fun _ _ _ h => h.elim) (Or.inl ⟨by rfl, ?y14⟩) hS ?_
  case y14 =>
    intro W hW
    rw [hSd] at hW; obtain ⟨s1, s2⟩ := hW
    go_simp
  simp only [Act.put, List.setIfInBounds_toArray, List.set_cons_zero, List.set_cons_succ]
  refine wpAnyH_ready (rs := [15]) (by kernel_rfl) (by simp) (AllReadyH.cons (i := 15) (o := { dst := none, op := Op.store 4 (Operand.tmp 4) (Operand.tmp 112), type := 0, pos := "law.go:99", after := #[{ on := 14, ground := Ground.data }, { on := 13, ground := Ground.chain }, { on := 0, ground := Ground.phase }, { on := 1, ground := Ground.phase }, { on := 2, ground := Ground.phase }, { on := 3, ground := Ground.phase }, { on := 4, ground := Ground.phase }, { on := 5, ground := Ground.phase }, { on := 6, ground := Ground.phase }, { on := 7, ground := Ground.phase }, { on := 8, ground := Ground.phase }, { on := 9, ground := Ground.phase }, { on := 10, ground := Ground.phase }, { on := 11, ground := Ground.phase }, { on := 12, ground := Ground.phase }, { on := 13, ground := Ground.phase }, { on := 14, ground := Ground.phase }], guard := none }) rfl ?_ AllReadyH.nil)
  intro K2 hK2
  rw [if_pos (by rfl)]
  go_wp2
  refine hK2.out _ _ ?_ ?_
  · rw [hSd] at hS ⊢
    obtain ⟨s1, s2⟩ := hS
    exact ⟨(World.cell?_setCell_far _ _ _ _ hrp).trans s1, (World.cell?_setCell_far _ _ _ _ hre).trans s2⟩
  · intro _
    refine wpAnyH_done (by kernel_rfl) ?_ _
    exact hQ _ w9 rfl rfl HB9.out
set_option maxRecDepth 100000 in
set_option maxHeartbeats 2000000 in
theorem last_cut {Q : Exit → Act → World → Prop} {x0 x1 x2 x3 x5 x7 x8 x9 x10 x12 x14 x15 x16 x17 x18 x19 x20 x21 x22 x23 x24 x25 x26 x27 x28 x29 x30 x31 x32 x33 x34 x35 x36 x37 x38 x39 x40 x41 x42 x43 x44 x45 x46 x47 x48 x49 x50 x51 x52 x53 x54 x55 x56 x57 x58 x59 x60 x61 x62 x63 x64 x65 x66 x67 x68 x69 x70 x71 x72 x73 x74 x75 x76 x77 x78 x79 x80 x81 x82 x83 x84 x85 x86 x87 x88 x89 x90 x91 x92 x93 x94 x95 x96 x97 x98 x99 x100 x101 x102 x103 x104 x105 x106 x107 x108 x109 x110 x111 x112 : Value} {ds : List Deferred} {A : World} {r e n p i t N ge EE : Nat} {ce : Nat}
    (cI : A.cell? ⟨p, 0, none⟩ = some (.int .i64 (i : Int))) (cE : A.cell? ⟨e, 0, none⟩ = some (.slice (some ⟨ge, 0, none⟩) t ce)) (hr : A.heap[r]? = some (.cells #[.bool false] 4)) (hrp : r ≠ p) (hre : r ≠ e) (hit : i < t) (cN : A.cell? ⟨n, 0, none⟩ = some (.int .i64 (N : Int))) (cG : A.cell? ⟨ge, i, none⟩ = some (.int .i64 (EE : Int))) (hNE : N < EE) (hrn : r ≠ n) (hrg : r ≠ ge)
    (hQ : ∀ a' w9, a'.defers = ds → a'.tmps[4]? = some (.pointer (some ⟨r, 0, none⟩)) → Below A.heap.size A w9 → Q .normal a' (w9.setCell ⟨r, 0, none⟩ (.bool true))) :
    (Code.region 23 #[{ dst := some 98, op := Op.load 3 (Operand.tmp 13), type := 3, pos := "law.go:99", after := #[], guard := none }, { dst := some 99, op := Op.load 35 (Operand.tmp 6), type := 35, pos := "law.go:99", after := #[], guard := none }, { dst := some 100, op := Op.call { callee := Callee.builtin Builtin.len, args := #[Operand.tmp 99], argTypes := #[35] }, type := 3, pos := "law.go:99", after := #[{ on := 1, ground := Ground.data }], guard := none }, { dst := some 101, op := Op.binOp BinOp.eql 3 (Operand.tmp 98) (Operand.tmp 100) 3, type := 4, pos := "law.go:99", after := #[{ on := 0, ground := Ground.data }, { on := 2, ground := Ground.data }], guard := none }, { dst := some 102, op := Op.move (Operand.tmp 101), type := 4, pos := "law.go:99", after := #[{ on := 3, ground := Ground.data }], guard := none }, { dst := some 103, op := Op.load 35 (Operand.tmp 6), type := 35, pos := "law.go:99", after := #[{ on := 4, ground := Ground.guard }], guard := some (4, false) }, { dst := some 104, op := Op.load 3 (Operand.tmp 13), type := 3, pos := "law.go:99", after := #[{ on := 4, ground := Ground.guard }], guard := some (4, false) }, { dst := some 105, op := Op.indexAddr 35 (Operand.tmp 103) (Operand.tmp 104), type := 0, pos := "law.go:99", after := #[{ on := 5, ground := Ground.data }, { on := 6, ground := Ground.data }, { on := 4, ground := Ground.guard }], guard := some (4, false) }, { dst := some 106, op := Op.load 3 (Operand.tmp 105), type := 3, pos := "law.go:99", after := #[{ on := 7, ground := Ground.data }, { on := 4, ground := Ground.guard }], guard := some (4, false) }, { dst := some 107, op := Op.load 3 (Operand.tmp 11), type := 3, pos := "law.go:99", after := #[{ on := 4, ground := Ground.guard }], guard := some (4, false) }, { dst := some 108, op := Op.binOp BinOp.gtr 3 (Operand.tmp 106) (Operand.tmp 107) 3, type := 4, pos := "law.go:99", after := #[{ on := 8, ground := Ground.data }, { on := 9, ground := Ground.data }, { on := 4, ground := Ground.guard }], guard := some (4, false) }, { dst := some 109, op := Op.pick (Operand.tmp 102) (Operand.const (Value.bool true)) (Operand.tmp 108), type := 4, pos := "law.go:99", after := #[{ on := 4, ground := Ground.data }, { on := 10, ground := Ground.data }], guard := none }, { dst := some 110, op := Op.move (Operand.tmp 109), type := 4, pos := "law.go:99", after := #[{ on := 11, ground := Ground.data }, { on := 4, ground := Ground.chain }], guard := none }, { dst := some 111, op := Op.call { callee := Callee.value (Operand.func 6), args := #[], argTypes := #[] }, type := 4, pos := "law.go:99", after := #[{ on := 12, ground := Ground.chain }, { on := 12, ground := Ground.guard }], guard := some (12, true) }, { dst := some 112, op := Op.pick (Operand.tmp 110) (Operand.tmp 111) (Operand.const (Value.bool false)), type := 4, pos := "law.go:99", after := #[{ on := 12, ground := Ground.data }, { on := 13, ground := Ground.data }], guard := none }, { dst := none, op := Op.store 4 (Operand.tmp 4) (Operand.tmp 112), type := 0, pos := "law.go:99", after := #[{ on := 14, ground := Ground.data }, { on := 13, ground := Ground.chain }, { on := 0, ground := Ground.phase }, { on := 1, ground := Ground.phase }, { on := 2, ground := Ground.phase }, { on := 3, ground := Ground.phase }, { on := 4, ground := Ground.phase }, { on := 5, ground := Ground.phase }, { on := 6, ground := Ground.phase }, { on := 7, ground := Ground.phase }, { on := 8, ground := Ground.phase }, { on := 9, ground := Ground.phase }, { on := 10, ground := Ground.phase }, { on := 11, ground := Ground.phase }, { on := 12, ground := Ground.phase }, { on := 13, ground := Ground.phase }, { on := 14, ground := Ground.phase }], guard := none }] true).wp Try.prog Q { tmps := #[x0, x1, x2, x3, .pointer (some ⟨r, 0, none⟩), x5, .pointer (some ⟨e, 0, none⟩), x7, x8, x9, x10, .pointer (some ⟨n, 0, none⟩), x12, .pointer (some ⟨p, 0, none⟩), x14, x15, x16, x17, x18, x19, x20, x21, x22, x23, x24, x25, x26, x27, x28, x29, x30, x31, x32, x33, x34, x35, x36, x37, x38, x39, x40, x41, x42, x43, x44, x45, x46, x47, x48, x49, x50, x51, x52, x53, x54, x55, x56, x57, x58, x59, x60, x61, x62, x63, x64, x65, x66, x67, x68, x69, x70, x71, x72, x73, x74, x75, x76, x77, x78, x79, x80, x81, x82, x83, x84, x85, x86, x87, x88, x89, x90, x91, x92, x93, x94, x95, x96, x97, x98, x99, x100, x101, x102, x103, x104, x105, x106, x107, x108, x109, x110, x111, x112], defers := ds } A := by
  refine Code.wp_mono (Q := fun x a' w' => match x with | .normal => Q .normal a' w' | _ => False) (by intro x a' w' h; cases x <;> first | exact h | exact h.elim) ?_
  obtain ⟨S, hSd⟩ : ∃ S : World → Prop, S = fun W => W.cell? ⟨p, 0, none⟩ = some (.int .i64 (i : Int)) ∧ W.cell? ⟨e, 0, none⟩ = some (.slice (some ⟨ge, 0, none⟩) t ce) ∧ W.cell? ⟨n, 0, none⟩ = some (.int .i64 (N : Int)) ∧ W.cell? ⟨ge, i, none⟩ = some (.int .i64 (EE : Int)) := ⟨_, rfl⟩
  refine wp_region_held (S := S) (by kernel_rfl) ?_
  have hS : S A.drew := by rw [hSd]; exact ⟨cI, cE, cN, cG⟩
  have HS : Hid (S A.drew) := hS
  have hne : ¬ (i : Int) = (t : Int) := by omega
  have hi0 : i < t := hit
  have hi1 : (i : Int) < (t : Int) := by omega
  have hNE1 : (N : Int) < (EE : Int) := by omega
  change wpAnyH Try.prog .any _ _ S 16 (Array.replicate 16 false) _ A.drew
  refine wpAnyH_take (i := 0) (oi := { dst := some 98, op := Op.load 3 (Operand.tmp 13), type := 3, pos := "law.go:99", after := #[], guard := none }) (v := .int .i64 (i : Int)) rfl (by kernel_rfl) (by kernel_rfl) (by kernel_rfl) (fun _ _ _ h => h.elim) (Or.inl ⟨by rfl, ?y0⟩) hS ?_
  case y0 =>
    intro W hW
    rw [hSd] at hW; obtain ⟨s1, s2, s3, s4⟩ := hW
    go_simp
  simp only [Act.put, List.setIfInBounds_toArray, List.set_cons_zero, List.set_cons_succ]
  refine wpAnyH_take (i := 1) (oi := { dst := some 99, op := Op.load 35 (Operand.tmp 6), type := 35, pos := "law.go:99", after := #[], guard := none }) (v := .slice (some ⟨ge, 0, none⟩) t ce) rfl (by kernel_rfl) (by kernel_rfl) (by kernel_rfl) (fun _ _ _ h => h.elim) (Or.inl ⟨by rfl, ?y1⟩) hS ?_
  case y1 =>
    intro W hW
    rw [hSd] at hW; obtain ⟨s1, s2, s3, s4⟩ := hW
    go_simp
  simp only [Act.put, List.setIfInBounds_toArray, List.set_cons_zero, List.set_cons_succ]
  refine wpAnyH_take (i := 2) (oi := { dst := some 100, op := Op.call { callee := Callee.builtin Builtin.len, args := #[Operand.tmp 99], argTypes := #[35] }, type := 3, pos := "law.go:99", after := #[{ on := 1, ground := Ground.data }], guard := none }) (v := .int .i64 (t : Int)) rfl (by kernel_rfl) (by kernel_rfl) (by kernel_rfl) (fun _ _ _ h => h.elim) (Or.inl ⟨by rfl, ?y2⟩) hS ?_
  case y2 =>
    intro W hW
    rw [hSd] at hW; obtain ⟨s1, s2, s3, s4⟩ := hW
    go_simp
  simp only [Act.put, List.setIfInBounds_toArray, List.set_cons_zero, List.set_cons_succ]
  refine wpAnyH_take (i := 3) (oi := { dst := some 101, op := Op.binOp BinOp.eql 3 (Operand.tmp 98) (Operand.tmp 100) 3, type := 4, pos := "law.go:99", after := #[{ on := 0, ground := Ground.data }, { on := 2, ground := Ground.data }], guard := none }) (v := .bool false) rfl (by kernel_rfl) (by kernel_rfl) (by kernel_rfl) (fun _ _ _ h => h.elim) (Or.inl ⟨by rfl, ?y3⟩) hS ?_
  case y3 =>
    intro W hW
    rw [hSd] at hW; obtain ⟨s1, s2, s3, s4⟩ := hW
    go_simp
  simp only [Act.put, List.setIfInBounds_toArray, List.set_cons_zero, List.set_cons_succ]
  refine wpAnyH_take (i := 4) (oi := { dst := some 102, op := Op.move (Operand.tmp 101), type := 4, pos := "law.go:99", after := #[{ on := 3, ground := Ground.data }], guard := none }) (v := .bool false) rfl (by kernel_rfl) (by kernel_rfl) (by kernel_rfl) (fun _ _ _ h => h.elim) (Or.inl ⟨by rfl, ?y4⟩) hS ?_
  case y4 =>
    intro W hW
    rw [hSd] at hW; obtain ⟨s1, s2, s3, s4⟩ := hW
    go_simp
  simp only [Act.put, List.setIfInBounds_toArray, List.set_cons_zero, List.set_cons_succ]
  refine wpAnyH_take (i := 5) (oi := { dst := some 103, op := Op.load 35 (Operand.tmp 6), type := 35, pos := "law.go:99", after := #[{ on := 4, ground := Ground.guard }], guard := some (4, false) }) (v := .slice (some ⟨ge, 0, none⟩) t ce) rfl (by kernel_rfl) (by kernel_rfl) (by kernel_rfl) (fun _ _ _ h => h.elim) (Or.inl ⟨by rfl, ?y5⟩) hS ?_
  case y5 =>
    intro W hW
    rw [hSd] at hW; obtain ⟨s1, s2, s3, s4⟩ := hW
    go_simp
  simp only [Act.put, List.setIfInBounds_toArray, List.set_cons_zero, List.set_cons_succ]
  refine wpAnyH_take (i := 6) (oi := { dst := some 104, op := Op.load 3 (Operand.tmp 13), type := 3, pos := "law.go:99", after := #[{ on := 4, ground := Ground.guard }], guard := some (4, false) }) (v := .int .i64 (i : Int)) rfl (by kernel_rfl) (by kernel_rfl) (by kernel_rfl) (fun _ _ _ h => h.elim) (Or.inl ⟨by rfl, ?y6⟩) hS ?_
  case y6 =>
    intro W hW
    rw [hSd] at hW; obtain ⟨s1, s2, s3, s4⟩ := hW
    go_simp
  simp only [Act.put, List.setIfInBounds_toArray, List.set_cons_zero, List.set_cons_succ]
  refine wpAnyH_take (i := 7) (oi := { dst := some 105, op := Op.indexAddr 35 (Operand.tmp 103) (Operand.tmp 104), type := 0, pos := "law.go:99", after := #[{ on := 5, ground := Ground.data }, { on := 6, ground := Ground.data }, { on := 4, ground := Ground.guard }], guard := some (4, false) }) (v := .pointer (some ⟨ge, i, none⟩)) rfl (by kernel_rfl) (by kernel_rfl) (by kernel_rfl) (fun _ _ _ h => h.elim) (Or.inl ⟨by rfl, ?y7⟩) hS ?_
  case y7 =>
    intro W hW
    rw [hSd] at hW; obtain ⟨s1, s2, s3, s4⟩ := hW
    go_simp
  simp only [Act.put, List.setIfInBounds_toArray, List.set_cons_zero, List.set_cons_succ]
  refine wpAnyH_take (i := 8) (oi := { dst := some 106, op := Op.load 3 (Operand.tmp 105), type := 3, pos := "law.go:99", after := #[{ on := 7, ground := Ground.data }, { on := 4, ground := Ground.guard }], guard := some (4, false) }) (v := .int .i64 (EE : Int)) rfl (by kernel_rfl) (by kernel_rfl) (by kernel_rfl) (fun _ _ _ h => h.elim) (Or.inl ⟨by rfl, ?y8⟩) hS ?_
  case y8 =>
    intro W hW
    rw [hSd] at hW; obtain ⟨s1, s2, s3, s4⟩ := hW
    go_simp
  simp only [Act.put, List.setIfInBounds_toArray, List.set_cons_zero, List.set_cons_succ]
  refine wpAnyH_take (i := 9) (oi := { dst := some 107, op := Op.load 3 (Operand.tmp 11), type := 3, pos := "law.go:99", after := #[{ on := 4, ground := Ground.guard }], guard := some (4, false) }) (v := .int .i64 (N : Int)) rfl (by kernel_rfl) (by kernel_rfl) (by kernel_rfl) (fun _ _ _ h => h.elim) (Or.inl ⟨by rfl, ?y9⟩) hS ?_
  case y9 =>
    intro W hW
    rw [hSd] at hW; obtain ⟨s1, s2, s3, s4⟩ := hW
    go_simp
  simp only [Act.put, List.setIfInBounds_toArray, List.set_cons_zero, List.set_cons_succ]
  refine wpAnyH_take (i := 10) (oi := { dst := some 108, op := Op.binOp BinOp.gtr 3 (Operand.tmp 106) (Operand.tmp 107) 3, type := 4, pos := "law.go:99", after := #[{ on := 8, ground := Ground.data }, { on := 9, ground := Ground.data }, { on := 4, ground := Ground.guard }], guard := some (4, false) }) (v := .bool true) rfl (by kernel_rfl) (by kernel_rfl) (by kernel_rfl) (fun _ _ _ h => h.elim) (Or.inl ⟨by rfl, ?y10⟩) hS ?_
  case y10 =>
    intro W hW
    rw [hSd] at hW; obtain ⟨s1, s2, s3, s4⟩ := hW
    go_simp
  simp only [Act.put, List.setIfInBounds_toArray, List.set_cons_zero, List.set_cons_succ]
  refine wpAnyH_take (i := 11) (oi := { dst := some 109, op := Op.pick (Operand.tmp 102) (Operand.const (Value.bool true)) (Operand.tmp 108), type := 4, pos := "law.go:99", after := #[{ on := 4, ground := Ground.data }, { on := 10, ground := Ground.data }], guard := none }) (v := .bool true) rfl (by kernel_rfl) (by kernel_rfl) (by kernel_rfl) (fun _ _ _ h => h.elim) (Or.inl ⟨by rfl, ?y11⟩) hS ?_
  case y11 =>
    intro W hW
    rw [hSd] at hW; obtain ⟨s1, s2, s3, s4⟩ := hW
    go_simp
  simp only [Act.put, List.setIfInBounds_toArray, List.set_cons_zero, List.set_cons_succ]
  refine wpAnyH_take (i := 12) (oi := { dst := some 110, op := Op.move (Operand.tmp 109), type := 4, pos := "law.go:99", after := #[{ on := 11, ground := Ground.data }, { on := 4, ground := Ground.chain }], guard := none }) (v := .bool true) rfl (by kernel_rfl) (by kernel_rfl) (by kernel_rfl) (fun _ _ _ h => h.elim) (Or.inl ⟨by rfl, ?y12⟩) hS ?_
  case y12 =>
    intro W hW
    rw [hSd] at hW; obtain ⟨s1, s2, s3, s4⟩ := hW
    go_simp
  simp only [Act.put, List.setIfInBounds_toArray, List.set_cons_zero, List.set_cons_succ]
  refine wpAnyH_ready (rs := [13]) (by kernel_rfl) (by simp) (AllReadyH.cons (i := 13) (o := { dst := some 111, op := Op.call { callee := Callee.value (Operand.func 6), args := #[], argTypes := #[] }, type := 4, pos := "law.go:99", after := #[{ on := 12, ground := Ground.chain }, { on := 12, ground := Ground.guard }], guard := some (12, true) }) rfl ?_ AllReadyH.nil)
  intro K' hK'
  rw [if_pos (by rfl)]
  have hlv := lives_is A.drew
  have HLV : Hid (Calls Try.prog 6 #[] A.drew fun e w' => e = .returned (.bool true) ∧ Below A.drew.heap.size A.drew w') := hlv
  clear hlv
  go_wp2_with (first | (go_at_call 6; refine HLV.out.mono ?_; rintro e w9 ⟨rfl, hb9⟩))
  have HB9 : Hid (Below A.heap.size A w9) := ⟨hb9.os, hb9.tape, hb9.output, hb9.size, hb9.block⟩
  have hS9 : S w9 := by rw [hSd]; exact ⟨(HB9.out.cell (p := ⟨p, 0, none⟩) (World.block_lt_of_cell? A _ cI)).trans cI, (HB9.out.cell (p := ⟨e, 0, none⟩) (World.block_lt_of_cell? A _ cE)).trans cE, (HB9.out.cell (p := ⟨n, 0, none⟩) (World.block_lt_of_cell? A _ cN)).trans cN, (HB9.out.cell (p := ⟨ge, i, none⟩) (World.block_lt_of_cell? A _ cG)).trans cG⟩
  have HR9 : Hid (w9.heap[r]? = some (.cells #[.bool false] 4)) := (HB9.out.block r (lt_of_block hr)).trans hr
  have c9 := (cell_box HR9.out).1
  have f9 := (cell_box HR9.out).2
  clear hb9
  refine hK'.out _ _ hS9 ?_
  clear hS hK'
  intro hS
  refine wpAnyH_take (i := 14) (oi := { dst := some 112, op := Op.pick (Operand.tmp 110) (Operand.tmp 111) (Operand.const (Value.bool false)), type := 4, pos := "law.go:99", after := #[{ on := 12, ground := Ground.data }, { on := 13, ground := Ground.data }], guard := none }) (v := .bool true) rfl (by kernel_rfl) (by kernel_rfl) (by kernel_rfl) (fun _ _ _ h => h.elim) (Or.inl ⟨by rfl, ?y14⟩) hS ?_
  case y14 =>
    intro W hW
    rw [hSd] at hW; obtain ⟨s1, s2, s3, s4⟩ := hW
    go_simp
  simp only [Act.put, List.setIfInBounds_toArray, List.set_cons_zero, List.set_cons_succ]
  refine wpAnyH_ready (rs := [15]) (by kernel_rfl) (by simp) (AllReadyH.cons (i := 15) (o := { dst := none, op := Op.store 4 (Operand.tmp 4) (Operand.tmp 112), type := 0, pos := "law.go:99", after := #[{ on := 14, ground := Ground.data }, { on := 13, ground := Ground.chain }, { on := 0, ground := Ground.phase }, { on := 1, ground := Ground.phase }, { on := 2, ground := Ground.phase }, { on := 3, ground := Ground.phase }, { on := 4, ground := Ground.phase }, { on := 5, ground := Ground.phase }, { on := 6, ground := Ground.phase }, { on := 7, ground := Ground.phase }, { on := 8, ground := Ground.phase }, { on := 9, ground := Ground.phase }, { on := 10, ground := Ground.phase }, { on := 11, ground := Ground.phase }, { on := 12, ground := Ground.phase }, { on := 13, ground := Ground.phase }, { on := 14, ground := Ground.phase }], guard := none }) rfl ?_ AllReadyH.nil)
  intro K2 hK2
  rw [if_pos (by rfl)]
  go_wp2
  refine hK2.out _ _ ?_ ?_
  · rw [hSd] at hS ⊢
    obtain ⟨s1, s2, s3, s4⟩ := hS
    exact ⟨(World.cell?_setCell_far _ _ _ _ hrp).trans s1, (World.cell?_setCell_far _ _ _ _ hre).trans s2, (World.cell?_setCell_far _ _ _ _ hrn).trans s3, (World.cell?_setCell_far _ _ _ _ hrg).trans s4⟩
  · intro _
    refine wpAnyH_done (by kernel_rfl) ?_ _
    exact hQ _ w9 rfl rfl HB9.out
theorem results_bool {tm : Array Value} {W : World} {r : Nat} (h : tm[4]? = some (.pointer (some ⟨r, 0, none⟩))) (hc : W.cell? ⟨r, 0, none⟩ = some (.bool true)) : (results Try.f4 tm).run Try.prog W = .ok (.bool true) W := by
  have hr : Try.f4.results = #[.cell 4 4] := rfl
  have h' : tm.getD 4 undef = .pointer (some ⟨r, 0, none⟩) := by simp [h]
  simp only [results, hr]
  go_simp
theorem leaves_last {w A w9 : World} {d : Nat} {tm : Array Value} (HBA : Below w.heap.size w A) (h3 : Below A.heap.size A w9) (hd : w.heap.size + 1 < d) (hdA : A.heap[d]? = some (.deferred (some []))) (hR : A.heap[w.heap.size + 1]? = some (.cells #[.bool false] 4)) (h2 : tm[4]? = some (.pointer (some ⟨w.heap.size + 1, 0, none⟩))) :
    LeavesInM Fence.wide 9 Try.prog Try.f4 tm (fun e w' => e = .returned (.bool true) ∧ Below w.heap.size w w') [{ target := .collected d, args := #[] }] .returning (w9.setCell ⟨w.heap.size + 1, 0, none⟩ (.bool true)) := by
  have e1 : w9.heap[d]? = some (.deferred (some [])) := (h3.block d (lt_of_block hdA)).trans hdA
  have e2 : w9.heap[w.heap.size + 1]? = some (.cells #[.bool false] 4) := (h3.block _ (lt_of_block hR)).trans hR
  have e3 : (w9.setCell ⟨w.heap.size + 1, 0, none⟩ (.bool true)).heap[d]? = some (.deferred (some [])) := (heap_setCell_other w9 ⟨w.heap.size + 1, 0, none⟩ d _ (by show d ≠ w.heap.size + 1; omega)).trans e1
  have e4 : (w9.setCell ⟨w.heap.size + 1, 0, none⟩ (.bool true)).heap[w.heap.size + 1]? = some (.cells #[.bool true] 4) := heap_setCell_same w9 (w.heap.size + 1) 0 #[.bool false] 4 (.bool true) e2
  refine ⟨by simp, .inl ⟨_, _, rfl, run_takeDeferred e3, ?_⟩⟩
  have e5 : ((w9.setCell ⟨w.heap.size + 1, 0, none⟩ (.bool true)).putObj d (.deferred none)).heap[w.heap.size + 1]? = some (.cells #[.bool true] 4) := (World.putObj_heap_other (by omega)).trans e4
  refine ⟨_, results_bool h2 (cell_one e5), rfl, ?_⟩
  have k1 : Below w.heap.size w w9 := HBA.trans (h3.mono HBA.size)
  exact (k1.setCell (p := ⟨w.heap.size + 1, 0, none⟩) (by show w.heap.size ≤ w.heap.size + 1; omega) _).trans (below_putObj _ _ _ _ (by omega))
end Go.Proofs.Ytchblcfbllcbmab.Oct
