/-
  Layer 21 (queue): what QueueProgress keeps; its drawn regions.
-/
import Derived.Test.YtipipckbcelphaaViw
namespace Go.Proofs.Ytipipckbcelphaa.Oct
open Go.RowKit Go.Shelf
set_option linter.unusedSimpArgs false
set_option linter.unusedVariables false

/-- a queue of the call's own -/
structure PI (w W : World) (b : Nat) (M : Qu) (T : Value) (K : Nat) : Prop where
  q : QAt W b M T K
  bel : Below w.heap.size w W
  old : ∀ k ∈ M.bl b, w.heap.size ≤ k
section
variable {w W W' : World} {b K K' gw : Nat} {M M' : Qu} {T : Value}
theorem PI.call (h : PI w W b M T K) {T' : Value} (hq : QAt W' b M' T' K') (ha : QAfter W b M M' W') : PI w W' b M' T' K' := by
  have h1 := ha.below h.bel.size h.old
  exact ⟨hq, h.bel.trans h1.1, h1.2⟩
theorem PI.below (h : PI w W b M T K) (hb : Below W.heap.size W W') : PI w W' b M T K := ⟨h.q.below hb, h.bel.trans (hb.mono h.bel.size), h.old⟩
/-- a row beside it -/
structure RI (W : World) (b : Nat) (M : Qu) (gw n : Nat) (l : List Int) : Prop where
  row : Nums W (some ⟨gw, 0, none⟩) n l
  lt : gw < W.heap.size
  out : gw ∉ M.bl b
theorem RI.call {n : Nat} {l : List Int} (h : RI W b M gw n l) (ha : QAfter W b M M' W') : RI W' b M' gw n l :=
  ⟨h.row.keep (fun g o e hg => by cases e; exact ha.2.block gw hg h.out) ha.2.size, Nat.lt_of_lt_of_le h.lt ha.2.size, fun e => (ha.1 gw e).elim h.out (fun e => by have := h.lt; omega)⟩
theorem RI.below {n : Nat} {l : List Int} (h : RI W b M gw n l) (hb : Below W.heap.size W W') : RI W' b M gw n l := ⟨h.row.below hb, Nat.lt_of_lt_of_le h.lt hb.size, h.out⟩
theorem RI.cell {n i : Nat} {l : List Int} {x : Int} (h : RI W b M gw n l) (hx : l[i]? = some x) : W.cell? ⟨gw, i, none⟩ = some (iv x) := by
  obtain ⟨b', o', e, _, h3⟩ := h.row.2 (by rw [← h.row.1]; have := (List.getElem?_eq_some_iff.1 hx).1; omega)
  cases e
  have := h3 i x hx
  rwa [Nat.zero_add] at this
end
theorem putW_cases (W : List Int) (x : Int) : putW W x = W ∨ putW W x = W ++ [x] := by
  unfold putW
  split
  · exact .inl rfl
  · split
    · exact .inl rfl
    · split
      · exact .inl rfl
      · exact .inr rfl
theorem putW_nodup {W : List Int} (h : W.Nodup) (x : Int) : (putW W x).Nodup := by
  unfold putW
  split
  · exact h
  · split
    · exact h
    · rename_i hm
      split
      · exact h
      · rw [List.nodup_append]
        exact ⟨h, by simp, fun a ha c hc e => hm (by simp at hc; rw [← hc, ← e]; exact ha)⟩
theorem plc_nodup {l : List Int} {x : Int} {k : Nat} (h : l.Nodup) (hx : l[k]? = some x) : plc l x = k := by
  refine plc_yes hx fun j y hj hy e => ?_
  subst e
  obtain ⟨h1, h2⟩ := List.getElem?_eq_some_iff.1 hx
  obtain ⟨h3, h4⟩ := List.getElem?_eq_some_iff.1 hy
  have := (List.nodup_iff_pairwise_ne.1 h)
  have h5 := List.pairwise_iff_getElem.1 this j k h3 h1 hj
  exact h5 (by rw [h4, h2])
/-- what waits and what ended behind i steps -/
def PS (M : Qu) (W0 : List Int) (i : Nat) : Prop := (∃ ex, M.W = W0.drop i ++ ex) ∧ M.E.length = i ∧ ∀ (j : Nat) (y : Int × Int × Int), M.E[j]? = some y → W0[j]? = some y.1
theorem PS.put {M : Qu} {W0 : List Int} {i : Nat} (h : PS M W0 i) (v : Value) (x : Int) : PS ⟨v, M.ev, putW M.W x, M.E⟩ W0 i := by
  obtain ⟨⟨ex, h1⟩, h2, h3⟩ := h
  refine ⟨?_, h2, h3⟩
  rcases putW_cases M.W x with e | e
  · exact ⟨ex, by show putW M.W x = _; rw [e, h1]⟩
  · exact ⟨ex ++ [x], by show putW M.W x = _; rw [e, h1, List.append_assoc]⟩
theorem PS.first {M : Qu} {W0 : List Int} {i : Nat} {x : Int} (h : PS M W0 i) (hx : W0[i]? = some x) : M.W[0]? = some x := by
  obtain ⟨⟨ex, h1⟩, _⟩ := h
  obtain ⟨h2, h3⟩ := List.getElem?_eq_some_iff.1 hx
  rw [h1, List.getElem?_append_left (by simp; omega), List.getElem?_drop]
  exact hx
theorem PS.step {M : Qu} {W0 : List Int} {i : Nat} {x : Int} (h : PS M W0 i) (hx : W0[i]? = some x) (v u : Value) (r s : Int) : PS ⟨v, u, M.W.eraseIdx 0, M.E ++ [(x, r, s)]⟩ W0 (i + 1) := by
  obtain ⟨⟨ex, h1⟩, h2, h3⟩ := h
  obtain ⟨h4, h5⟩ := List.getElem?_eq_some_iff.1 hx
  refine ⟨⟨ex, ?_⟩, by simp [h2], fun j y hy => ?_⟩
  · show M.W.eraseIdx 0 = _
    rw [h1, List.drop_eq_getElem_cons h4]
    rfl
  · replace hy : (M.E ++ [(x, r, s)])[j]? = some y := hy
    rw [List.getElem?_append] at hy
    split at hy
    · exact h3 j y hy
    · have : j = i := by
        have := (List.getElem?_eq_some_iff.1 hy).1
        simp at this
        omega
      subst this
      rw [h2, Nat.sub_self] at hy
      simp at hy
      rw [← hy]
      exact hx
theorem PS.start {M : Qu} {W0 : List Int} (h1 : M.W = W0) (h2 : M.E = []) : PS M W0 0 := ⟨⟨[], by simp [h1]⟩, by simp [h2], fun j y hy => by rw [h2] at hy; cases hy⟩
set_option maxRecDepth 100000 in
set_option maxHeartbeats 4000000 in
theorem prog22t {Q : Exit → Act → World → Prop} {x0 x1 x2 x3 x4 x5 x6 x7 x8 x9 x11 x16 x17 x18 x19 x20 x21 x22 x23 x24 x25 x26 x27 x28 x29 x30 x31 x32 x33 x34 x35 x36 x37 x38 x39 x40 x41 x42 x43 x44 x45 x46 x47 x48 x49 x50 x51 x52 x53 x54 x55 x56 x57 x58 x59 x60 x61 x62 x63 x64 x65 x66 x67 x68 x69 x70 x71 x72 x73 x74 x75 x76 x77 x78 x79 x80 x81 x82 x83 x84 x85 x86 x87 x88 x89 x90 x91 x92 x93 x94 x95 x96 x97 x98 x99 x100 x101 x102 x103 x104 x105 x106 x107 x108 x109 x110 x111 x112 x113 x114 x115 x116 x117 x118 x119 x120 x121 x122 x123 x124 x125 x126 x127 x128 x129 x130 x131 x132 x133 x134 x135 x136 x137 x138 x139 x140 : Value} {ds : List Deferred} {A : World} {gw g13 g14 n cw i : Nat} {x h r : Int}
    (HL : Hid (gw < A.heap.size ∧ g14 < A.heap.size ∧ g13 < A.heap.size)) (k0 : A.cell? ⟨g14, 0, none⟩ = some (iv x)) (k1 : A.cell? ⟨g14, 1, none⟩ = some (iv h)) (k2 : A.cell? ⟨g14, 2, none⟩ = some (iv r)) (k3 : A.cell? ⟨g13, 0, none⟩ = some (iv r)) (k4 : A.cell? ⟨gw, i, none⟩ = some (iv x)) (q1 : (i : Int) < (n : Int)) (q2 : i < n) (b1 : (h == 1) = true) (b2 : (r == 0) = true)
    (hQ : ∀ V1, Below A.heap.size A V1 → Q .normal { tmps := #[x0, x1, x2, x3, x4, x5, x6, x7, x8, x9, .slice (some ⟨gw, 0, none⟩) n cw, x11, iv (i : Int), .pointer (some ⟨g13, 0, none⟩), .pointer (some ⟨g14, 0, none⟩), iv 0, x16, x17, x18, x19, x20, x21, x22, x23, x24, x25, x26, x27, x28, x29, x30, x31, x32, x33, x34, x35, x36, x37, x38, x39, x40, x41, x42, x43, x44, x45, x46, x47, x48, x49, x50, x51, x52, x53, x54, x55, x56, x57, x58, x59, x60, x61, x62, x63, x64, x65, x66, x67, x68, x69, x70, x71, x72, x73, x74, x75, x76, x77, x78, x79, x80, x81, x82, x83, x84, x85, x86, x87, x88, x89, x90, x91, x92, iv 0, .bool false, .bool false, .pointer (some ⟨g14, 0, none⟩), iv x, .slice (some ⟨gw, 0, none⟩) n cw, iv (i : Int), .pointer (some ⟨gw, i, none⟩), iv x, .bool false, .bool false, .bool false, .pointer (some ⟨g14, 1, none⟩), iv h, .bool true, iv r, .bool true, .bool false, .bool false, .bool false, .pointer (some ⟨g14, 2, none⟩), iv r, iv r, .bool false, .bool false, x118, x119, x120, x121, x122, x123, x124, x125, x126, x127, x128, x129, x130, x131, x132, x133, x134, x135, x136, x137, x138, x139, x140], defers := ds } V1) :
    (Code.region 22 #[{ dst := some 93, op := Op.move (Operand.tmp 15), type := 33, pos := "law.go:146", after := #[], guard := none }, { dst := some 94, op := Op.binOp BinOp.neq 33 (Operand.tmp 93) (Operand.const (Value.int IntKind.i64 0)) 33, type := 4, pos := "law.go:146", after := #[{ on := 0, ground := Ground.data }], guard := none }, { dst := some 95, op := Op.move (Operand.tmp 94), type := 4, pos := "law.go:146", after := #[{ on := 1, ground := Ground.data }], guard := none }, { dst := some 96, op := Op.fieldAddr 38 (Operand.tmp 14) 0, type := 0, pos := "law.go:146", after := #[{ on := 2, ground := Ground.guard }], guard := some (2, false) }, { dst := some 97, op := Op.load 3 (Operand.tmp 96), type := 3, pos := "law.go:146", after := #[{ on := 3, ground := Ground.data }, { on := 2, ground := Ground.guard }], guard := some (2, false) }, { dst := some 98, op := Op.move (Operand.tmp 10), type := 27, pos := "law.go:146", after := #[{ on := 2, ground := Ground.guard }], guard := some (2, false) }, { dst := some 99, op := Op.move (Operand.tmp 12), type := 3, pos := "law.go:146", after := #[{ on := 2, ground := Ground.guard }], guard := some (2, false) }, { dst := some 100, op := Op.indexAddr 27 (Operand.tmp 98) (Operand.tmp 99), type := 0, pos := "law.go:146", after := #[{ on := 5, ground := Ground.data }, { on := 6, ground := Ground.data }, { on := 2, ground := Ground.guard }], guard := some (2, false) }, { dst := some 101, op := Op.load 3 (Operand.tmp 100), type := 3, pos := "law.go:146", after := #[{ on := 7, ground := Ground.data }, { on := 2, ground := Ground.guard }], guard := some (2, false) }, { dst := some 102, op := Op.binOp BinOp.neq 3 (Operand.tmp 97) (Operand.tmp 101) 3, type := 4, pos := "law.go:146", after := #[{ on := 4, ground := Ground.data }, { on := 8, ground := Ground.data }, { on := 2, ground := Ground.guard }], guard := some (2, false) }, { dst := some 103, op := Op.pick (Operand.tmp 95) (Operand.const (Value.bool true)) (Operand.tmp 102), type := 4, pos := "law.go:146", after := #[{ on := 2, ground := Ground.data }, { on := 9, ground := Ground.data }], guard := none }, { dst := some 104, op := Op.move (Operand.tmp 103), type := 4, pos := "law.go:146", after := #[{ on := 10, ground := Ground.data }, { on := 2, ground := Ground.chain }], guard := none }, { dst := some 105, op := Op.fieldAddr 38 (Operand.tmp 14) 1, type := 0, pos := "law.go:146", after := #[{ on := 11, ground := Ground.guard }], guard := some (11, false) }, { dst := some 106, op := Op.load 3 (Operand.tmp 105), type := 3, pos := "law.go:146", after := #[{ on := 12, ground := Ground.data }, { on := 11, ground := Ground.guard }], guard := some (11, false) }, { dst := some 107, op := Op.binOp BinOp.eql 3 (Operand.tmp 106) (Operand.const (Value.int IntKind.i64 1)) 3, type := 4, pos := "law.go:146", after := #[{ on := 13, ground := Ground.data }, { on := 11, ground := Ground.guard }], guard := some (11, false) }, { dst := some 108, op := Op.load 3 (Operand.tmp 13), type := 3, pos := "law.go:146", after := #[{ on := 11, ground := Ground.guard }], guard := some (11, false) }, { dst := some 109, op := Op.binOp BinOp.eql 3 (Operand.tmp 108) (Operand.const (Value.int IntKind.i64 0)) 3, type := 4, pos := "law.go:146", after := #[{ on := 15, ground := Ground.data }, { on := 11, ground := Ground.guard }], guard := some (11, false) }, { dst := some 110, op := Op.binOp BinOp.neq 4 (Operand.tmp 107) (Operand.tmp 109) 4, type := 4, pos := "law.go:146", after := #[{ on := 14, ground := Ground.data }, { on := 16, ground := Ground.data }, { on := 11, ground := Ground.guard }], guard := some (11, false) }, { dst := some 111, op := Op.pick (Operand.tmp 104) (Operand.const (Value.bool true)) (Operand.tmp 110), type := 4, pos := "law.go:146", after := #[{ on := 11, ground := Ground.data }, { on := 17, ground := Ground.data }], guard := none }, { dst := some 112, op := Op.move (Operand.tmp 111), type := 4, pos := "law.go:146", after := #[{ on := 18, ground := Ground.data }, { on := 11, ground := Ground.chain }], guard := none }, { dst := some 113, op := Op.fieldAddr 38 (Operand.tmp 14) 2, type := 0, pos := "law.go:146", after := #[{ on := 19, ground := Ground.guard }], guard := some (19, false) }, { dst := some 114, op := Op.load 33 (Operand.tmp 113), type := 33, pos := "law.go:146", after := #[{ on := 20, ground := Ground.data }, { on := 19, ground := Ground.guard }], guard := some (19, false) }, { dst := some 115, op := Op.load 3 (Operand.tmp 13), type := 3, pos := "law.go:146", after := #[{ on := 19, ground := Ground.guard }], guard := some (19, false) }, { dst := some 116, op := Op.binOp BinOp.neq 3 (Operand.tmp 114) (Operand.tmp 115) 3, type := 4, pos := "law.go:146", after := #[{ on := 21, ground := Ground.data }, { on := 22, ground := Ground.data }, { on := 19, ground := Ground.guard }], guard := some (19, false) }, { dst := some 117, op := Op.pick (Operand.tmp 112) (Operand.const (Value.bool true)) (Operand.tmp 116), type := 4, pos := "law.go:146", after := #[{ on := 19, ground := Ground.data }, { on := 23, ground := Ground.data }], guard := none }] true).wp Try.prog Q { tmps := #[x0, x1, x2, x3, x4, x5, x6, x7, x8, x9, .slice (some ⟨gw, 0, none⟩) n cw, x11, iv (i : Int), .pointer (some ⟨g13, 0, none⟩), .pointer (some ⟨g14, 0, none⟩), iv 0, x16, x17, x18, x19, x20, x21, x22, x23, x24, x25, x26, x27, x28, x29, x30, x31, x32, x33, x34, x35, x36, x37, x38, x39, x40, x41, x42, x43, x44, x45, x46, x47, x48, x49, x50, x51, x52, x53, x54, x55, x56, x57, x58, x59, x60, x61, x62, x63, x64, x65, x66, x67, x68, x69, x70, x71, x72, x73, x74, x75, x76, x77, x78, x79, x80, x81, x82, x83, x84, x85, x86, x87, x88, x89, x90, x91, x92, x93, x94, x95, x96, x97, x98, x99, x100, x101, x102, x103, x104, x105, x106, x107, x108, x109, x110, x111, x112, x113, x114, x115, x116, x117, x118, x119, x120, x121, x122, x123, x124, x125, x126, x127, x128, x129, x130, x131, x132, x133, x134, x135, x136, x137, x138, x139, x140], defers := ds } A := by
  refine Code.wp_mono (Q := fun x a' w' => match x with | .normal => Q .normal a' w' | _ => False) (by intro x a' w' h; cases x <;> first | exact h | exact h.elim) ?_
  refine wp_region_held (S := fun V => Below A.heap.size A V) (by kernel_rfl) ?_
  have hS0 : Hid (Below A.heap.size A A.drew) := below_drew0 A
  change wpAnyH Try.prog .any _ _ (fun V => Below A.heap.size A V) 25 (Array.replicate 25 false) _ A.drew
  obtain ⟨V0, hV0⟩ : ∃ V0, A.drew = V0 := ⟨_, rfl⟩
  rw [hV0]
  rw [hV0] at hS0
  clear hV0
  refine wpAnyH_take (i := 0) (oi := { dst := some 93, op := Op.move (Operand.tmp 15), type := 33, pos := "law.go:146", after := #[], guard := none }) (v := iv 0) rfl (by kernel_rfl) (by kernel_rfl) (by kernel_rfl) (fun _ _ _ h => h.elim) (Or.inl ⟨by rfl, ?y1⟩) hS0.out ?_
  case y1 =>
    intro V hV
    go_simp
  simp only [Act.put, List.setIfInBounds_toArray, List.set_cons_zero, List.set_cons_succ]
  refine wpAnyH_take (i := 1) (oi := { dst := some 94, op := Op.binOp BinOp.neq 33 (Operand.tmp 93) (Operand.const (Value.int IntKind.i64 0)) 33, type := 4, pos := "law.go:146", after := #[{ on := 0, ground := Ground.data }], guard := none }) (v := .bool false) rfl (by kernel_rfl) (by kernel_rfl) (by kernel_rfl) (fun _ _ _ h => h.elim) (Or.inl ⟨by rfl, ?y2⟩) hS0.out ?_
  case y2 =>
    intro V hV
    go_simp
  simp only [Act.put, List.setIfInBounds_toArray, List.set_cons_zero, List.set_cons_succ]
  refine wpAnyH_take (i := 2) (oi := { dst := some 95, op := Op.move (Operand.tmp 94), type := 4, pos := "law.go:146", after := #[{ on := 1, ground := Ground.data }], guard := none }) (v := .bool false) rfl (by kernel_rfl) (by kernel_rfl) (by kernel_rfl) (fun _ _ _ h => h.elim) (Or.inl ⟨by rfl, ?y3⟩) hS0.out ?_
  case y3 =>
    intro V hV
    go_simp
  simp only [Act.put, List.setIfInBounds_toArray, List.set_cons_zero, List.set_cons_succ]
  refine wpAnyH_take (i := 3) (oi := { dst := some 96, op := Op.fieldAddr 38 (Operand.tmp 14) 0, type := 0, pos := "law.go:146", after := #[{ on := 2, ground := Ground.guard }], guard := some (2, false) }) (v := .pointer (some ⟨g14, 0, none⟩)) rfl (by kernel_rfl) (by kernel_rfl) (by kernel_rfl) (fun _ _ _ h => h.elim) (Or.inl ⟨by rfl, ?y4⟩) hS0.out ?_
  case y4 =>
    intro V hV
    go_simp
  simp only [Act.put, List.setIfInBounds_toArray, List.set_cons_zero, List.set_cons_succ]
  refine wpAnyH_take (i := 4) (oi := { dst := some 97, op := Op.load 3 (Operand.tmp 96), type := 3, pos := "law.go:146", after := #[{ on := 3, ground := Ground.data }, { on := 2, ground := Ground.guard }], guard := some (2, false) }) (v := iv x) rfl (by kernel_rfl) (by kernel_rfl) (by kernel_rfl) (fun _ _ _ h => h.elim) (Or.inl ⟨by rfl, ?y5⟩) hS0.out ?_
  case y5 =>
    intro V hV
    have hc : V.cell? ⟨g14, 0, none⟩ = some (iv x) := ((show Below A.heap.size A V from hV).cell (p := ⟨g14, 0, none⟩) (HL.out.2.1)).trans k0
    go_simp
  simp only [Act.put, List.setIfInBounds_toArray, List.set_cons_zero, List.set_cons_succ]
  refine wpAnyH_take (i := 5) (oi := { dst := some 98, op := Op.move (Operand.tmp 10), type := 27, pos := "law.go:146", after := #[{ on := 2, ground := Ground.guard }], guard := some (2, false) }) (v := .slice (some ⟨gw, 0, none⟩) n cw) rfl (by kernel_rfl) (by kernel_rfl) (by kernel_rfl) (fun _ _ _ h => h.elim) (Or.inl ⟨by rfl, ?y6⟩) hS0.out ?_
  case y6 =>
    intro V hV
    go_simp
  simp only [Act.put, List.setIfInBounds_toArray, List.set_cons_zero, List.set_cons_succ]
  refine wpAnyH_take (i := 6) (oi := { dst := some 99, op := Op.move (Operand.tmp 12), type := 3, pos := "law.go:146", after := #[{ on := 2, ground := Ground.guard }], guard := some (2, false) }) (v := iv (i : Int)) rfl (by kernel_rfl) (by kernel_rfl) (by kernel_rfl) (fun _ _ _ h => h.elim) (Or.inl ⟨by rfl, ?y7⟩) hS0.out ?_
  case y7 =>
    intro V hV
    go_simp
  simp only [Act.put, List.setIfInBounds_toArray, List.set_cons_zero, List.set_cons_succ]
  refine wpAnyH_take (i := 7) (oi := { dst := some 100, op := Op.indexAddr 27 (Operand.tmp 98) (Operand.tmp 99), type := 0, pos := "law.go:146", after := #[{ on := 5, ground := Ground.data }, { on := 6, ground := Ground.data }, { on := 2, ground := Ground.guard }], guard := some (2, false) }) (v := .pointer (some ⟨gw, i, none⟩)) rfl (by kernel_rfl) (by kernel_rfl) (by kernel_rfl) (fun _ _ _ h => h.elim) (Or.inl ⟨by rfl, ?y8⟩) hS0.out ?_
  case y8 =>
    intro V hV
    have hcmp := q1
    have hcmp2 := q2
    go_simp
  simp only [Act.put, List.setIfInBounds_toArray, List.set_cons_zero, List.set_cons_succ]
  refine wpAnyH_take (i := 8) (oi := { dst := some 101, op := Op.load 3 (Operand.tmp 100), type := 3, pos := "law.go:146", after := #[{ on := 7, ground := Ground.data }, { on := 2, ground := Ground.guard }], guard := some (2, false) }) (v := iv x) rfl (by kernel_rfl) (by kernel_rfl) (by kernel_rfl) (fun _ _ _ h => h.elim) (Or.inl ⟨by rfl, ?y9⟩) hS0.out ?_
  case y9 =>
    intro V hV
    have hc : V.cell? ⟨gw, i, none⟩ = some (iv x) := ((show Below A.heap.size A V from hV).cell (p := ⟨gw, i, none⟩) (HL.out.1)).trans k4
    go_simp
  simp only [Act.put, List.setIfInBounds_toArray, List.set_cons_zero, List.set_cons_succ]
  refine wpAnyH_take (i := 9) (oi := { dst := some 102, op := Op.binOp BinOp.neq 3 (Operand.tmp 97) (Operand.tmp 101) 3, type := 4, pos := "law.go:146", after := #[{ on := 4, ground := Ground.data }, { on := 8, ground := Ground.data }, { on := 2, ground := Ground.guard }], guard := some (2, false) }) (v := .bool false) rfl (by kernel_rfl) (by kernel_rfl) (by kernel_rfl) (fun _ _ _ h => h.elim) (Or.inl ⟨by rfl, ?y10⟩) hS0.out ?_
  case y10 =>
    intro V hV
    go_simp
  simp only [Act.put, List.setIfInBounds_toArray, List.set_cons_zero, List.set_cons_succ]
  refine wpAnyH_take (i := 10) (oi := { dst := some 103, op := Op.pick (Operand.tmp 95) (Operand.const (Value.bool true)) (Operand.tmp 102), type := 4, pos := "law.go:146", after := #[{ on := 2, ground := Ground.data }, { on := 9, ground := Ground.data }], guard := none }) (v := .bool false) rfl (by kernel_rfl) (by kernel_rfl) (by kernel_rfl) (fun _ _ _ h => h.elim) (Or.inl ⟨by rfl, ?y11⟩) hS0.out ?_
  case y11 =>
    intro V hV
    go_simp
  simp only [Act.put, List.setIfInBounds_toArray, List.set_cons_zero, List.set_cons_succ]
  refine wpAnyH_take (i := 11) (oi := { dst := some 104, op := Op.move (Operand.tmp 103), type := 4, pos := "law.go:146", after := #[{ on := 10, ground := Ground.data }, { on := 2, ground := Ground.chain }], guard := none }) (v := .bool false) rfl (by kernel_rfl) (by kernel_rfl) (by kernel_rfl) (fun _ _ _ h => h.elim) (Or.inl ⟨by rfl, ?y12⟩) hS0.out ?_
  case y12 =>
    intro V hV
    go_simp
  simp only [Act.put, List.setIfInBounds_toArray, List.set_cons_zero, List.set_cons_succ]
  refine wpAnyH_take (i := 12) (oi := { dst := some 105, op := Op.fieldAddr 38 (Operand.tmp 14) 1, type := 0, pos := "law.go:146", after := #[{ on := 11, ground := Ground.guard }], guard := some (11, false) }) (v := .pointer (some ⟨g14, 1, none⟩)) rfl (by kernel_rfl) (by kernel_rfl) (by kernel_rfl) (fun _ _ _ h => h.elim) (Or.inl ⟨by rfl, ?y13⟩) hS0.out ?_
  case y13 =>
    intro V hV
    go_simp
  simp only [Act.put, List.setIfInBounds_toArray, List.set_cons_zero, List.set_cons_succ]
  refine wpAnyH_take (i := 13) (oi := { dst := some 106, op := Op.load 3 (Operand.tmp 105), type := 3, pos := "law.go:146", after := #[{ on := 12, ground := Ground.data }, { on := 11, ground := Ground.guard }], guard := some (11, false) }) (v := iv h) rfl (by kernel_rfl) (by kernel_rfl) (by kernel_rfl) (fun _ _ _ h => h.elim) (Or.inl ⟨by rfl, ?y14⟩) hS0.out ?_
  case y14 =>
    intro V hV
    have hc : V.cell? ⟨g14, 1, none⟩ = some (iv h) := ((show Below A.heap.size A V from hV).cell (p := ⟨g14, 1, none⟩) (HL.out.2.1)).trans k1
    go_simp
  simp only [Act.put, List.setIfInBounds_toArray, List.set_cons_zero, List.set_cons_succ]
  refine wpAnyH_take (i := 14) (oi := { dst := some 107, op := Op.binOp BinOp.eql 3 (Operand.tmp 106) (Operand.const (Value.int IntKind.i64 1)) 3, type := 4, pos := "law.go:146", after := #[{ on := 13, ground := Ground.data }, { on := 11, ground := Ground.guard }], guard := some (11, false) }) (v := .bool true) rfl (by kernel_rfl) (by kernel_rfl) (by kernel_rfl) (fun _ _ _ h => h.elim) (Or.inl ⟨by rfl, ?y15⟩) hS0.out ?_
  case y15 =>
    intro V hV
    have hcmp := b1
    go_simp
  simp only [Act.put, List.setIfInBounds_toArray, List.set_cons_zero, List.set_cons_succ]
  refine wpAnyH_take (i := 15) (oi := { dst := some 108, op := Op.load 3 (Operand.tmp 13), type := 3, pos := "law.go:146", after := #[{ on := 11, ground := Ground.guard }], guard := some (11, false) }) (v := iv r) rfl (by kernel_rfl) (by kernel_rfl) (by kernel_rfl) (fun _ _ _ h => h.elim) (Or.inl ⟨by rfl, ?y16⟩) hS0.out ?_
  case y16 =>
    intro V hV
    have hc : V.cell? ⟨g13, 0, none⟩ = some (iv r) := ((show Below A.heap.size A V from hV).cell (p := ⟨g13, 0, none⟩) (HL.out.2.2)).trans k3
    go_simp
  simp only [Act.put, List.setIfInBounds_toArray, List.set_cons_zero, List.set_cons_succ]
  refine wpAnyH_take (i := 16) (oi := { dst := some 109, op := Op.binOp BinOp.eql 3 (Operand.tmp 108) (Operand.const (Value.int IntKind.i64 0)) 3, type := 4, pos := "law.go:146", after := #[{ on := 15, ground := Ground.data }, { on := 11, ground := Ground.guard }], guard := some (11, false) }) (v := .bool true) rfl (by kernel_rfl) (by kernel_rfl) (by kernel_rfl) (fun _ _ _ h => h.elim) (Or.inl ⟨by rfl, ?y17⟩) hS0.out ?_
  case y17 =>
    intro V hV
    have hcmp := b2
    go_simp
  simp only [Act.put, List.setIfInBounds_toArray, List.set_cons_zero, List.set_cons_succ]
  refine wpAnyH_take (i := 17) (oi := { dst := some 110, op := Op.binOp BinOp.neq 4 (Operand.tmp 107) (Operand.tmp 109) 4, type := 4, pos := "law.go:146", after := #[{ on := 14, ground := Ground.data }, { on := 16, ground := Ground.data }, { on := 11, ground := Ground.guard }], guard := some (11, false) }) (v := .bool false) rfl (by kernel_rfl) (by kernel_rfl) (by kernel_rfl) (fun _ _ _ h => h.elim) (Or.inl ⟨by rfl, ?y18⟩) hS0.out ?_
  case y18 =>
    intro V hV
    go_simp
  simp only [Act.put, List.setIfInBounds_toArray, List.set_cons_zero, List.set_cons_succ]
  refine wpAnyH_take (i := 18) (oi := { dst := some 111, op := Op.pick (Operand.tmp 104) (Operand.const (Value.bool true)) (Operand.tmp 110), type := 4, pos := "law.go:146", after := #[{ on := 11, ground := Ground.data }, { on := 17, ground := Ground.data }], guard := none }) (v := .bool false) rfl (by kernel_rfl) (by kernel_rfl) (by kernel_rfl) (fun _ _ _ h => h.elim) (Or.inl ⟨by rfl, ?y19⟩) hS0.out ?_
  case y19 =>
    intro V hV
    go_simp
  simp only [Act.put, List.setIfInBounds_toArray, List.set_cons_zero, List.set_cons_succ]
  refine wpAnyH_take (i := 19) (oi := { dst := some 112, op := Op.move (Operand.tmp 111), type := 4, pos := "law.go:146", after := #[{ on := 18, ground := Ground.data }, { on := 11, ground := Ground.chain }], guard := none }) (v := .bool false) rfl (by kernel_rfl) (by kernel_rfl) (by kernel_rfl) (fun _ _ _ h => h.elim) (Or.inl ⟨by rfl, ?y20⟩) hS0.out ?_
  case y20 =>
    intro V hV
    go_simp
  simp only [Act.put, List.setIfInBounds_toArray, List.set_cons_zero, List.set_cons_succ]
  refine wpAnyH_take (i := 20) (oi := { dst := some 113, op := Op.fieldAddr 38 (Operand.tmp 14) 2, type := 0, pos := "law.go:146", after := #[{ on := 19, ground := Ground.guard }], guard := some (19, false) }) (v := .pointer (some ⟨g14, 2, none⟩)) rfl (by kernel_rfl) (by kernel_rfl) (by kernel_rfl) (fun _ _ _ h => h.elim) (Or.inl ⟨by rfl, ?y21⟩) hS0.out ?_
  case y21 =>
    intro V hV
    go_simp
  simp only [Act.put, List.setIfInBounds_toArray, List.set_cons_zero, List.set_cons_succ]
  refine wpAnyH_take (i := 21) (oi := { dst := some 114, op := Op.load 33 (Operand.tmp 113), type := 33, pos := "law.go:146", after := #[{ on := 20, ground := Ground.data }, { on := 19, ground := Ground.guard }], guard := some (19, false) }) (v := iv r) rfl (by kernel_rfl) (by kernel_rfl) (by kernel_rfl) (fun _ _ _ h => h.elim) (Or.inl ⟨by rfl, ?y22⟩) hS0.out ?_
  case y22 =>
    intro V hV
    have hc : V.cell? ⟨g14, 2, none⟩ = some (iv r) := ((show Below A.heap.size A V from hV).cell (p := ⟨g14, 2, none⟩) (HL.out.2.1)).trans k2
    go_simp
  simp only [Act.put, List.setIfInBounds_toArray, List.set_cons_zero, List.set_cons_succ]
  refine wpAnyH_take (i := 22) (oi := { dst := some 115, op := Op.load 3 (Operand.tmp 13), type := 3, pos := "law.go:146", after := #[{ on := 19, ground := Ground.guard }], guard := some (19, false) }) (v := iv r) rfl (by kernel_rfl) (by kernel_rfl) (by kernel_rfl) (fun _ _ _ h => h.elim) (Or.inl ⟨by rfl, ?y23⟩) hS0.out ?_
  case y23 =>
    intro V hV
    have hc : V.cell? ⟨g13, 0, none⟩ = some (iv r) := ((show Below A.heap.size A V from hV).cell (p := ⟨g13, 0, none⟩) (HL.out.2.2)).trans k3
    go_simp
  simp only [Act.put, List.setIfInBounds_toArray, List.set_cons_zero, List.set_cons_succ]
  refine wpAnyH_take (i := 23) (oi := { dst := some 116, op := Op.binOp BinOp.neq 3 (Operand.tmp 114) (Operand.tmp 115) 3, type := 4, pos := "law.go:146", after := #[{ on := 21, ground := Ground.data }, { on := 22, ground := Ground.data }, { on := 19, ground := Ground.guard }], guard := some (19, false) }) (v := .bool false) rfl (by kernel_rfl) (by kernel_rfl) (by kernel_rfl) (fun _ _ _ h => h.elim) (Or.inl ⟨by rfl, ?y24⟩) hS0.out ?_
  case y24 =>
    intro V hV
    go_simp
  simp only [Act.put, List.setIfInBounds_toArray, List.set_cons_zero, List.set_cons_succ]
  refine wpAnyH_take (i := 24) (oi := { dst := some 117, op := Op.pick (Operand.tmp 112) (Operand.const (Value.bool true)) (Operand.tmp 116), type := 4, pos := "law.go:146", after := #[{ on := 19, ground := Ground.data }, { on := 23, ground := Ground.data }], guard := none }) (v := .bool false) rfl (by kernel_rfl) (by kernel_rfl) (by kernel_rfl) (fun _ _ _ h => h.elim) (Or.inl ⟨by rfl, ?y25⟩) hS0.out ?_
  case y25 =>
    intro V hV
    go_simp
  simp only [Act.put, List.setIfInBounds_toArray, List.set_cons_zero, List.set_cons_succ]
  refine wpAnyH_done (by kernel_rfl) ?_ _
  exact hQ V0 hS0.out
#print axioms prog22t
set_option maxRecDepth 100000 in
set_option maxHeartbeats 4000000 in
theorem prog22f {Q : Exit → Act → World → Prop} {x0 x1 x2 x3 x4 x5 x6 x7 x8 x9 x11 x16 x17 x18 x19 x20 x21 x22 x23 x24 x25 x26 x27 x28 x29 x30 x31 x32 x33 x34 x35 x36 x37 x38 x39 x40 x41 x42 x43 x44 x45 x46 x47 x48 x49 x50 x51 x52 x53 x54 x55 x56 x57 x58 x59 x60 x61 x62 x63 x64 x65 x66 x67 x68 x69 x70 x71 x72 x73 x74 x75 x76 x77 x78 x79 x80 x81 x82 x83 x84 x85 x86 x87 x88 x89 x90 x91 x92 x93 x94 x95 x96 x97 x98 x99 x100 x101 x102 x103 x104 x105 x106 x107 x108 x109 x110 x111 x112 x113 x114 x115 x116 x117 x118 x119 x120 x121 x122 x123 x124 x125 x126 x127 x128 x129 x130 x131 x132 x133 x134 x135 x136 x137 x138 x139 x140 : Value} {ds : List Deferred} {A : World} {gw g13 g14 n cw i : Nat} {x h r : Int}
    (HL : Hid (gw < A.heap.size ∧ g14 < A.heap.size ∧ g13 < A.heap.size)) (k0 : A.cell? ⟨g14, 0, none⟩ = some (iv x)) (k1 : A.cell? ⟨g14, 1, none⟩ = some (iv h)) (k2 : A.cell? ⟨g14, 2, none⟩ = some (iv r)) (k3 : A.cell? ⟨g13, 0, none⟩ = some (iv r)) (k4 : A.cell? ⟨gw, i, none⟩ = some (iv x)) (q1 : (i : Int) < (n : Int)) (q2 : i < n) (b1 : (h == 1) = false) (b2 : (r == 0) = false)
    (hQ : ∀ V1, Below A.heap.size A V1 → Q .normal { tmps := #[x0, x1, x2, x3, x4, x5, x6, x7, x8, x9, .slice (some ⟨gw, 0, none⟩) n cw, x11, iv (i : Int), .pointer (some ⟨g13, 0, none⟩), .pointer (some ⟨g14, 0, none⟩), iv 0, x16, x17, x18, x19, x20, x21, x22, x23, x24, x25, x26, x27, x28, x29, x30, x31, x32, x33, x34, x35, x36, x37, x38, x39, x40, x41, x42, x43, x44, x45, x46, x47, x48, x49, x50, x51, x52, x53, x54, x55, x56, x57, x58, x59, x60, x61, x62, x63, x64, x65, x66, x67, x68, x69, x70, x71, x72, x73, x74, x75, x76, x77, x78, x79, x80, x81, x82, x83, x84, x85, x86, x87, x88, x89, x90, x91, x92, iv 0, .bool false, .bool false, .pointer (some ⟨g14, 0, none⟩), iv x, .slice (some ⟨gw, 0, none⟩) n cw, iv (i : Int), .pointer (some ⟨gw, i, none⟩), iv x, .bool false, .bool false, .bool false, .pointer (some ⟨g14, 1, none⟩), iv h, .bool false, iv r, .bool false, .bool false, .bool false, .bool false, .pointer (some ⟨g14, 2, none⟩), iv r, iv r, .bool false, .bool false, x118, x119, x120, x121, x122, x123, x124, x125, x126, x127, x128, x129, x130, x131, x132, x133, x134, x135, x136, x137, x138, x139, x140], defers := ds } V1) :
    (Code.region 22 #[{ dst := some 93, op := Op.move (Operand.tmp 15), type := 33, pos := "law.go:146", after := #[], guard := none }, { dst := some 94, op := Op.binOp BinOp.neq 33 (Operand.tmp 93) (Operand.const (Value.int IntKind.i64 0)) 33, type := 4, pos := "law.go:146", after := #[{ on := 0, ground := Ground.data }], guard := none }, { dst := some 95, op := Op.move (Operand.tmp 94), type := 4, pos := "law.go:146", after := #[{ on := 1, ground := Ground.data }], guard := none }, { dst := some 96, op := Op.fieldAddr 38 (Operand.tmp 14) 0, type := 0, pos := "law.go:146", after := #[{ on := 2, ground := Ground.guard }], guard := some (2, false) }, { dst := some 97, op := Op.load 3 (Operand.tmp 96), type := 3, pos := "law.go:146", after := #[{ on := 3, ground := Ground.data }, { on := 2, ground := Ground.guard }], guard := some (2, false) }, { dst := some 98, op := Op.move (Operand.tmp 10), type := 27, pos := "law.go:146", after := #[{ on := 2, ground := Ground.guard }], guard := some (2, false) }, { dst := some 99, op := Op.move (Operand.tmp 12), type := 3, pos := "law.go:146", after := #[{ on := 2, ground := Ground.guard }], guard := some (2, false) }, { dst := some 100, op := Op.indexAddr 27 (Operand.tmp 98) (Operand.tmp 99), type := 0, pos := "law.go:146", after := #[{ on := 5, ground := Ground.data }, { on := 6, ground := Ground.data }, { on := 2, ground := Ground.guard }], guard := some (2, false) }, { dst := some 101, op := Op.load 3 (Operand.tmp 100), type := 3, pos := "law.go:146", after := #[{ on := 7, ground := Ground.data }, { on := 2, ground := Ground.guard }], guard := some (2, false) }, { dst := some 102, op := Op.binOp BinOp.neq 3 (Operand.tmp 97) (Operand.tmp 101) 3, type := 4, pos := "law.go:146", after := #[{ on := 4, ground := Ground.data }, { on := 8, ground := Ground.data }, { on := 2, ground := Ground.guard }], guard := some (2, false) }, { dst := some 103, op := Op.pick (Operand.tmp 95) (Operand.const (Value.bool true)) (Operand.tmp 102), type := 4, pos := "law.go:146", after := #[{ on := 2, ground := Ground.data }, { on := 9, ground := Ground.data }], guard := none }, { dst := some 104, op := Op.move (Operand.tmp 103), type := 4, pos := "law.go:146", after := #[{ on := 10, ground := Ground.data }, { on := 2, ground := Ground.chain }], guard := none }, { dst := some 105, op := Op.fieldAddr 38 (Operand.tmp 14) 1, type := 0, pos := "law.go:146", after := #[{ on := 11, ground := Ground.guard }], guard := some (11, false) }, { dst := some 106, op := Op.load 3 (Operand.tmp 105), type := 3, pos := "law.go:146", after := #[{ on := 12, ground := Ground.data }, { on := 11, ground := Ground.guard }], guard := some (11, false) }, { dst := some 107, op := Op.binOp BinOp.eql 3 (Operand.tmp 106) (Operand.const (Value.int IntKind.i64 1)) 3, type := 4, pos := "law.go:146", after := #[{ on := 13, ground := Ground.data }, { on := 11, ground := Ground.guard }], guard := some (11, false) }, { dst := some 108, op := Op.load 3 (Operand.tmp 13), type := 3, pos := "law.go:146", after := #[{ on := 11, ground := Ground.guard }], guard := some (11, false) }, { dst := some 109, op := Op.binOp BinOp.eql 3 (Operand.tmp 108) (Operand.const (Value.int IntKind.i64 0)) 3, type := 4, pos := "law.go:146", after := #[{ on := 15, ground := Ground.data }, { on := 11, ground := Ground.guard }], guard := some (11, false) }, { dst := some 110, op := Op.binOp BinOp.neq 4 (Operand.tmp 107) (Operand.tmp 109) 4, type := 4, pos := "law.go:146", after := #[{ on := 14, ground := Ground.data }, { on := 16, ground := Ground.data }, { on := 11, ground := Ground.guard }], guard := some (11, false) }, { dst := some 111, op := Op.pick (Operand.tmp 104) (Operand.const (Value.bool true)) (Operand.tmp 110), type := 4, pos := "law.go:146", after := #[{ on := 11, ground := Ground.data }, { on := 17, ground := Ground.data }], guard := none }, { dst := some 112, op := Op.move (Operand.tmp 111), type := 4, pos := "law.go:146", after := #[{ on := 18, ground := Ground.data }, { on := 11, ground := Ground.chain }], guard := none }, { dst := some 113, op := Op.fieldAddr 38 (Operand.tmp 14) 2, type := 0, pos := "law.go:146", after := #[{ on := 19, ground := Ground.guard }], guard := some (19, false) }, { dst := some 114, op := Op.load 33 (Operand.tmp 113), type := 33, pos := "law.go:146", after := #[{ on := 20, ground := Ground.data }, { on := 19, ground := Ground.guard }], guard := some (19, false) }, { dst := some 115, op := Op.load 3 (Operand.tmp 13), type := 3, pos := "law.go:146", after := #[{ on := 19, ground := Ground.guard }], guard := some (19, false) }, { dst := some 116, op := Op.binOp BinOp.neq 3 (Operand.tmp 114) (Operand.tmp 115) 3, type := 4, pos := "law.go:146", after := #[{ on := 21, ground := Ground.data }, { on := 22, ground := Ground.data }, { on := 19, ground := Ground.guard }], guard := some (19, false) }, { dst := some 117, op := Op.pick (Operand.tmp 112) (Operand.const (Value.bool true)) (Operand.tmp 116), type := 4, pos := "law.go:146", after := #[{ on := 19, ground := Ground.data }, { on := 23, ground := Ground.data }], guard := none }] true).wp Try.prog Q { tmps := #[x0, x1, x2, x3, x4, x5, x6, x7, x8, x9, .slice (some ⟨gw, 0, none⟩) n cw, x11, iv (i : Int), .pointer (some ⟨g13, 0, none⟩), .pointer (some ⟨g14, 0, none⟩), iv 0, x16, x17, x18, x19, x20, x21, x22, x23, x24, x25, x26, x27, x28, x29, x30, x31, x32, x33, x34, x35, x36, x37, x38, x39, x40, x41, x42, x43, x44, x45, x46, x47, x48, x49, x50, x51, x52, x53, x54, x55, x56, x57, x58, x59, x60, x61, x62, x63, x64, x65, x66, x67, x68, x69, x70, x71, x72, x73, x74, x75, x76, x77, x78, x79, x80, x81, x82, x83, x84, x85, x86, x87, x88, x89, x90, x91, x92, x93, x94, x95, x96, x97, x98, x99, x100, x101, x102, x103, x104, x105, x106, x107, x108, x109, x110, x111, x112, x113, x114, x115, x116, x117, x118, x119, x120, x121, x122, x123, x124, x125, x126, x127, x128, x129, x130, x131, x132, x133, x134, x135, x136, x137, x138, x139, x140], defers := ds } A := by
  refine Code.wp_mono (Q := fun x a' w' => match x with | .normal => Q .normal a' w' | _ => False) (by intro x a' w' h; cases x <;> first | exact h | exact h.elim) ?_
  refine wp_region_held (S := fun V => Below A.heap.size A V) (by kernel_rfl) ?_
  have hS0 : Hid (Below A.heap.size A A.drew) := below_drew0 A
  change wpAnyH Try.prog .any _ _ (fun V => Below A.heap.size A V) 25 (Array.replicate 25 false) _ A.drew
  obtain ⟨V0, hV0⟩ : ∃ V0, A.drew = V0 := ⟨_, rfl⟩
  rw [hV0]
  rw [hV0] at hS0
  clear hV0
  refine wpAnyH_take (i := 0) (oi := { dst := some 93, op := Op.move (Operand.tmp 15), type := 33, pos := "law.go:146", after := #[], guard := none }) (v := iv 0) rfl (by kernel_rfl) (by kernel_rfl) (by kernel_rfl) (fun _ _ _ h => h.elim) (Or.inl ⟨by rfl, ?y1⟩) hS0.out ?_
  case y1 =>
    intro V hV
    go_simp
  simp only [Act.put, List.setIfInBounds_toArray, List.set_cons_zero, List.set_cons_succ]
  refine wpAnyH_take (i := 1) (oi := { dst := some 94, op := Op.binOp BinOp.neq 33 (Operand.tmp 93) (Operand.const (Value.int IntKind.i64 0)) 33, type := 4, pos := "law.go:146", after := #[{ on := 0, ground := Ground.data }], guard := none }) (v := .bool false) rfl (by kernel_rfl) (by kernel_rfl) (by kernel_rfl) (fun _ _ _ h => h.elim) (Or.inl ⟨by rfl, ?y2⟩) hS0.out ?_
  case y2 =>
    intro V hV
    go_simp
  simp only [Act.put, List.setIfInBounds_toArray, List.set_cons_zero, List.set_cons_succ]
  refine wpAnyH_take (i := 2) (oi := { dst := some 95, op := Op.move (Operand.tmp 94), type := 4, pos := "law.go:146", after := #[{ on := 1, ground := Ground.data }], guard := none }) (v := .bool false) rfl (by kernel_rfl) (by kernel_rfl) (by kernel_rfl) (fun _ _ _ h => h.elim) (Or.inl ⟨by rfl, ?y3⟩) hS0.out ?_
  case y3 =>
    intro V hV
    go_simp
  simp only [Act.put, List.setIfInBounds_toArray, List.set_cons_zero, List.set_cons_succ]
  refine wpAnyH_take (i := 3) (oi := { dst := some 96, op := Op.fieldAddr 38 (Operand.tmp 14) 0, type := 0, pos := "law.go:146", after := #[{ on := 2, ground := Ground.guard }], guard := some (2, false) }) (v := .pointer (some ⟨g14, 0, none⟩)) rfl (by kernel_rfl) (by kernel_rfl) (by kernel_rfl) (fun _ _ _ h => h.elim) (Or.inl ⟨by rfl, ?y4⟩) hS0.out ?_
  case y4 =>
    intro V hV
    go_simp
  simp only [Act.put, List.setIfInBounds_toArray, List.set_cons_zero, List.set_cons_succ]
  refine wpAnyH_take (i := 4) (oi := { dst := some 97, op := Op.load 3 (Operand.tmp 96), type := 3, pos := "law.go:146", after := #[{ on := 3, ground := Ground.data }, { on := 2, ground := Ground.guard }], guard := some (2, false) }) (v := iv x) rfl (by kernel_rfl) (by kernel_rfl) (by kernel_rfl) (fun _ _ _ h => h.elim) (Or.inl ⟨by rfl, ?y5⟩) hS0.out ?_
  case y5 =>
    intro V hV
    have hc : V.cell? ⟨g14, 0, none⟩ = some (iv x) := ((show Below A.heap.size A V from hV).cell (p := ⟨g14, 0, none⟩) (HL.out.2.1)).trans k0
    go_simp
  simp only [Act.put, List.setIfInBounds_toArray, List.set_cons_zero, List.set_cons_succ]
  refine wpAnyH_take (i := 5) (oi := { dst := some 98, op := Op.move (Operand.tmp 10), type := 27, pos := "law.go:146", after := #[{ on := 2, ground := Ground.guard }], guard := some (2, false) }) (v := .slice (some ⟨gw, 0, none⟩) n cw) rfl (by kernel_rfl) (by kernel_rfl) (by kernel_rfl) (fun _ _ _ h => h.elim) (Or.inl ⟨by rfl, ?y6⟩) hS0.out ?_
  case y6 =>
    intro V hV
    go_simp
  simp only [Act.put, List.setIfInBounds_toArray, List.set_cons_zero, List.set_cons_succ]
  refine wpAnyH_take (i := 6) (oi := { dst := some 99, op := Op.move (Operand.tmp 12), type := 3, pos := "law.go:146", after := #[{ on := 2, ground := Ground.guard }], guard := some (2, false) }) (v := iv (i : Int)) rfl (by kernel_rfl) (by kernel_rfl) (by kernel_rfl) (fun _ _ _ h => h.elim) (Or.inl ⟨by rfl, ?y7⟩) hS0.out ?_
  case y7 =>
    intro V hV
    go_simp
  simp only [Act.put, List.setIfInBounds_toArray, List.set_cons_zero, List.set_cons_succ]
  refine wpAnyH_take (i := 7) (oi := { dst := some 100, op := Op.indexAddr 27 (Operand.tmp 98) (Operand.tmp 99), type := 0, pos := "law.go:146", after := #[{ on := 5, ground := Ground.data }, { on := 6, ground := Ground.data }, { on := 2, ground := Ground.guard }], guard := some (2, false) }) (v := .pointer (some ⟨gw, i, none⟩)) rfl (by kernel_rfl) (by kernel_rfl) (by kernel_rfl) (fun _ _ _ h => h.elim) (Or.inl ⟨by rfl, ?y8⟩) hS0.out ?_
  case y8 =>
    intro V hV
    have hcmp := q1
    have hcmp2 := q2
    go_simp
  simp only [Act.put, List.setIfInBounds_toArray, List.set_cons_zero, List.set_cons_succ]
  refine wpAnyH_take (i := 8) (oi := { dst := some 101, op := Op.load 3 (Operand.tmp 100), type := 3, pos := "law.go:146", after := #[{ on := 7, ground := Ground.data }, { on := 2, ground := Ground.guard }], guard := some (2, false) }) (v := iv x) rfl (by kernel_rfl) (by kernel_rfl) (by kernel_rfl) (fun _ _ _ h => h.elim) (Or.inl ⟨by rfl, ?y9⟩) hS0.out ?_
  case y9 =>
    intro V hV
    have hc : V.cell? ⟨gw, i, none⟩ = some (iv x) := ((show Below A.heap.size A V from hV).cell (p := ⟨gw, i, none⟩) (HL.out.1)).trans k4
    go_simp
  simp only [Act.put, List.setIfInBounds_toArray, List.set_cons_zero, List.set_cons_succ]
  refine wpAnyH_take (i := 9) (oi := { dst := some 102, op := Op.binOp BinOp.neq 3 (Operand.tmp 97) (Operand.tmp 101) 3, type := 4, pos := "law.go:146", after := #[{ on := 4, ground := Ground.data }, { on := 8, ground := Ground.data }, { on := 2, ground := Ground.guard }], guard := some (2, false) }) (v := .bool false) rfl (by kernel_rfl) (by kernel_rfl) (by kernel_rfl) (fun _ _ _ h => h.elim) (Or.inl ⟨by rfl, ?y10⟩) hS0.out ?_
  case y10 =>
    intro V hV
    go_simp
  simp only [Act.put, List.setIfInBounds_toArray, List.set_cons_zero, List.set_cons_succ]
  refine wpAnyH_take (i := 10) (oi := { dst := some 103, op := Op.pick (Operand.tmp 95) (Operand.const (Value.bool true)) (Operand.tmp 102), type := 4, pos := "law.go:146", after := #[{ on := 2, ground := Ground.data }, { on := 9, ground := Ground.data }], guard := none }) (v := .bool false) rfl (by kernel_rfl) (by kernel_rfl) (by kernel_rfl) (fun _ _ _ h => h.elim) (Or.inl ⟨by rfl, ?y11⟩) hS0.out ?_
  case y11 =>
    intro V hV
    go_simp
  simp only [Act.put, List.setIfInBounds_toArray, List.set_cons_zero, List.set_cons_succ]
  refine wpAnyH_take (i := 11) (oi := { dst := some 104, op := Op.move (Operand.tmp 103), type := 4, pos := "law.go:146", after := #[{ on := 10, ground := Ground.data }, { on := 2, ground := Ground.chain }], guard := none }) (v := .bool false) rfl (by kernel_rfl) (by kernel_rfl) (by kernel_rfl) (fun _ _ _ h => h.elim) (Or.inl ⟨by rfl, ?y12⟩) hS0.out ?_
  case y12 =>
    intro V hV
    go_simp
  simp only [Act.put, List.setIfInBounds_toArray, List.set_cons_zero, List.set_cons_succ]
  refine wpAnyH_take (i := 12) (oi := { dst := some 105, op := Op.fieldAddr 38 (Operand.tmp 14) 1, type := 0, pos := "law.go:146", after := #[{ on := 11, ground := Ground.guard }], guard := some (11, false) }) (v := .pointer (some ⟨g14, 1, none⟩)) rfl (by kernel_rfl) (by kernel_rfl) (by kernel_rfl) (fun _ _ _ h => h.elim) (Or.inl ⟨by rfl, ?y13⟩) hS0.out ?_
  case y13 =>
    intro V hV
    go_simp
  simp only [Act.put, List.setIfInBounds_toArray, List.set_cons_zero, List.set_cons_succ]
  refine wpAnyH_take (i := 13) (oi := { dst := some 106, op := Op.load 3 (Operand.tmp 105), type := 3, pos := "law.go:146", after := #[{ on := 12, ground := Ground.data }, { on := 11, ground := Ground.guard }], guard := some (11, false) }) (v := iv h) rfl (by kernel_rfl) (by kernel_rfl) (by kernel_rfl) (fun _ _ _ h => h.elim) (Or.inl ⟨by rfl, ?y14⟩) hS0.out ?_
  case y14 =>
    intro V hV
    have hc : V.cell? ⟨g14, 1, none⟩ = some (iv h) := ((show Below A.heap.size A V from hV).cell (p := ⟨g14, 1, none⟩) (HL.out.2.1)).trans k1
    go_simp
  simp only [Act.put, List.setIfInBounds_toArray, List.set_cons_zero, List.set_cons_succ]
  refine wpAnyH_take (i := 14) (oi := { dst := some 107, op := Op.binOp BinOp.eql 3 (Operand.tmp 106) (Operand.const (Value.int IntKind.i64 1)) 3, type := 4, pos := "law.go:146", after := #[{ on := 13, ground := Ground.data }, { on := 11, ground := Ground.guard }], guard := some (11, false) }) (v := .bool false) rfl (by kernel_rfl) (by kernel_rfl) (by kernel_rfl) (fun _ _ _ h => h.elim) (Or.inl ⟨by rfl, ?y15⟩) hS0.out ?_
  case y15 =>
    intro V hV
    have hcmp := b1
    go_simp
  simp only [Act.put, List.setIfInBounds_toArray, List.set_cons_zero, List.set_cons_succ]
  refine wpAnyH_take (i := 15) (oi := { dst := some 108, op := Op.load 3 (Operand.tmp 13), type := 3, pos := "law.go:146", after := #[{ on := 11, ground := Ground.guard }], guard := some (11, false) }) (v := iv r) rfl (by kernel_rfl) (by kernel_rfl) (by kernel_rfl) (fun _ _ _ h => h.elim) (Or.inl ⟨by rfl, ?y16⟩) hS0.out ?_
  case y16 =>
    intro V hV
    have hc : V.cell? ⟨g13, 0, none⟩ = some (iv r) := ((show Below A.heap.size A V from hV).cell (p := ⟨g13, 0, none⟩) (HL.out.2.2)).trans k3
    go_simp
  simp only [Act.put, List.setIfInBounds_toArray, List.set_cons_zero, List.set_cons_succ]
  refine wpAnyH_take (i := 16) (oi := { dst := some 109, op := Op.binOp BinOp.eql 3 (Operand.tmp 108) (Operand.const (Value.int IntKind.i64 0)) 3, type := 4, pos := "law.go:146", after := #[{ on := 15, ground := Ground.data }, { on := 11, ground := Ground.guard }], guard := some (11, false) }) (v := .bool false) rfl (by kernel_rfl) (by kernel_rfl) (by kernel_rfl) (fun _ _ _ h => h.elim) (Or.inl ⟨by rfl, ?y17⟩) hS0.out ?_
  case y17 =>
    intro V hV
    have hcmp := b2
    go_simp
  simp only [Act.put, List.setIfInBounds_toArray, List.set_cons_zero, List.set_cons_succ]
  refine wpAnyH_take (i := 17) (oi := { dst := some 110, op := Op.binOp BinOp.neq 4 (Operand.tmp 107) (Operand.tmp 109) 4, type := 4, pos := "law.go:146", after := #[{ on := 14, ground := Ground.data }, { on := 16, ground := Ground.data }, { on := 11, ground := Ground.guard }], guard := some (11, false) }) (v := .bool false) rfl (by kernel_rfl) (by kernel_rfl) (by kernel_rfl) (fun _ _ _ h => h.elim) (Or.inl ⟨by rfl, ?y18⟩) hS0.out ?_
  case y18 =>
    intro V hV
    go_simp
  simp only [Act.put, List.setIfInBounds_toArray, List.set_cons_zero, List.set_cons_succ]
  refine wpAnyH_take (i := 18) (oi := { dst := some 111, op := Op.pick (Operand.tmp 104) (Operand.const (Value.bool true)) (Operand.tmp 110), type := 4, pos := "law.go:146", after := #[{ on := 11, ground := Ground.data }, { on := 17, ground := Ground.data }], guard := none }) (v := .bool false) rfl (by kernel_rfl) (by kernel_rfl) (by kernel_rfl) (fun _ _ _ h => h.elim) (Or.inl ⟨by rfl, ?y19⟩) hS0.out ?_
  case y19 =>
    intro V hV
    go_simp
  simp only [Act.put, List.setIfInBounds_toArray, List.set_cons_zero, List.set_cons_succ]
  refine wpAnyH_take (i := 19) (oi := { dst := some 112, op := Op.move (Operand.tmp 111), type := 4, pos := "law.go:146", after := #[{ on := 18, ground := Ground.data }, { on := 11, ground := Ground.chain }], guard := none }) (v := .bool false) rfl (by kernel_rfl) (by kernel_rfl) (by kernel_rfl) (fun _ _ _ h => h.elim) (Or.inl ⟨by rfl, ?y20⟩) hS0.out ?_
  case y20 =>
    intro V hV
    go_simp
  simp only [Act.put, List.setIfInBounds_toArray, List.set_cons_zero, List.set_cons_succ]
  refine wpAnyH_take (i := 20) (oi := { dst := some 113, op := Op.fieldAddr 38 (Operand.tmp 14) 2, type := 0, pos := "law.go:146", after := #[{ on := 19, ground := Ground.guard }], guard := some (19, false) }) (v := .pointer (some ⟨g14, 2, none⟩)) rfl (by kernel_rfl) (by kernel_rfl) (by kernel_rfl) (fun _ _ _ h => h.elim) (Or.inl ⟨by rfl, ?y21⟩) hS0.out ?_
  case y21 =>
    intro V hV
    go_simp
  simp only [Act.put, List.setIfInBounds_toArray, List.set_cons_zero, List.set_cons_succ]
  refine wpAnyH_take (i := 21) (oi := { dst := some 114, op := Op.load 33 (Operand.tmp 113), type := 33, pos := "law.go:146", after := #[{ on := 20, ground := Ground.data }, { on := 19, ground := Ground.guard }], guard := some (19, false) }) (v := iv r) rfl (by kernel_rfl) (by kernel_rfl) (by kernel_rfl) (fun _ _ _ h => h.elim) (Or.inl ⟨by rfl, ?y22⟩) hS0.out ?_
  case y22 =>
    intro V hV
    have hc : V.cell? ⟨g14, 2, none⟩ = some (iv r) := ((show Below A.heap.size A V from hV).cell (p := ⟨g14, 2, none⟩) (HL.out.2.1)).trans k2
    go_simp
  simp only [Act.put, List.setIfInBounds_toArray, List.set_cons_zero, List.set_cons_succ]
  refine wpAnyH_take (i := 22) (oi := { dst := some 115, op := Op.load 3 (Operand.tmp 13), type := 3, pos := "law.go:146", after := #[{ on := 19, ground := Ground.guard }], guard := some (19, false) }) (v := iv r) rfl (by kernel_rfl) (by kernel_rfl) (by kernel_rfl) (fun _ _ _ h => h.elim) (Or.inl ⟨by rfl, ?y23⟩) hS0.out ?_
  case y23 =>
    intro V hV
    have hc : V.cell? ⟨g13, 0, none⟩ = some (iv r) := ((show Below A.heap.size A V from hV).cell (p := ⟨g13, 0, none⟩) (HL.out.2.2)).trans k3
    go_simp
  simp only [Act.put, List.setIfInBounds_toArray, List.set_cons_zero, List.set_cons_succ]
  refine wpAnyH_take (i := 23) (oi := { dst := some 116, op := Op.binOp BinOp.neq 3 (Operand.tmp 114) (Operand.tmp 115) 3, type := 4, pos := "law.go:146", after := #[{ on := 21, ground := Ground.data }, { on := 22, ground := Ground.data }, { on := 19, ground := Ground.guard }], guard := some (19, false) }) (v := .bool false) rfl (by kernel_rfl) (by kernel_rfl) (by kernel_rfl) (fun _ _ _ h => h.elim) (Or.inl ⟨by rfl, ?y24⟩) hS0.out ?_
  case y24 =>
    intro V hV
    go_simp
  simp only [Act.put, List.setIfInBounds_toArray, List.set_cons_zero, List.set_cons_succ]
  refine wpAnyH_take (i := 24) (oi := { dst := some 117, op := Op.pick (Operand.tmp 112) (Operand.const (Value.bool true)) (Operand.tmp 116), type := 4, pos := "law.go:146", after := #[{ on := 19, ground := Ground.data }, { on := 23, ground := Ground.data }], guard := none }) (v := .bool false) rfl (by kernel_rfl) (by kernel_rfl) (by kernel_rfl) (fun _ _ _ h => h.elim) (Or.inl ⟨by rfl, ?y25⟩) hS0.out ?_
  case y25 =>
    intro V hV
    go_simp
  simp only [Act.put, List.setIfInBounds_toArray, List.set_cons_zero, List.set_cons_succ]
  refine wpAnyH_done (by kernel_rfl) ?_ _
  exact hQ V0 hS0.out
#print axioms prog22f
set_option maxRecDepth 100000 in
set_option maxHeartbeats 4000000 in
theorem prog26 {Q : Exit → Act → World → Prop} {x0 x1 x2 x3 x4 x5 x6 x7 x8 x9 x12 x13 x14 x15 x17 x18 x19 x20 x21 x22 x23 x24 x25 x26 x27 x28 x29 x30 x31 x32 x33 x34 x35 x36 x37 x38 x39 x40 x41 x42 x43 x44 x45 x46 x47 x48 x49 x50 x51 x52 x53 x54 x55 x56 x57 x58 x59 x60 x61 x62 x63 x64 x65 x66 x67 x68 x69 x70 x71 x72 x73 x74 x75 x76 x77 x78 x79 x80 x81 x82 x83 x84 x85 x86 x87 x88 x89 x90 x91 x92 x93 x94 x95 x96 x97 x98 x99 x100 x101 x102 x103 x104 x105 x106 x107 x108 x109 x110 x111 x112 x113 x114 x115 x116 x117 x118 x119 x120 x121 x122 x123 x124 x125 x126 x127 x128 x129 x130 x131 x132 x133 x134 x135 x136 x137 x138 x139 x140 : Value} {ds : List Deferred} {A : World} {gw ge n n1 cw ce k : Nat} {x : Int}
    (HL : Hid (gw < A.heap.size ∧ ge < A.heap.size)) (k0 : A.cell? ⟨ge, k * 3, none⟩ = some (iv x)) (k4 : A.cell? ⟨gw, k, none⟩ = some (iv x)) (q1 : (k : Int) < (n : Int)) (q2 : k < n) (HQ : Hid ((k : Int) ≤ 1000000 ∧ (k : Int) < (n1 : Int) ∧ (n1 : Int) = (k : Int) + 1 ∧ k < n1))
    (hQ : ∀ V1, Below A.heap.size A V1 → Q .normal { tmps := #[x0, x1, x2, x3, x4, x5, .bool true, x7, x8, x9, .slice (some ⟨gw, 0, none⟩) n cw, iv (k : Int), x12, x13, x14, x15, .slice (some ⟨ge, 0, none⟩) n1 ce, x17, x18, x19, x20, x21, x22, x23, x24, x25, x26, x27, x28, x29, x30, x31, x32, x33, x34, x35, x36, x37, x38, x39, x40, x41, x42, x43, x44, x45, x46, x47, x48, x49, x50, x51, x52, x53, x54, x55, x56, x57, x58, x59, x60, x61, x62, x63, x64, x65, x66, x67, x68, x69, x70, x71, x72, x73, x74, x75, x76, x77, x78, x79, x80, x81, x82, x83, x84, x85, x86, x87, x88, x89, x90, x91, x92, x93, x94, x95, x96, x97, x98, x99, x100, x101, x102, x103, x104, x105, x106, x107, x108, x109, x110, x111, x112, x113, x114, x115, x116, x117, x118, x119, x120, .slice (some ⟨ge, 0, none⟩) n1 ce, iv (n1 : Int), iv (k : Int), iv ((k : Int) + 1), .bool true, .bool true, .slice (some ⟨ge, 0, none⟩) n1 ce, iv (k : Int), .pointer (some ⟨ge, k * 3, none⟩), .pointer (some ⟨ge, k * 3, none⟩), iv x, .slice (some ⟨gw, 0, none⟩) n cw, iv (k : Int), .pointer (some ⟨gw, k, none⟩), iv x, .bool true, .bool true, .bool true, .bool true, .bool true], defers := ds } V1) :
    (Code.region 26 #[{ dst := some 121, op := Op.move (Operand.tmp 16), type := 28, pos := "law.go:151", after := #[], guard := none }, { dst := some 122, op := Op.call { callee := Callee.builtin Builtin.len, args := #[Operand.tmp 121], argTypes := #[28] }, type := 3, pos := "law.go:151", after := #[{ on := 0, ground := Ground.data }], guard := none }, { dst := some 123, op := Op.move (Operand.tmp 11), type := 3, pos := "law.go:151", after := #[], guard := none }, { dst := some 124, op := Op.binOp BinOp.add 3 (Operand.tmp 123) (Operand.const (Value.int IntKind.i64 1)) 3, type := 3, pos := "law.go:151", after := #[{ on := 2, ground := Ground.data }], guard := none }, { dst := some 125, op := Op.binOp BinOp.eql 3 (Operand.tmp 122) (Operand.tmp 124) 3, type := 4, pos := "law.go:151", after := #[{ on := 1, ground := Ground.data }, { on := 3, ground := Ground.data }], guard := none }, { dst := some 126, op := Op.move (Operand.tmp 125), type := 4, pos := "law.go:151", after := #[{ on := 4, ground := Ground.data }], guard := none }, { dst := some 127, op := Op.move (Operand.tmp 16), type := 28, pos := "law.go:151", after := #[{ on := 5, ground := Ground.guard }], guard := some (5, true) }, { dst := some 128, op := Op.move (Operand.tmp 11), type := 3, pos := "law.go:151", after := #[{ on := 5, ground := Ground.guard }], guard := some (5, true) }, { dst := some 129, op := Op.indexAddr 28 (Operand.tmp 127) (Operand.tmp 128), type := 0, pos := "law.go:151", after := #[{ on := 6, ground := Ground.data }, { on := 7, ground := Ground.data }, { on := 5, ground := Ground.guard }], guard := some (5, true) }, { dst := some 130, op := Op.fieldAddr 38 (Operand.tmp 129) 0, type := 0, pos := "law.go:151", after := #[{ on := 8, ground := Ground.data }, { on := 5, ground := Ground.guard }], guard := some (5, true) }, { dst := some 131, op := Op.load 3 (Operand.tmp 130), type := 3, pos := "law.go:151", after := #[{ on := 9, ground := Ground.data }, { on := 5, ground := Ground.guard }], guard := some (5, true) }, { dst := some 132, op := Op.move (Operand.tmp 10), type := 27, pos := "law.go:151", after := #[{ on := 5, ground := Ground.guard }], guard := some (5, true) }, { dst := some 133, op := Op.move (Operand.tmp 11), type := 3, pos := "law.go:151", after := #[{ on := 5, ground := Ground.guard }], guard := some (5, true) }, { dst := some 134, op := Op.indexAddr 27 (Operand.tmp 132) (Operand.tmp 133), type := 0, pos := "law.go:151", after := #[{ on := 11, ground := Ground.data }, { on := 12, ground := Ground.data }, { on := 5, ground := Ground.guard }], guard := some (5, true) }, { dst := some 135, op := Op.load 3 (Operand.tmp 134), type := 3, pos := "law.go:151", after := #[{ on := 13, ground := Ground.data }, { on := 5, ground := Ground.guard }], guard := some (5, true) }, { dst := some 136, op := Op.binOp BinOp.eql 3 (Operand.tmp 131) (Operand.tmp 135) 3, type := 4, pos := "law.go:151", after := #[{ on := 10, ground := Ground.data }, { on := 14, ground := Ground.data }, { on := 5, ground := Ground.guard }], guard := some (5, true) }, { dst := some 137, op := Op.pick (Operand.tmp 126) (Operand.tmp 136) (Operand.const (Value.bool false)), type := 4, pos := "law.go:151", after := #[{ on := 5, ground := Ground.data }, { on := 15, ground := Ground.data }], guard := none }, { dst := some 138, op := Op.move (Operand.tmp 137), type := 4, pos := "law.go:151", after := #[{ on := 16, ground := Ground.data }, { on := 5, ground := Ground.chain }], guard := none }, { dst := some 139, op := Op.call { callee := Callee.value (Operand.func 9), args := #[], argTypes := #[] }, type := 4, pos := "law.go:151", after := #[{ on := 17, ground := Ground.chain }, { on := 17, ground := Ground.guard }], guard := some (17, true) }, { dst := some 140, op := Op.pick (Operand.tmp 138) (Operand.tmp 139) (Operand.const (Value.bool false)), type := 4, pos := "law.go:151", after := #[{ on := 17, ground := Ground.data }, { on := 18, ground := Ground.data }], guard := none }, { dst := some 6, op := Op.assign (Operand.tmp 140), type := 4, pos := "law.go:151", after := #[{ on := 19, ground := Ground.data }, { on := 18, ground := Ground.chain }, { on := 0, ground := Ground.phase }, { on := 1, ground := Ground.phase }, { on := 2, ground := Ground.phase }, { on := 3, ground := Ground.phase }, { on := 4, ground := Ground.phase }, { on := 5, ground := Ground.phase }, { on := 6, ground := Ground.phase }, { on := 7, ground := Ground.phase }, { on := 8, ground := Ground.phase }, { on := 9, ground := Ground.phase }, { on := 10, ground := Ground.phase }, { on := 11, ground := Ground.phase }, { on := 12, ground := Ground.phase }, { on := 13, ground := Ground.phase }, { on := 14, ground := Ground.phase }, { on := 15, ground := Ground.phase }, { on := 16, ground := Ground.phase }, { on := 17, ground := Ground.phase }, { on := 18, ground := Ground.phase }, { on := 19, ground := Ground.phase }], guard := none }] true).wp Try.prog Q { tmps := #[x0, x1, x2, x3, x4, x5, x6, x7, x8, x9, .slice (some ⟨gw, 0, none⟩) n cw, iv (k : Int), x12, x13, x14, x15, .slice (some ⟨ge, 0, none⟩) n1 ce, x17, x18, x19, x20, x21, x22, x23, x24, x25, x26, x27, x28, x29, x30, x31, x32, x33, x34, x35, x36, x37, x38, x39, x40, x41, x42, x43, x44, x45, x46, x47, x48, x49, x50, x51, x52, x53, x54, x55, x56, x57, x58, x59, x60, x61, x62, x63, x64, x65, x66, x67, x68, x69, x70, x71, x72, x73, x74, x75, x76, x77, x78, x79, x80, x81, x82, x83, x84, x85, x86, x87, x88, x89, x90, x91, x92, x93, x94, x95, x96, x97, x98, x99, x100, x101, x102, x103, x104, x105, x106, x107, x108, x109, x110, x111, x112, x113, x114, x115, x116, x117, x118, x119, x120, x121, x122, x123, x124, x125, x126, x127, x128, x129, x130, x131, x132, x133, x134, x135, x136, x137, x138, x139, x140], defers := ds } A := by
  refine Code.wp_mono (Q := fun x a' w' => match x with | .normal => Q .normal a' w' | _ => False) (by intro x a' w' h; cases x <;> first | exact h | exact h.elim) ?_
  refine wp_region_held (S := fun V => Below A.heap.size A V) (by kernel_rfl) ?_
  have hS0 : Hid (Below A.heap.size A A.drew) := below_drew0 A
  change wpAnyH Try.prog .any _ _ (fun V => Below A.heap.size A V) 21 (Array.replicate 21 false) _ A.drew
  obtain ⟨V0, hV0⟩ : ∃ V0, A.drew = V0 := ⟨_, rfl⟩
  rw [hV0]
  rw [hV0] at hS0
  clear hV0
  refine wpAnyH_take (i := 0) (oi := { dst := some 121, op := Op.move (Operand.tmp 16), type := 28, pos := "law.go:151", after := #[], guard := none }) (v := .slice (some ⟨ge, 0, none⟩) n1 ce) rfl (by kernel_rfl) (by kernel_rfl) (by kernel_rfl) (fun _ _ _ h => h.elim) (Or.inl ⟨by rfl, ?y1⟩) hS0.out ?_
  case y1 =>
    intro V hV
    go_simp
  simp only [Act.put, List.setIfInBounds_toArray, List.set_cons_zero, List.set_cons_succ]
  refine wpAnyH_take (i := 1) (oi := { dst := some 122, op := Op.call { callee := Callee.builtin Builtin.len, args := #[Operand.tmp 121], argTypes := #[28] }, type := 3, pos := "law.go:151", after := #[{ on := 0, ground := Ground.data }], guard := none }) (v := iv (n1 : Int)) rfl (by kernel_rfl) (by kernel_rfl) (by kernel_rfl) (fun _ _ _ h => h.elim) (Or.inl ⟨by rfl, ?y2⟩) hS0.out ?_
  case y2 =>
    intro V hV
    go_simp
  simp only [Act.put, List.setIfInBounds_toArray, List.set_cons_zero, List.set_cons_succ]
  refine wpAnyH_take (i := 2) (oi := { dst := some 123, op := Op.move (Operand.tmp 11), type := 3, pos := "law.go:151", after := #[], guard := none }) (v := iv (k : Int)) rfl (by kernel_rfl) (by kernel_rfl) (by kernel_rfl) (fun _ _ _ h => h.elim) (Or.inl ⟨by rfl, ?y3⟩) hS0.out ?_
  case y3 =>
    intro V hV
    go_simp
  simp only [Act.put, List.setIfInBounds_toArray, List.set_cons_zero, List.set_cons_succ]
  refine wpAnyH_take (i := 3) (oi := { dst := some 124, op := Op.binOp BinOp.add 3 (Operand.tmp 123) (Operand.const (Value.int IntKind.i64 1)) 3, type := 3, pos := "law.go:151", after := #[{ on := 2, ground := Ground.data }], guard := none }) (v := iv ((k : Int) + 1)) rfl (by kernel_rfl) (by kernel_rfl) (by kernel_rfl) (fun _ _ _ h => h.elim) (Or.inl ⟨by rfl, ?y4⟩) hS0.out ?_
  case y4 =>
    intro V hV
    have hk := HQ.out.1
    have hwr : IntKind.i64.wrap ((k : Int) + 1) = (k : Int) + 1 := by rw [IntKind.wrap_i64]; omega
    go_simp
  simp only [Act.put, List.setIfInBounds_toArray, List.set_cons_zero, List.set_cons_succ]
  refine wpAnyH_take (i := 4) (oi := { dst := some 125, op := Op.binOp BinOp.eql 3 (Operand.tmp 122) (Operand.tmp 124) 3, type := 4, pos := "law.go:151", after := #[{ on := 1, ground := Ground.data }, { on := 3, ground := Ground.data }], guard := none }) (v := .bool true) rfl (by kernel_rfl) (by kernel_rfl) (by kernel_rfl) (fun _ _ _ h => h.elim) (Or.inl ⟨by rfl, ?y5⟩) hS0.out ?_
  case y5 =>
    intro V hV
    have he := HQ.out.2.2.1
    go_simp
  simp only [Act.put, List.setIfInBounds_toArray, List.set_cons_zero, List.set_cons_succ]
  refine wpAnyH_take (i := 5) (oi := { dst := some 126, op := Op.move (Operand.tmp 125), type := 4, pos := "law.go:151", after := #[{ on := 4, ground := Ground.data }], guard := none }) (v := .bool true) rfl (by kernel_rfl) (by kernel_rfl) (by kernel_rfl) (fun _ _ _ h => h.elim) (Or.inl ⟨by rfl, ?y6⟩) hS0.out ?_
  case y6 =>
    intro V hV
    go_simp
  simp only [Act.put, List.setIfInBounds_toArray, List.set_cons_zero, List.set_cons_succ]
  refine wpAnyH_take (i := 6) (oi := { dst := some 127, op := Op.move (Operand.tmp 16), type := 28, pos := "law.go:151", after := #[{ on := 5, ground := Ground.guard }], guard := some (5, true) }) (v := .slice (some ⟨ge, 0, none⟩) n1 ce) rfl (by kernel_rfl) (by kernel_rfl) (by kernel_rfl) (fun _ _ _ h => h.elim) (Or.inl ⟨by rfl, ?y7⟩) hS0.out ?_
  case y7 =>
    intro V hV
    go_simp
  simp only [Act.put, List.setIfInBounds_toArray, List.set_cons_zero, List.set_cons_succ]
  refine wpAnyH_take (i := 7) (oi := { dst := some 128, op := Op.move (Operand.tmp 11), type := 3, pos := "law.go:151", after := #[{ on := 5, ground := Ground.guard }], guard := some (5, true) }) (v := iv (k : Int)) rfl (by kernel_rfl) (by kernel_rfl) (by kernel_rfl) (fun _ _ _ h => h.elim) (Or.inl ⟨by rfl, ?y8⟩) hS0.out ?_
  case y8 =>
    intro V hV
    go_simp
  simp only [Act.put, List.setIfInBounds_toArray, List.set_cons_zero, List.set_cons_succ]
  refine wpAnyH_take (i := 8) (oi := { dst := some 129, op := Op.indexAddr 28 (Operand.tmp 127) (Operand.tmp 128), type := 0, pos := "law.go:151", after := #[{ on := 6, ground := Ground.data }, { on := 7, ground := Ground.data }, { on := 5, ground := Ground.guard }], guard := some (5, true) }) (v := .pointer (some ⟨ge, k * 3, none⟩)) rfl (by kernel_rfl) (by kernel_rfl) (by kernel_rfl) (fun _ _ _ h => h.elim) (Or.inl ⟨by rfl, ?y9⟩) hS0.out ?_
  case y9 =>
    intro V hV
    have hcmp := HQ.out.2.1
    have hcmp2 := HQ.out.2.2.2
    go_simp
  simp only [Act.put, List.setIfInBounds_toArray, List.set_cons_zero, List.set_cons_succ]
  refine wpAnyH_take (i := 9) (oi := { dst := some 130, op := Op.fieldAddr 38 (Operand.tmp 129) 0, type := 0, pos := "law.go:151", after := #[{ on := 8, ground := Ground.data }, { on := 5, ground := Ground.guard }], guard := some (5, true) }) (v := .pointer (some ⟨ge, k * 3, none⟩)) rfl (by kernel_rfl) (by kernel_rfl) (by kernel_rfl) (fun _ _ _ h => h.elim) (Or.inl ⟨by rfl, ?y10⟩) hS0.out ?_
  case y10 =>
    intro V hV
    go_simp
  simp only [Act.put, List.setIfInBounds_toArray, List.set_cons_zero, List.set_cons_succ]
  refine wpAnyH_take (i := 10) (oi := { dst := some 131, op := Op.load 3 (Operand.tmp 130), type := 3, pos := "law.go:151", after := #[{ on := 9, ground := Ground.data }, { on := 5, ground := Ground.guard }], guard := some (5, true) }) (v := iv x) rfl (by kernel_rfl) (by kernel_rfl) (by kernel_rfl) (fun _ _ _ h => h.elim) (Or.inl ⟨by rfl, ?y11⟩) hS0.out ?_
  case y11 =>
    intro V hV
    have hc : V.cell? ⟨ge, k * 3, none⟩ = some (iv x) := ((show Below A.heap.size A V from hV).cell (p := ⟨ge, k * 3, none⟩) (HL.out.2)).trans k0
    go_simp
  simp only [Act.put, List.setIfInBounds_toArray, List.set_cons_zero, List.set_cons_succ]
  refine wpAnyH_take (i := 11) (oi := { dst := some 132, op := Op.move (Operand.tmp 10), type := 27, pos := "law.go:151", after := #[{ on := 5, ground := Ground.guard }], guard := some (5, true) }) (v := .slice (some ⟨gw, 0, none⟩) n cw) rfl (by kernel_rfl) (by kernel_rfl) (by kernel_rfl) (fun _ _ _ h => h.elim) (Or.inl ⟨by rfl, ?y12⟩) hS0.out ?_
  case y12 =>
    intro V hV
    go_simp
  simp only [Act.put, List.setIfInBounds_toArray, List.set_cons_zero, List.set_cons_succ]
  refine wpAnyH_take (i := 12) (oi := { dst := some 133, op := Op.move (Operand.tmp 11), type := 3, pos := "law.go:151", after := #[{ on := 5, ground := Ground.guard }], guard := some (5, true) }) (v := iv (k : Int)) rfl (by kernel_rfl) (by kernel_rfl) (by kernel_rfl) (fun _ _ _ h => h.elim) (Or.inl ⟨by rfl, ?y13⟩) hS0.out ?_
  case y13 =>
    intro V hV
    go_simp
  simp only [Act.put, List.setIfInBounds_toArray, List.set_cons_zero, List.set_cons_succ]
  refine wpAnyH_take (i := 13) (oi := { dst := some 134, op := Op.indexAddr 27 (Operand.tmp 132) (Operand.tmp 133), type := 0, pos := "law.go:151", after := #[{ on := 11, ground := Ground.data }, { on := 12, ground := Ground.data }, { on := 5, ground := Ground.guard }], guard := some (5, true) }) (v := .pointer (some ⟨gw, k, none⟩)) rfl (by kernel_rfl) (by kernel_rfl) (by kernel_rfl) (fun _ _ _ h => h.elim) (Or.inl ⟨by rfl, ?y14⟩) hS0.out ?_
  case y14 =>
    intro V hV
    have hcmp := q1
    have hcmp2 := q2
    go_simp
  simp only [Act.put, List.setIfInBounds_toArray, List.set_cons_zero, List.set_cons_succ]
  refine wpAnyH_take (i := 14) (oi := { dst := some 135, op := Op.load 3 (Operand.tmp 134), type := 3, pos := "law.go:151", after := #[{ on := 13, ground := Ground.data }, { on := 5, ground := Ground.guard }], guard := some (5, true) }) (v := iv x) rfl (by kernel_rfl) (by kernel_rfl) (by kernel_rfl) (fun _ _ _ h => h.elim) (Or.inl ⟨by rfl, ?y15⟩) hS0.out ?_
  case y15 =>
    intro V hV
    have hc : V.cell? ⟨gw, k, none⟩ = some (iv x) := ((show Below A.heap.size A V from hV).cell (p := ⟨gw, k, none⟩) (HL.out.1)).trans k4
    go_simp
  simp only [Act.put, List.setIfInBounds_toArray, List.set_cons_zero, List.set_cons_succ]
  refine wpAnyH_take (i := 15) (oi := { dst := some 136, op := Op.binOp BinOp.eql 3 (Operand.tmp 131) (Operand.tmp 135) 3, type := 4, pos := "law.go:151", after := #[{ on := 10, ground := Ground.data }, { on := 14, ground := Ground.data }, { on := 5, ground := Ground.guard }], guard := some (5, true) }) (v := .bool true) rfl (by kernel_rfl) (by kernel_rfl) (by kernel_rfl) (fun _ _ _ h => h.elim) (Or.inl ⟨by rfl, ?y16⟩) hS0.out ?_
  case y16 =>
    intro V hV
    go_simp
  simp only [Act.put, List.setIfInBounds_toArray, List.set_cons_zero, List.set_cons_succ]
  refine wpAnyH_take (i := 16) (oi := { dst := some 137, op := Op.pick (Operand.tmp 126) (Operand.tmp 136) (Operand.const (Value.bool false)), type := 4, pos := "law.go:151", after := #[{ on := 5, ground := Ground.data }, { on := 15, ground := Ground.data }], guard := none }) (v := .bool true) rfl (by kernel_rfl) (by kernel_rfl) (by kernel_rfl) (fun _ _ _ h => h.elim) (Or.inl ⟨by rfl, ?y17⟩) hS0.out ?_
  case y17 =>
    intro V hV
    go_simp
  simp only [Act.put, List.setIfInBounds_toArray, List.set_cons_zero, List.set_cons_succ]
  refine wpAnyH_take (i := 17) (oi := { dst := some 138, op := Op.move (Operand.tmp 137), type := 4, pos := "law.go:151", after := #[{ on := 16, ground := Ground.data }, { on := 5, ground := Ground.chain }], guard := none }) (v := .bool true) rfl (by kernel_rfl) (by kernel_rfl) (by kernel_rfl) (fun _ _ _ h => h.elim) (Or.inl ⟨by rfl, ?y18⟩) hS0.out ?_
  case y18 =>
    intro V hV
    go_simp
  simp only [Act.put, List.setIfInBounds_toArray, List.set_cons_zero, List.set_cons_succ]
  refine wpAnyH_ready (rs := [18]) (by kernel_rfl) (by simp) (AllReadyH.cons (i := 18) (o := { dst := some 139, op := Op.call { callee := Callee.value (Operand.func 9), args := #[], argTypes := #[] }, type := 4, pos := "law.go:151", after := #[{ on := 17, ground := Ground.chain }, { on := 17, ground := Ground.guard }], guard := some (17, true) }) rfl ?_ AllReadyH.nil)
  · intro K1 hK1
    rw [if_pos (by rfl)]
    have HC1 := lives_is V0
    go_wp2_with fail
    refine HC1.mono ?_
    rintro e V1 ⟨rfl, hb1⟩
    dsimp only
    clear HC1
    have hS1 : Hid (Below A.heap.size A V1) := hS0.out.trans (hb1.mono hS0.out.size)
    clear hb1
    refine hK1.out _ _ hS1.out ?_
    clear hK1
    intro _
    try simp only [Act.put, List.setIfInBounds_toArray, List.set_cons_zero, List.set_cons_succ]
    refine wpAnyH_take (i := 19) (oi := { dst := some 140, op := Op.pick (Operand.tmp 138) (Operand.tmp 139) (Operand.const (Value.bool false)), type := 4, pos := "law.go:151", after := #[{ on := 17, ground := Ground.data }, { on := 18, ground := Ground.data }], guard := none }) (v := .bool true) rfl (by kernel_rfl) (by kernel_rfl) (by kernel_rfl) (fun _ _ _ h => h.elim) (Or.inl ⟨by rfl, ?y19⟩) hS1.out ?_
    case y19 =>
      intro V hV
      go_simp
    simp only [Act.put, List.setIfInBounds_toArray, List.set_cons_zero, List.set_cons_succ]
    refine wpAnyH_take (i := 20) (oi := { dst := some 6, op := Op.assign (Operand.tmp 140), type := 4, pos := "law.go:151", after := #[{ on := 19, ground := Ground.data }, { on := 18, ground := Ground.chain }, { on := 0, ground := Ground.phase }, { on := 1, ground := Ground.phase }, { on := 2, ground := Ground.phase }, { on := 3, ground := Ground.phase }, { on := 4, ground := Ground.phase }, { on := 5, ground := Ground.phase }, { on := 6, ground := Ground.phase }, { on := 7, ground := Ground.phase }, { on := 8, ground := Ground.phase }, { on := 9, ground := Ground.phase }, { on := 10, ground := Ground.phase }, { on := 11, ground := Ground.phase }, { on := 12, ground := Ground.phase }, { on := 13, ground := Ground.phase }, { on := 14, ground := Ground.phase }, { on := 15, ground := Ground.phase }, { on := 16, ground := Ground.phase }, { on := 17, ground := Ground.phase }, { on := 18, ground := Ground.phase }, { on := 19, ground := Ground.phase }], guard := none }) (v := .bool true) rfl (by kernel_rfl) (by kernel_rfl) (by kernel_rfl) (fun _ _ _ h => h.elim) (Or.inl ⟨by rfl, ?y20⟩) hS1.out ?_
    case y20 =>
      intro V hV
      go_simp
    simp only [Act.put, List.setIfInBounds_toArray, List.set_cons_zero, List.set_cons_succ]
    refine wpAnyH_done (by kernel_rfl) ?_ _
    exact hQ V1 hS1.out
#print axioms prog26
end Go.Proofs.Ytipipckbcelphaa.Oct
