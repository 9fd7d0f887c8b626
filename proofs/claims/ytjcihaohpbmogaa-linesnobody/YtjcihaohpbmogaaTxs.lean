/-
  Layer 11 (lines): Texts.
-/
import Derived.Test.YtjcihaohpbmogaaUnm
namespace Go.Proofs.Ytjcihaohpbmogaa.Oct
open Go.RowKit
set_option maxRecDepth 100000
set_option linter.unusedSimpArgs false
set_option linter.unusedVariables false
set_option linter.unusedSectionVars false

set_option maxRecDepth 100000 in
set_option maxHeartbeats 4000000 in
theorem tx6 {Q : Exit → Act → World → Prop} {x2 x3 x4 x6 x7 x8 x9 x10 x11 x12 x13 x14 x15 x16 x17 x18 x19 x20 x21 x22 x23 x24 x25 : Value} {ds : List Deferred} {A : World} {g1 o1 k1 g2 o2 k2 n i : Nat} {s t : BA}
    (HL : Hid (g1 < A.heap.size ∧ g2 < A.heap.size)) (c1 : A.cell? ⟨g1, o1 + i, none⟩ = some (.string s)) (c2 : A.cell? ⟨g2, o2 + i, none⟩ = some (.string t)) (q1 : (i : Int) < (n : Int)) (q2 : i < n)
    (hQ : ∀ V1, Below A.heap.size A V1 → Q .normal { tmps := #[.slice (some ⟨g1, o1, none⟩) n k1, .slice (some ⟨g2, o2, none⟩) n k2, x2, x3, x4, iv (i : Int), x6, x7, x8, x9, x10, x11, x12, x13, x14, x15, x16, .slice (some ⟨g1, o1, none⟩) n k1, iv (i : Int), .pointer (some ⟨g1, o1 + i, none⟩), .string s, .slice (some ⟨g2, o2, none⟩) n k2, iv (i : Int), .pointer (some ⟨g2, o2 + i, none⟩), .string t, .bool (!decide (s = t))], defers := ds } V1) :
    (Code.region 6 #[{ dst := some 17, op := Op.move (Operand.tmp 0), type := 36, pos := "ref.go:273", after := #[], guard := none }, { dst := some 18, op := Op.move (Operand.tmp 5), type := 3, pos := "ref.go:273", after := #[], guard := none }, { dst := some 19, op := Op.indexAddr 36 (Operand.tmp 17) (Operand.tmp 18), type := 0, pos := "ref.go:273", after := #[{ on := 0, ground := Ground.data }, { on := 1, ground := Ground.data }], guard := none }, { dst := some 20, op := Op.load 9 (Operand.tmp 19), type := 9, pos := "ref.go:273", after := #[{ on := 2, ground := Ground.data }], guard := none }, { dst := some 21, op := Op.move (Operand.tmp 1), type := 36, pos := "ref.go:273", after := #[], guard := none }, { dst := some 22, op := Op.move (Operand.tmp 5), type := 3, pos := "ref.go:273", after := #[], guard := none }, { dst := some 23, op := Op.indexAddr 36 (Operand.tmp 21) (Operand.tmp 22), type := 0, pos := "ref.go:273", after := #[{ on := 4, ground := Ground.data }, { on := 5, ground := Ground.data }], guard := none }, { dst := some 24, op := Op.load 9 (Operand.tmp 23), type := 9, pos := "ref.go:273", after := #[{ on := 6, ground := Ground.data }], guard := none }, { dst := some 25, op := Op.binOp BinOp.neq 9 (Operand.tmp 20) (Operand.tmp 24) 9, type := 4, pos := "ref.go:273", after := #[{ on := 3, ground := Ground.data }, { on := 7, ground := Ground.data }], guard := none }] true).wp Try.prog Q { tmps := #[.slice (some ⟨g1, o1, none⟩) n k1, .slice (some ⟨g2, o2, none⟩) n k2, x2, x3, x4, iv (i : Int), x6, x7, x8, x9, x10, x11, x12, x13, x14, x15, x16, x17, x18, x19, x20, x21, x22, x23, x24, x25], defers := ds } A := by
  refine Code.wp_mono (Q := fun x a' w' => match x with | .normal => Q .normal a' w' | _ => False) (by intro x a' w' h; cases x <;> first | exact h | exact h.elim) ?_
  refine wp_region_held (S := fun V => Below A.heap.size A V) (by kernel_rfl) ?_
  have hS0 : Hid (Below A.heap.size A A.drew) := below_drew0 A
  change wpAnyH Try.prog .any _ _ (fun V => Below A.heap.size A V) 9 (Array.replicate 9 false) _ A.drew
  obtain ⟨V0, hV0⟩ : ∃ V0, A.drew = V0 := ⟨_, rfl⟩
  rw [hV0]
  rw [hV0] at hS0
  clear hV0
  refine wpAnyH_take (i := 0) (oi := { dst := some 17, op := Op.move (Operand.tmp 0), type := 36, pos := "ref.go:273", after := #[], guard := none }) (v := .slice (some ⟨g1, o1, none⟩) n k1) rfl (by kernel_rfl) (by kernel_rfl) (by kernel_rfl) (fun _ _ _ h => h.elim) (Or.inl ⟨by rfl, ?y1⟩) hS0.out ?_
  case y1 =>
    intro V hV
    go_simp
  simp only [Act.put, List.setIfInBounds_toArray, List.set_cons_zero, List.set_cons_succ]
  refine wpAnyH_take (i := 1) (oi := { dst := some 18, op := Op.move (Operand.tmp 5), type := 3, pos := "ref.go:273", after := #[], guard := none }) (v := iv (i : Int)) rfl (by kernel_rfl) (by kernel_rfl) (by kernel_rfl) (fun _ _ _ h => h.elim) (Or.inl ⟨by rfl, ?y2⟩) hS0.out ?_
  case y2 =>
    intro V hV
    go_simp
  simp only [Act.put, List.setIfInBounds_toArray, List.set_cons_zero, List.set_cons_succ]
  refine wpAnyH_take (i := 2) (oi := { dst := some 19, op := Op.indexAddr 36 (Operand.tmp 17) (Operand.tmp 18), type := 0, pos := "ref.go:273", after := #[{ on := 0, ground := Ground.data }, { on := 1, ground := Ground.data }], guard := none }) (v := .pointer (some ⟨g1, o1 + i, none⟩)) rfl (by kernel_rfl) (by kernel_rfl) (by kernel_rfl) (fun _ _ _ h => h.elim) (Or.inl ⟨by rfl, ?y3⟩) hS0.out ?_
  case y3 =>
    intro V hV
    have hcmp := q1
    have hcmp2 := q2
    go_simp
  simp only [Act.put, List.setIfInBounds_toArray, List.set_cons_zero, List.set_cons_succ]
  refine wpAnyH_take (i := 3) (oi := { dst := some 20, op := Op.load 9 (Operand.tmp 19), type := 9, pos := "ref.go:273", after := #[{ on := 2, ground := Ground.data }], guard := none }) (v := .string s) rfl (by kernel_rfl) (by kernel_rfl) (by kernel_rfl) (fun _ _ _ h => h.elim) (Or.inl ⟨by rfl, ?y4⟩) hS0.out ?_
  case y4 =>
    intro V hV
    have hc : V.cell? ⟨g1, o1 + i, none⟩ = some (.string s) := (hV.cell (p := ⟨g1, o1 + i, none⟩) HL.out.1).trans c1
    go_simp
  simp only [Act.put, List.setIfInBounds_toArray, List.set_cons_zero, List.set_cons_succ]
  refine wpAnyH_take (i := 4) (oi := { dst := some 21, op := Op.move (Operand.tmp 1), type := 36, pos := "ref.go:273", after := #[], guard := none }) (v := .slice (some ⟨g2, o2, none⟩) n k2) rfl (by kernel_rfl) (by kernel_rfl) (by kernel_rfl) (fun _ _ _ h => h.elim) (Or.inl ⟨by rfl, ?y5⟩) hS0.out ?_
  case y5 =>
    intro V hV
    go_simp
  simp only [Act.put, List.setIfInBounds_toArray, List.set_cons_zero, List.set_cons_succ]
  refine wpAnyH_take (i := 5) (oi := { dst := some 22, op := Op.move (Operand.tmp 5), type := 3, pos := "ref.go:273", after := #[], guard := none }) (v := iv (i : Int)) rfl (by kernel_rfl) (by kernel_rfl) (by kernel_rfl) (fun _ _ _ h => h.elim) (Or.inl ⟨by rfl, ?y6⟩) hS0.out ?_
  case y6 =>
    intro V hV
    go_simp
  simp only [Act.put, List.setIfInBounds_toArray, List.set_cons_zero, List.set_cons_succ]
  refine wpAnyH_take (i := 6) (oi := { dst := some 23, op := Op.indexAddr 36 (Operand.tmp 21) (Operand.tmp 22), type := 0, pos := "ref.go:273", after := #[{ on := 4, ground := Ground.data }, { on := 5, ground := Ground.data }], guard := none }) (v := .pointer (some ⟨g2, o2 + i, none⟩)) rfl (by kernel_rfl) (by kernel_rfl) (by kernel_rfl) (fun _ _ _ h => h.elim) (Or.inl ⟨by rfl, ?y7⟩) hS0.out ?_
  case y7 =>
    intro V hV
    have hcmp := q1
    have hcmp2 := q2
    go_simp
  simp only [Act.put, List.setIfInBounds_toArray, List.set_cons_zero, List.set_cons_succ]
  refine wpAnyH_take (i := 7) (oi := { dst := some 24, op := Op.load 9 (Operand.tmp 23), type := 9, pos := "ref.go:273", after := #[{ on := 6, ground := Ground.data }], guard := none }) (v := .string t) rfl (by kernel_rfl) (by kernel_rfl) (by kernel_rfl) (fun _ _ _ h => h.elim) (Or.inl ⟨by rfl, ?y8⟩) hS0.out ?_
  case y8 =>
    intro V hV
    have hc : V.cell? ⟨g2, o2 + i, none⟩ = some (.string t) := (hV.cell (p := ⟨g2, o2 + i, none⟩) HL.out.2).trans c2
    go_simp
  simp only [Act.put, List.setIfInBounds_toArray, List.set_cons_zero, List.set_cons_succ]
  refine wpAnyH_take (i := 8) (oi := { dst := some 25, op := Op.binOp BinOp.neq 9 (Operand.tmp 20) (Operand.tmp 24) 9, type := 4, pos := "ref.go:273", after := #[{ on := 3, ground := Ground.data }, { on := 7, ground := Ground.data }], guard := none }) (v := .bool (!decide (s = t))) rfl (by kernel_rfl) (by kernel_rfl) (by kernel_rfl) (fun _ _ _ h => h.elim) (Or.inl ⟨by rfl, ?y9⟩) hS0.out ?_
  case y9 =>
    intro V hV
    exact yl_bin V .neq 9 9 _ _ (.string s) (.string t) _ rfl rfl rfl rfl (neq9 s t V)
  simp only [Act.put, List.setIfInBounds_toArray, List.set_cons_zero, List.set_cons_succ]
  refine wpAnyH_done (by kernel_rfl) ?_ _
  exact hQ V0 hS0.out
#print axioms tx6
theorem CR.len {w : World} {t : TypeId} {a : Option Addr} {n : Nat} {cs : List Value} (h : CR w t a n cs) : cs.length = n := h.1
set_option maxHeartbeats 1000000 in
theorem texts_is (w : World) (a b : Option Addr) (n m ca cb : Nat) (xs ys : List BA) (hx : CR w 9 a n (strs xs)) (hy : CR w 9 b m (strs ys)) (hn : n ≤ 1000000) (hm : m ≤ 1000000) (B : Bool) (hB : decide (xs = ys) = B) : Calls Try.prog 23 #[.slice a n ca, .slice b m cb] w fun e w' => e = .returned (.bool B) ∧ Below w.heap.size w w' := by
  have hxl : xs.length = n := by have := hx.1; simpa [strs] using this
  have hyl : ys.length = m := by have := hy.1; simpa [strs] using this
  have HS : Hid (CR w 9 a n (strs xs) ∧ CR w 9 b m (strs ys) ∧ xs.length = n ∧ ys.length = m) := ⟨hx, hy, hxl, hyl⟩
  have q0 : (n : Int) ≤ 1000000 := by omega
  have HB : Hid (decide (xs = ys) = B) := hB
  clear hx hy hB
  go_enter Try.func23, Try.ntmps23
  by_cases hnm : n = m
  · subst hnm
    clear hn hm hxl hyl
    go_wp2
    go_loopw [5] (fun u wr => ∃ i : Nat, u = iv (i : Int) ∧ Hid (i ≤ n ∧ Below w.heap.size w wr ∧ xs.take i = ys.take i)) (fun u _ => n - (intOf u).toNat)
    case atStart => exact ⟨0, rfl, Nat.zero_le _, Below.refl _ _, rfl⟩
    case round =>
      obtain ⟨X, hX⟩ : ∃ X, X = wr := ⟨_, rfl⟩
      subst hX
      obtain ⟨i, rfl, HI⟩ := hrel
      by_cases hi : i < n
      · obtain ⟨s, hs⟩ : ∃ s, xs[i]? = some s := ⟨_, List.getElem?_eq_getElem (by rw [HS.out.2.2.1]; exact hi)⟩
        obtain ⟨t, ht⟩ : ∃ t, ys[i]? = some t := ⟨_, List.getElem?_eq_getElem (by rw [HS.out.2.2.2]; exact hi)⟩
        have HX : Hid (i < n ∧ xs[i]? = some s ∧ ys[i]? = some t) := ⟨hi, hs, ht⟩
        obtain ⟨g1, o1, rfl, hg1, hel1⟩ := (HS.out.1.below HI.out.2.1).2 (by omega)
        obtain ⟨g2, o2, rfl, hg2, hel2⟩ := (HS.out.2.1.below HI.out.2.1).2 (by omega)
        have c1 : X.cell? ⟨g1, o1 + i, none⟩ = some (.string s) := hel1 i _ (by unfold strs; rw [List.getElem?_map, hs]; rfl)
        have c2 : X.cell? ⟨g2, o2 + i, none⟩ = some (.string t) := hel2 i _ (by unfold strs; rw [List.getElem?_map, ht]; rfl)
        have HL : Hid (g1 < X.heap.size ∧ g2 < X.heap.size) := by
          obtain ⟨C, f, h1⟩ := hg1
          obtain ⟨C2, f2, h2⟩ := hg2
          exact ⟨(Array.getElem?_eq_some_iff.1 h1).1, (Array.getElem?_eq_some_iff.1 h2).1⟩
        have q1 : (i : Int) < (n : Int) := by omega
        clear hel1 hel2 hg1 hg2 hi hs ht
        go_wp2_with fail
        refine tx6 HL c1 c2 q1 HX.out.1 ?_
        intro V hb
        have HV : Hid (Below w.heap.size w V) := HI.out.2.1.trans (hb.mono HI.out.2.1.size)
        clear hb c1 c2
        by_cases hst : s = t
        · have HE : Hid (xs.take (i + 1) = ys.take (i + 1)) := by
            show _ = _
            rw [List.take_add_one, List.take_add_one, HX.out.2.1, HX.out.2.2, HI.out.2.2, hst]
          have hd : (!decide (s = t)) = false := by simp [hst]
          rw [hd]
          clear hd hst
          go_wp2
          refine ⟨⟨i + 1, by simp, HX.out.1, HV.out, HE.out⟩, ?_⟩
          have := HX.out.1; simp [intOf]; omega
        · have hd : (!decide (s = t)) = true := by simp [hst]
          rw [hd]
          have HE : Hid (B = false) := by
            show _ = _
            rw [← HB.out]
            have : xs ≠ ys := fun e => by
              have h1 := HX.out.2.1
              rw [e, HX.out.2.2] at h1
              exact hst (Option.some.inj h1).symm
            simp [this]
          clear hd hst
          go_wp2
          go_ret
          exact ⟨by rw [HE.out]; rfl, HV.out⟩
      · have q1 : ¬ (i : Int) < (n : Int) := by omega
        obtain rfl : i = n := by have := HI.out.1; omega
        have HE : Hid (B = true ∧ Below w.heap.size w X) := by
          refine ⟨?_, HI.out.2.1⟩
          have h1 := HI.out.2.2
          rw [List.take_of_length_le (Nat.le_of_eq HS.out.2.2.1), List.take_of_length_le (Nat.le_of_eq HS.out.2.2.2)] at h1
          rw [← HB.out]
          simp [h1]
        clear HI hi
        go_wp2
        go_ret
        exact ⟨by rw [HE.out.1]; rfl, HE.out.2⟩
  · have q1 : ¬ (n : Int) = (m : Int) := by omega
    have HE : Hid (B = false) := by
      show _ = _
      rw [← HB.out]
      have : xs ≠ ys := fun e => hnm (by rw [← hxl, ← hyl, e])
      simp [this]
    clear hnm hxl hyl hn hm
    go_wp2
    go_ret
    exact ⟨by rw [HE.out]; rfl, Below.refl _ _⟩
#print axioms texts_is
end Go.Proofs.Ytjcihaohpbmogaa.Oct
