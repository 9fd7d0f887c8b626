/-
  Layer 20 (review): the reference's With and Texts.
-/
import Derived.Test.YtaecigpjcbjcbaaSrt
import Derived.Test.YtaecigpjcbjcbaaMln
import Derived.Sort.Walk0
namespace Go.Proofs.Ytaecigpjcbjcbaa.Oct
open Go.RowKit
set_option linter.unusedSimpArgs false

def withB (s : BA) : List BA → List BA
  | [] => [s]
  | x :: l => if bk x < bk s then x :: withB s l else if x = s then x :: l else s :: x :: l
theorem withB_bk (s : BA) : ∀ l, (withB s l).map bk = withL (bk s) (l.map bk)
  | [] => rfl
  | x :: l => by
    have ih := withB_bk s l
    have e : (bk x = bk s) = (x = s) := propext ⟨bk_inj, fun h => by rw [h]⟩
    unfold withB withL
    simp only [List.map_cons, e]
    split
    · simp [ih]
    · split <;> simp
theorem withB_at (s : BA) : ∀ (l : List BA) (i : Nat), i ≤ l.length → (∀ x ∈ l.take i, bk x < bk s) → (∀ x, l[i]? = some x → ¬ bk x < bk s) → withB s l = l.take i ++ (if l[i]? = some s then l.drop i else s :: l.drop i)
  | [], i, hi, _, _ => by simp at hi; subst hi; simp [withB]
  | y :: l, 0, _, _, h => by
    have hy := h y (by simp)
    unfold withB
    rw [if_neg hy]
    simp
  | y :: l, i + 1, hi, h1, h2 => by
    have hy := h1 y (by simp)
    have ih := withB_at s l i (by simpa using hi) (fun x hx => h1 x (by simp [hx])) (fun x hx => h2 x (by simpa using hx))
    unfold withB
    rw [if_pos hy, ih]
    simp
/-- a slice of texts that were put together -/
def TS (w : World) (v : Value) (l : List BA) : Prop := (v = .slice none 0 0 ∧ l = []) ∨ ∃ g c, v = .slice (some ⟨g, 0, none⟩) l.length c ∧ l.length ≤ c ∧ c ≤ maxLen ∧ g < w.heap.size ∧ ∀ i x, l[i]? = some x → w.cell? ⟨g, i, none⟩ = some (.string x)
theorem TS.below {w w' : World} {v : Value} {l : List BA} (h : TS w v l) (hb : Below w.heap.size w w') : TS w' v l := by
  rcases h with h | ⟨g, c, h1, h2, h3, h4, h5⟩
  · exact .inl h
  · exact .inr ⟨g, c, h1, h2, h3, Nat.lt_of_lt_of_le h4 hb.size, fun i x hx => (hb.cell (p := ⟨g, i, none⟩) h4).trans (h5 i x hx)⟩
theorem TS.own {w : World} {B n : Nat} {v : Value} {l : List BA} (h : w.ownsRow B 9 1 v n (strC l)) : TS w v l := by
  have hl : l.length = n := by have := h.1; simpa [strC] using this
  rcases h.2 with ⟨rfl, rfl⟩ | ⟨g, cap, cur, rfl, hB, hb, hn, hc, hsz, ht⟩
  · exact .inl ⟨rfl, List.eq_nil_of_length_eq_zero hl⟩
  · refine .inr ⟨g, cap, by rw [hl], by omega, hc, lt_of_block hb, fun i x hx => ?_⟩
    rw [cell_of_row w g i _ 9 (0, 0) hb]
    have hu : (strC l)[i]? = some (.string x) := by simp [strC, hx]
    rw [← ht, List.getElem?_take] at hu
    split at hu
    · simpa using hu
    · cases hu
theorem TS.sl {w : World} {v : Value} {l : List BA} (h : TS w v l) : ∃ s : Sl, v = .slice s.a s.n s.c ∧ Strs w s.a s.n l ∧ s.n = l.length ∧ (s.n : Nat) ≤ s.c ∧ s.c ≤ maxLen := by
  rcases h with ⟨rfl, rfl⟩ | ⟨g, c, rfl, h2, h3, h4, h5⟩
  · exact ⟨⟨none, 0, 0⟩, rfl, ⟨rfl, fun h => absurd h (by decide)⟩, rfl, Nat.le_refl _, by show 0 ≤ maxLen; unfold maxLen; omega⟩
  · exact ⟨⟨some ⟨g, 0, none⟩, l.length, c⟩, rfl, ⟨rfl, fun _ => ⟨g, 0, rfl, h4, fun i x hx => by rw [Nat.zero_add]; exact h5 i x hx⟩⟩, rfl, h2, h3⟩
set_option maxRecDepth 100000 in
set_option maxHeartbeats 4000000 in
theorem with_is (s : BA) (l : List BA) (v : Value) (w : World) (h : TS w v l) (hn : l.length ≤ 1000) :
    Calls Try.prog 26 #[v, .string s] w fun e w' => ∃ v', e = .returned v' ∧ TS w' v' (withB s l) ∧ Below w.heap.size w w' := by
  have hbs0 := run_bs40_0
  have hbs1 := run_bs40 s
  rcases h with ⟨rfl, rfl⟩ | ⟨g, c, rfl, h2, h3, h4, h5⟩
  · obtain ⟨l, hl⟩ : ∃ l : List BA, l = [] := ⟨_, rfl⟩
    have HWB : Hid (withB s l = List.take 0 l ++ ([s] ++ List.drop 0 l)) := by rw [hl]; rfl
    have HSZ : Hid (0 ≤ 1000) := Nat.zero_le _
    have HSA : Hid (Strs w none 0 (List.take 0 l) ∧ Strs w none 0 (List.drop 0 l)) := by rw [hl]; exact ⟨⟨rfl, fun h => absurd h (by decide)⟩, ⟨rfl, fun h => absurd h (by decide)⟩⟩
    have HWL : Hid (withB s l = withB s []) := by rw [hl]; rfl
    rw [← HWL.out]
    go_enter Try.func26, Try.ntmps26
    go_wp2
    go_loopw [5] (fun u wr => u = iv 0 ∧ w = wr) (fun _ _ => 0)
    case atStart => exact ⟨rfl, rfl⟩
    case round =>
      obtain ⟨rfl, rfl⟩ := hrel
      have HB0 : Hid (w.heap.size ≤ w.heap.size) := Nat.le_refl _
      obtain ⟨W0, hW0⟩ : ∃ W0, w.alloc (.cells #[] 9) = W0 := ⟨_, rfl⟩
      have HW0 : Hid (Below w.heap.size w W0 ∧ W0.ownsRow w.heap.size 9 1 (.slice (some ⟨w.heap.size, 0, none⟩) 0 0) 0 (strC [])) := by rw [← hW0]; exact ⟨below_al _ _, empty_row w 9 1⟩
      go_wp2_with (with_reducible change wpList _ _ _ ({ dst := some 38, op := _, type := _, pos := _, after := _, guard := _ } :: _) _ _; refine Hid.out ?_)
      show wpList _ _ _ _ _ _
      refine wpList_append_mine rfl (.tmp 34) (.tmp 37) rfl W0 w.heap.size _ 0 [] HW0.out.2 _ 0 _ (l.take 0) rfl rfl (HSA.out.1.below HW0.out.1) HW0.out.1.size (by have := HSZ.out; omega) ?_
      intro v38 W1 ho1 hb1
      rw [List.nil_append, Nat.zero_add] at ho1
      obtain ⟨W2, hW2⟩ : ∃ W2, W1.alloc (.cells #[.string s] 9) = W2 := ⟨_, rfl⟩
      have HW2 : Hid (W2.ownsRow w.heap.size 9 1 v38 0 (strC (l.take 0)) ∧ Below w.heap.size w W2 ∧ Strs W2 (some ⟨W1.heap.size, 0, none⟩) 1 [s]) := by
        rw [← hW2]
        exact ⟨ownsRow_below ho1.out (below_al _ _), below_tr (HW0.out.1.trans hb1.out) (below_al _ _), strs_new _ _⟩
      clear ho1 hb1 hW0
      go_wp2_with (with_reducible change wpList _ _ _ ({ dst := some 42, op := _, type := _, pos := _, after := _, guard := _ } :: _) _ _; refine Hid.out ?_)
      show wpList _ _ _ _ _ _
      refine wpList_append_mine rfl (.tmp 39) (.tmp 41) rfl W2 w.heap.size v38 0 (l.take 0) HW2.out.1 _ 1 1 [s] rfl rfl HW2.out.2.2 HW2.out.2.1.size (by have := HSZ.out; omega) ?_
      intro v42 W3 ho3 hb3
      have HW3 : Hid (W3.ownsRow w.heap.size 9 1 v42 (0 + 1) (strC (l.take 0 ++ [s])) ∧ Below w.heap.size w W3) := ⟨ho3.out, HW2.out.2.1.trans hb3.out⟩
      clear ho3 hb3 hW2
      go_wp2_with (with_reducible change wpList _ _ _ ({ dst := some 47, op := _, type := _, pos := _, after := _, guard := _ } :: _) _ _; refine Hid.out ?_)
      all_goals
        show wpList _ _ _ _ _ _
        refine wpList_append_mine rfl (.tmp 43) (.tmp 46) rfl W3 w.heap.size v42 (0 + 1) (l.take 0 ++ [s]) HW3.out.1 _ 0 _ (l.drop 0) rfl rfl (by first | exact HSA.out.2.below HW3.out.2 | exact ⟨by rw [List.length_drop, HL.out.1], fun hp => by have := HSZ.out; omega⟩) HW3.out.2.size (by have := HSZ.out; omega) ?_
        intro v47 W4 ho4 hb4
        have HW4 : Hid (TS W4 v47 (withB s l) ∧ Below w.heap.size w W4) := by
          refine ⟨?_, HW3.out.2.trans hb4.out⟩
          rw [HWB.out]
          exact TS.own (by have := ho4.out; rw [List.append_assoc] at this; exact this)
        clear ho4 hb4
        go_wp2
        go_ret
        exact ⟨_, rfl, HW4.out.1, HW4.out.2⟩
  · obtain ⟨n, hnn⟩ : ∃ n, l.length = n := ⟨_, rfl⟩
    have HL : Hid (l.length = n ∧ g < w.heap.size ∧ (∀ i x, l[i]? = some x → w.cell? ⟨g, i, none⟩ = some (.string x)) ∧ n ≤ c ∧ c ≤ maxLen ∧ n ≤ 1000) := ⟨hnn, h4, h5, by omega, h3, by omega⟩
    have qn : (n : Int) ≤ 1000 := by omega
    have qc : (n : Int) ≤ (c : Int) := by omega
    have qm : (c : Int) ≤ 9223372036854775807 := by unfold maxLen at h3; omega
    rw [hnn]
    clear h2 h3 h4 h5 hn hnn
    go_enter Try.func26, Try.ntmps26
    go_wp2
    go_loopw [5] (fun u wr => ∃ i : Nat, u = iv i ∧ Hid (i ≤ n ∧ w = wr ∧ ∀ x ∈ l.take i, bk x < bk s)) (fun u _ => n - (intOf u).toNat)
    case atStart => exact ⟨0, rfl, Nat.zero_le _, rfl, by simp⟩
    case round =>
      obtain ⟨i, rfl, HI⟩ := hrel
      obtain ⟨x1, rfl, x2⟩ := HI.out
      have HSZ : Hid (i ≤ n ∧ n ≤ 1000 ∧ n ≤ c) := ⟨x1, HL.out.2.2.2.2.2, HL.out.2.2.2.1⟩
      have HSA : Hid (Strs w (some ⟨g, 0, none⟩) i (l.take i) ∧ Strs w (some ⟨g, i, none⟩) (n - i) (l.drop i)) := by
        refine ⟨⟨by rw [List.length_take, HL.out.1]; omega, fun _ => ⟨g, 0, rfl, HL.out.2.1, fun j y hj => ?_⟩⟩, ⟨by rw [List.length_drop, HL.out.1], fun _ => ⟨g, i, rfl, HL.out.2.1, fun j y hj => ?_⟩⟩⟩
        · rw [Nat.zero_add]
          rw [List.getElem?_take] at hj
          split at hj
          · exact HL.out.2.2.1 j y hj
          · cases hj
        · rw [List.getElem?_drop] at hj
          exact HL.out.2.2.1 _ y hj
      by_cases hi : i = n
      · have q1 : (n : Int) ≤ (i : Int) := by omega
        have HWB : Hid (withB s l = l.take i ++ ([s] ++ l.drop i)) := by
          show _ = _
          have hnone : l[i]? = none := List.getElem?_eq_none (by rw [HL.out.1]; omega)
          rw [withB_at s l i (by rw [HL.out.1]; omega) x2 (fun x hx => by rw [hnone] at hx; cases hx), hnone]
          simp
        have q3 : (i : Int) ≤ (c : Int) := by omega
        have q6 : (i : Int) ≤ (n : Int) := by omega
        clear x2 HI hi
        have HB0 : Hid (w.heap.size ≤ w.heap.size) := Nat.le_refl _
        obtain ⟨W0, hW0⟩ : ∃ W0, w.alloc (.cells #[] 9) = W0 := ⟨_, rfl⟩
        have HW0 : Hid (Below w.heap.size w W0 ∧ W0.ownsRow w.heap.size 9 1 (.slice (some ⟨w.heap.size, 0, none⟩) 0 0) 0 (strC [])) := by rw [← hW0]; exact ⟨below_al _ _, empty_row w 9 1⟩
        go_wp2_with (with_reducible change wpList _ _ _ ({ dst := some 38, op := _, type := _, pos := _, after := _, guard := _ } :: _) _ _; refine Hid.out ?_)
        show wpList _ _ _ _ _ _
        refine wpList_append_mine rfl (.tmp 34) (.tmp 37) rfl W0 w.heap.size _ 0 [] HW0.out.2 _ i _ (l.take i) rfl rfl (HSA.out.1.below HW0.out.1) HW0.out.1.size (by have := HSZ.out; omega) ?_
        intro v38 W1 ho1 hb1
        rw [List.nil_append, Nat.zero_add] at ho1
        obtain ⟨W2, hW2⟩ : ∃ W2, W1.alloc (.cells #[.string s] 9) = W2 := ⟨_, rfl⟩
        have HW2 : Hid (W2.ownsRow w.heap.size 9 1 v38 i (strC (l.take i)) ∧ Below w.heap.size w W2 ∧ Strs W2 (some ⟨W1.heap.size, 0, none⟩) 1 [s]) := by
          rw [← hW2]
          exact ⟨ownsRow_below ho1.out (below_al _ _), below_tr (HW0.out.1.trans hb1.out) (below_al _ _), strs_new _ _⟩
        clear ho1 hb1 hW0
        go_wp2_with (with_reducible change wpList _ _ _ ({ dst := some 42, op := _, type := _, pos := _, after := _, guard := _ } :: _) _ _; refine Hid.out ?_)
        show wpList _ _ _ _ _ _
        refine wpList_append_mine rfl (.tmp 39) (.tmp 41) rfl W2 w.heap.size v38 i (l.take i) HW2.out.1 _ 1 1 [s] rfl rfl HW2.out.2.2 HW2.out.2.1.size (by have := HSZ.out; omega) ?_
        intro v42 W3 ho3 hb3
        have HW3 : Hid (W3.ownsRow w.heap.size 9 1 v42 (i + 1) (strC (l.take i ++ [s])) ∧ Below w.heap.size w W3) := ⟨ho3.out, HW2.out.2.1.trans hb3.out⟩
        clear ho3 hb3 hW2
        go_wp2_with (with_reducible change wpList _ _ _ ({ dst := some 47, op := _, type := _, pos := _, after := _, guard := _ } :: _) _ _; refine Hid.out ?_)
        all_goals
          show wpList _ _ _ _ _ _
          refine wpList_append_mine rfl (.tmp 43) (.tmp 46) rfl W3 w.heap.size v42 (i + 1) (l.take i ++ [s]) HW3.out.1 _ (n - i) _ (l.drop i) rfl rfl (by first | exact HSA.out.2.below HW3.out.2 | exact ⟨by rw [List.length_drop, HL.out.1], fun hp => by have := HSZ.out; omega⟩) HW3.out.2.size (by have := HSZ.out; omega) ?_
          intro v47 W4 ho4 hb4
          have HW4 : Hid (TS W4 v47 (withB s l) ∧ Below w.heap.size w W4) := by
            refine ⟨?_, HW3.out.2.trans hb4.out⟩
            rw [HWB.out]
            exact TS.own (by have := ho4.out; rw [List.append_assoc] at this; exact this)
          clear ho4 hb4
          go_wp2
          go_ret
          exact ⟨_, rfl, HW4.out.1, HW4.out.2⟩
      · have q1 : (i : Int) < (n : Int) := by omega
        obtain ⟨x, hx⟩ : ∃ x, l[i]? = some x := ⟨_, List.getElem?_eq_getElem (by rw [HL.out.1]; omega)⟩
        have c0 := HL.out.2.2.1 i x hx
        have HX : Hid (l[i]? = some x) := hx
        by_cases hlt : bk x < bk s
        · have q4 : Op.bytesLess x.toList s.toList = true := by rw [toList_bk, toList_bk, Go.Proofs.bytesLess_eq]; simpa using hlt
          have HN : Hid (∀ y ∈ l.take (i + 1), bk y < bk s) := by
            intro y hy
            rw [List.take_add_one, HX.out] at hy
            rcases List.mem_append.1 hy with hy | hy
            · exact x2 y hy
            · simp at hy; rw [hy]; exact hlt
          clear hlt hx x2 HI
          go_wp2
          refine ⟨⟨i + 1, by simp, by omega, by first | rfl | trivial, HN.out⟩, ?_⟩
          simp only [intOf]
          omega
        · have q4 : Op.bytesLess x.toList s.toList = false := by rw [toList_bk, toList_bk, Go.Proofs.bytesLess_eq]; simpa using hlt
          by_cases heq : x = s
          · have q5 : (x.toList == s.toList) = true := by rw [eq_iff]; simp [heq]
            have HWB : Hid (withB s l = l) := by
              show _ = _
              rw [withB_at s l i (by rw [HL.out.1]; omega) x2 (fun y hy => by rw [HX.out] at hy; cases hy; exact hlt), HX.out, heq]
              simp
            have HTS : Hid (TS w (.slice (some ⟨g, 0, none⟩) n c) l) := .inr ⟨g, c, by rw [HL.out.1], by rw [HL.out.1]; exact HL.out.2.2.2.1, HL.out.2.2.2.2.1, HL.out.2.1, HL.out.2.2.1⟩
            clear hlt hx x2 HI heq
            go_wp2
            go_ret
            exact ⟨_, rfl, by rw [HWB.out]; exact HTS.out, Below.refl _ _⟩
          · have q5 : (x.toList == s.toList) = false := by rw [eq_iff]; simp [heq]
            have HWB : Hid (withB s l = l.take i ++ ([s] ++ l.drop i)) := by
              show _ = _
              have hne : ¬ (some x = some s) := fun e => heq (by simpa using e)
              rw [withB_at s l i (by rw [HL.out.1]; omega) x2 (fun y hy => by rw [HX.out] at hy; cases hy; exact hlt), HX.out, if_neg hne]
              simp
            have q3 : (i : Int) ≤ (c : Int) := by omega
            clear hlt hx x2 HI heq
            have HB0 : Hid (w.heap.size ≤ w.heap.size) := Nat.le_refl _
            obtain ⟨W0, hW0⟩ : ∃ W0, w.alloc (.cells #[] 9) = W0 := ⟨_, rfl⟩
            have HW0 : Hid (Below w.heap.size w W0 ∧ W0.ownsRow w.heap.size 9 1 (.slice (some ⟨w.heap.size, 0, none⟩) 0 0) 0 (strC [])) := by rw [← hW0]; exact ⟨below_al _ _, empty_row w 9 1⟩
            go_wp2_with (with_reducible change wpList _ _ _ ({ dst := some 38, op := _, type := _, pos := _, after := _, guard := _ } :: _) _ _; refine Hid.out ?_)
            show wpList _ _ _ _ _ _
            refine wpList_append_mine rfl (.tmp 34) (.tmp 37) rfl W0 w.heap.size _ 0 [] HW0.out.2 _ i _ (l.take i) rfl rfl (HSA.out.1.below HW0.out.1) HW0.out.1.size (by have := HSZ.out; omega) ?_
            intro v38 W1 ho1 hb1
            rw [List.nil_append, Nat.zero_add] at ho1
            obtain ⟨W2, hW2⟩ : ∃ W2, W1.alloc (.cells #[.string s] 9) = W2 := ⟨_, rfl⟩
            have HW2 : Hid (W2.ownsRow w.heap.size 9 1 v38 i (strC (l.take i)) ∧ Below w.heap.size w W2 ∧ Strs W2 (some ⟨W1.heap.size, 0, none⟩) 1 [s]) := by
              rw [← hW2]
              exact ⟨ownsRow_below ho1.out (below_al _ _), below_tr (HW0.out.1.trans hb1.out) (below_al _ _), strs_new _ _⟩
            clear ho1 hb1 hW0
            go_wp2_with (with_reducible change wpList _ _ _ ({ dst := some 42, op := _, type := _, pos := _, after := _, guard := _ } :: _) _ _; refine Hid.out ?_)
            show wpList _ _ _ _ _ _
            refine wpList_append_mine rfl (.tmp 39) (.tmp 41) rfl W2 w.heap.size v38 i (l.take i) HW2.out.1 _ 1 1 [s] rfl rfl HW2.out.2.2 HW2.out.2.1.size (by have := HSZ.out; omega) ?_
            intro v42 W3 ho3 hb3
            have HW3 : Hid (W3.ownsRow w.heap.size 9 1 v42 (i + 1) (strC (l.take i ++ [s])) ∧ Below w.heap.size w W3) := ⟨ho3.out, HW2.out.2.1.trans hb3.out⟩
            clear ho3 hb3 hW2
            go_wp2_with (with_reducible change wpList _ _ _ ({ dst := some 47, op := _, type := _, pos := _, after := _, guard := _ } :: _) _ _; refine Hid.out ?_)
            all_goals
              show wpList _ _ _ _ _ _
              refine wpList_append_mine rfl (.tmp 43) (.tmp 46) rfl W3 w.heap.size v42 (i + 1) (l.take i ++ [s]) HW3.out.1 _ (n - i) _ (l.drop i) rfl rfl (by first | exact HSA.out.2.below HW3.out.2 | exact ⟨by rw [List.length_drop, HL.out.1], fun hp => by have := HSZ.out; omega⟩) HW3.out.2.size (by have := HSZ.out; omega) ?_
              intro v47 W4 ho4 hb4
              have HW4 : Hid (TS W4 v47 (withB s l) ∧ Below w.heap.size w W4) := by
                refine ⟨?_, HW3.out.2.trans hb4.out⟩
                rw [HWB.out]
                exact TS.own (by have := ho4.out; rw [List.append_assoc] at this; exact this)
              clear ho4 hb4
              go_wp2
              go_ret
              exact ⟨_, rfl, HW4.out.1, HW4.out.2⟩
#print axioms with_is
end Go.Proofs.Ytaecigpjcbjcbaa.Oct
