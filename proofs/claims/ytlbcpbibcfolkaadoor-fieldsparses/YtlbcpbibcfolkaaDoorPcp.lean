/-
  Layer 22 (fields): the pieces of a form, plain facts.
-/
import Derived.Test.YtlbcpbibcfolkaaDoorBka
namespace Go.Proofs.YtlbcpbibcfolkaaDoor.Oct
open Go.RowKit
set_option linter.unusedSimpArgs false
set_option linter.unusedVariables false

theorem one_cut (st : List UInt8) (hst : ∀ c ∈ st, ¬ 0 ≤ dg c) (c : UInt8) (t : List UInt8) : oneE (c :: t) = oneE (c :: t.takeWhile fun c => !st.contains c) ∧ ∀ b n, oneE (c :: t) = .inr (b, n) → (c :: t.takeWhile fun c => !st.contains c).drop n = ((c :: t).drop n).takeWhile fun c => !st.contains c := by
  by_cases hc : c = 37
  · subst hc
    cases t with
    | nil => exact ⟨rfl, fun b n h => by cases h⟩
    | cons a u =>
      cases ha : st.contains a with
      | true =>
        have e : ((a :: u).takeWhile fun c => !st.contains c) = [] := by rw [List.takeWhile_cons]; simp only [ha]; rfl
        have hn : ¬ 0 ≤ dg a := hst a (by simpa using ha)
        have h2 : oneE (37 :: a :: u) = .inl 220 := by
          cases u with
          | nil => rfl
          | cons b r => unfold oneE; dsimp only; rw [if_pos rfl, if_neg (fun h => hn h.1)]
        rw [e, h2]
        exact ⟨rfl, fun b n h => by cases h⟩
      | false =>
        have e : ((a :: u).takeWhile fun c => !st.contains c) = a :: (u.takeWhile fun c => !st.contains c) := by rw [List.takeWhile_cons]; simp only [ha]; rfl
        rw [e]
        cases u with
        | nil => exact ⟨rfl, fun b n h => by cases h⟩
        | cons b r =>
          cases hb : st.contains b with
          | true =>
            have e2 : ((b :: r).takeWhile fun c => !st.contains c) = [] := by rw [List.takeWhile_cons]; simp only [hb]; rfl
            have hn : ¬ 0 ≤ dg b := hst b (by simpa using hb)
            have h2 : oneE (37 :: a :: b :: r) = .inl 220 := by unfold oneE; dsimp only; rw [if_pos rfl, if_neg (fun h => hn h.2)]
            rw [e2, h2]
            exact ⟨rfl, fun b n h => by cases h⟩
          | false =>
            have e2 : ((b :: r).takeWhile fun c => !st.contains c) = b :: (r.takeWhile fun c => !st.contains c) := by rw [List.takeWhile_cons]; simp only [hb]; rfl
            rw [e2]
            refine ⟨rfl, fun x n h => ?_⟩
            unfold oneE at h
            dsimp only at h
            rw [if_pos rfl] at h
            split at h
            · cases h; rfl
            · cases h
  · refine ⟨by unfold oneE; dsimp only; rw [if_neg hc, if_neg hc], fun b n h => ?_⟩
    unfold oneE at h
    dsimp only at h
    rw [if_neg hc] at h
    split at h
    · cases h; rfl
    · split at h
      · cases h; rfl
      · cases h
theorem upTo_cut (st : List UInt8) (hst : ∀ c ∈ st, ¬ 0 ≤ dg c) : ∀ (m : Nat) (l : List UInt8), l.length ≤ m → upTo st l = upTo [] (l.takeWhile fun c => !st.contains c)
  | _, [], _ => rfl
  | 0, c :: t, h => by simp at h
  | m + 1, c :: t, h => by
    cases hs : st.contains c with
    | true =>
      have e : ((c :: t).takeWhile fun c => !st.contains c) = [] := by rw [List.takeWhile_cons]; simp only [hs]; rfl
      rw [upTo_stop hs, e, upTo_nil]
    | false =>
      have e : ((c :: t).takeWhile fun c => !st.contains c) = c :: (t.takeWhile fun c => !st.contains c) := by rw [List.takeWhile_cons]; simp only [hs]; rfl
      obtain ⟨h1, h2⟩ := one_cut st hst c t
      rw [e]
      cases ho : oneE (c :: t) with
      | inl er =>
        rw [upTo_bad hs ho]
        rw [ho] at h1
        rw [upTo_bad (st := []) rfl h1.symm]
      | inr bn =>
        obtain ⟨b, n⟩ := bn
        have hn := one_len ho
        have hd := h2 b n ho
        rw [ho] at h1
        rw [upTo_step hs ho, upTo_step (st := []) rfl h1.symm, hd, upTo_cut st hst m _ (by rw [List.length_drop]; simp only [List.length_cons] at h ⊢; omega)]
theorem upTo_all : ∀ (m : Nat) (l : List UInt8), l.length ≤ m → (upTo [] l).2.2 = 0 → (upTo [] l).2.1 = l.length
  | _, [], _, _ => rfl
  | 0, c :: t, h, _ => by simp at h
  | m + 1, c :: t, h, h0 => by
    cases ho : oneE (c :: t) with
    | inl er =>
      rw [upTo_bad (st := []) rfl ho] at h0
      exact absurd h0 (one_er ho (by simp))
    | inr bn =>
      obtain ⟨b, n⟩ := bn
      have hn := one_len ho
      rw [upTo_step (st := []) rfl ho] at h0 ⊢
      have ih := upTo_all m _ (by rw [List.length_drop]; simp only [List.length_cons] at h ⊢; omega) h0
      simp only
      rw [ih, List.length_drop]
      omega
theorem d2 : ∀ c ∈ ([61, 38] : List UInt8), ¬ 0 ≤ dg c := by decide
theorem d1 : ∀ c ∈ ([38] : List UInt8), ¬ 0 ≤ dg c := by decide
/-- up to a byte -/
def tw (c : UInt8) (l : List UInt8) : List UInt8 := l.takeWhile fun x => x != c
theorem tw_le (c : UInt8) (l : List UInt8) : (tw c l).length ≤ l.length := (List.takeWhile_sublist _).length_le
theorem tw_split (c : UInt8) : ∀ l : List UInt8, ∃ r, l = tw c l ++ r ∧ (r = [] ∨ ∃ t, r = c :: t)
  | [] => ⟨[], rfl, .inl rfl⟩
  | x :: l => by
    obtain ⟨r, h1, h2⟩ := tw_split c l
    by_cases hx : x = c
    · subst hx
      exact ⟨x :: l, by simp [tw], .inr ⟨l, rfl⟩⟩
    · refine ⟨r, ?_, h2⟩
      have e : tw c (x :: l) = x :: tw c l := by simp [tw, hx]
      rw [e, List.cons_append, ← h1]
theorem tw_app {c : UInt8} {a r : List UInt8} (ha : ∀ x ∈ a, x ≠ c) (hr : r = [] ∨ ∃ t, r = c :: t) : tw c (a ++ r) = a := by
  unfold tw
  rw [List.takeWhile_append_of_pos (fun x hx => by simpa using ha x hx)]
  rcases hr with rfl | ⟨t, rfl⟩ <;> simp
theorem tw_mem {c : UInt8} {l : List UInt8} : ∀ x ∈ tw c l, x ≠ c := by
  induction l with
  | nil => intro x hx; simp [tw] at hx
  | cons y l ih =>
    intro x hx
    by_cases hy : y = c
    · simp [tw, hy] at hx
    · have e : tw c (y :: l) = y :: tw c l := by simp [tw, hy]
      rw [e] at hx
      rcases List.mem_cons.1 hx with rfl | hx
      · exact hy
      · exact ih x hx
theorem tw_two : ∀ l : List UInt8, (l.takeWhile fun c => !([61, 38] : List UInt8).contains c) = tw 61 (tw 38 l)
  | [] => rfl
  | x :: l => by
    have ih := tw_two l
    by_cases h1 : x = 38
    · subst h1; simp [tw]
    · have e : tw 38 (x :: l) = x :: tw 38 l := by simp [tw, h1]
      rw [e]
      by_cases h2 : x = 61
      · subst h2; simp [tw]
      · have e2 : tw 61 (x :: tw 38 l) = x :: tw 61 (tw 38 l) := by simp [tw, h2]
        rw [e2, ← ih, List.takeWhile_cons]
        simp [h1, h2]
theorem tw_one (l : List UInt8) : (l.takeWhile fun c => !([38] : List UInt8).contains c) = tw 38 l := by
  unfold tw
  congr 1
  funext c
  simp only [List.contains_cons, List.contains_nil, Bool.or_false]
  rfl
theorem up_two (l : List UInt8) : upTo [61, 38] l = upTo [] (tw 61 (tw 38 l)) := by rw [upTo_cut _ d2 _ l (Nat.le_refl _), tw_two]
theorem up_one (l : List UInt8) : upTo [38] l = upTo [] (tw 38 l) := by rw [upTo_cut _ d1 _ l (Nat.le_refl _), tw_one]
/-- what a piece of a form is read as -/
theorem piece_bad {l : List UInt8} (h : (upTo [] (tw 61 (tw 38 l))).2.2 ≠ 0) : pairF l = (([], []), (upTo [] (tw 61 (tw 38 l))).2.1, (upTo [] (tw 61 (tw 38 l))).2.2) := by
  have e := up_two l
  rw [pair_n0 (by rw [e]; exact h), e]
theorem piece_none {l : List UInt8} (h : (upTo [] (tw 61 (tw 38 l))).2.2 = 0) (hk : (tw 61 (tw 38 l)).length = (tw 38 l).length) : pairF l = (([], []), (tw 38 l).length, 221) := by
  have e := up_two l
  have hl := upTo_all _ _ (Nat.le_refl _) h
  obtain ⟨r, h1, h2⟩ := tw_split 38 l
  have hd : l.drop (tw 61 (tw 38 l)).length = r := by rw [hk]; conv => lhs; arg 2; rw [h1]
                                                      exact List.drop_left
  rw [pair_n1 (by rw [e]; exact h) (by rw [e, hl, hd]; rcases h2 with rfl | ⟨t, rfl⟩ <;> simp), e, hl, hk]
theorem piece_split {l : List UInt8} (hk : (tw 61 (tw 38 l)).length < (tw 38 l).length) : ∃ V r, l = tw 61 (tw 38 l) ++ 61 :: (V ++ r) ∧ tw 38 l = tw 61 (tw 38 l) ++ 61 :: V ∧ (r = [] ∨ ∃ t, r = 38 :: t) := by
  obtain ⟨r, h1, h2⟩ := tw_split 38 l
  obtain ⟨q, h3, h4⟩ := tw_split 61 (tw 38 l)
  rcases h4 with rfl | ⟨V, rfl⟩
  · rw [List.append_nil] at h3
    rw [← h3] at hk
    omega
  · refine ⟨V, r, ?_, h3, h2⟩
    conv => lhs; rw [h1, h3]
    rw [List.append_assoc]
    rfl
theorem piece_val {l V r : List UInt8} (hl : l = tw 61 (tw 38 l) ++ 61 :: (V ++ r)) (he : tw 38 l = tw 61 (tw 38 l) ++ 61 :: V) (hr : r = [] ∨ ∃ t, r = 38 :: t) : (l.drop (tw 61 (tw 38 l)).length).head? = some 61 ∧ upTo [38] (l.drop ((tw 61 (tw 38 l)).length + 1)) = upTo [] V ∧ l.drop (tw 38 l).length = r ∧ (tw 38 l).length = (tw 61 (tw 38 l)).length + 1 + V.length := by
  have hV : ∀ x ∈ V, x ≠ 38 := fun x hx => tw_mem (l := l) x (by rw [he]; simp [hx])
  generalize hK : tw 61 (tw 38 l) = K at *
  have h1 : l.drop K.length = 61 :: (V ++ r) := by conv => lhs; arg 2; rw [hl]
                                                   exact List.drop_left
  have h2 : l.drop (K.length + 1) = V ++ r := by rw [← List.drop_drop, h1]; rfl
  have h4 : (tw 38 l).length = K.length + 1 + V.length := by rw [he]; simp; omega
  refine ⟨by rw [h1]; rfl, by rw [h2, up_one, tw_app hV hr], ?_, h4⟩
  rw [h4, ← List.drop_drop, h2, List.drop_left]
theorem piece_bad2 {l V r : List UInt8} (hl : l = tw 61 (tw 38 l) ++ 61 :: (V ++ r)) (he : tw 38 l = tw 61 (tw 38 l) ++ 61 :: V) (hr : r = [] ∨ ∃ t, r = 38 :: t) (h : (upTo [] (tw 61 (tw 38 l))).2.2 = 0) (h2 : (upTo [] V).2.2 ≠ 0) : pairF l = (([], []), (tw 61 (tw 38 l)).length + 1 + (upTo [] V).2.1, (upTo [] V).2.2) := by
  have e := up_two l
  have hn := upTo_all _ _ (Nat.le_refl _) h
  obtain ⟨p1, p2, p3, p4⟩ := piece_val hl he hr
  rw [pair_n2 (by rw [e]; exact h) (by rw [e, hn]; exact p1) (by rw [e, hn, p2]; exact h2), e, hn, p2]
theorem piece_ok {l V r : List UInt8} (hl : l = tw 61 (tw 38 l) ++ 61 :: (V ++ r)) (he : tw 38 l = tw 61 (tw 38 l) ++ 61 :: V) (hr : r = [] ∨ ∃ t, r = 38 :: t) (h : (upTo [] (tw 61 (tw 38 l))).2.2 = 0) (h2 : (upTo [] V).2.2 = 0) : pairF l = (((upTo [] (tw 61 (tw 38 l))).1, (upTo [] V).1), (tw 38 l).length, 0) := by
  have e := up_two l
  have hn := upTo_all _ _ (Nat.le_refl _) h
  have hn2 := upTo_all _ _ (Nat.le_refl _) h2
  obtain ⟨p1, p2, p3, p4⟩ := piece_val hl he hr
  rw [pair_ok (by rw [e]; exact h) (by rw [e, hn]; exact p1) (by rw [e, hn, p2]; exact h2), e, hn, p2, hn2, p4]
/-- the reading of a form, piece by piece, as the reference does it -/
def refF : Nat → List UInt8 → List LL × Nat × Int
  | 0, _ => ([], 0, 3)
  | k + 1, l => if (pairF l).2.2 ≠ 0 then ([], (pairF l).2.1, (pairF l).2.2)
    else if l.length ≤ (pairF l).2.1 then ([(pairF l).1], (pairF l).2.1, 0)
    else ((pairF l).1 :: (refF k (l.drop ((pairF l).2.1 + 1))).1, (pairF l).2.1 + 1 + (refF k (l.drop ((pairF l).2.1 + 1))).2.1, (refF k (l.drop ((pairF l).2.1 + 1))).2.2)
theorem pair_end {l : List UInt8} (h : (pairF l).2.2 = 0) : l.drop (pairF l).2.1 = [] ∨ ∃ t, l.drop (pairF l).2.1 = 38 :: t := by
  by_cases h1 : (upTo [] (tw 61 (tw 38 l))).2.2 = 0
  · by_cases hk : (tw 61 (tw 38 l)).length = (tw 38 l).length
    · rw [piece_none h1 hk] at h; simp at h
    · have hlt : (tw 61 (tw 38 l)).length < (tw 38 l).length := by have := tw_le 61 (tw 38 l); omega
      obtain ⟨V, r, e1, e2, e3⟩ := piece_split hlt
      by_cases h2 : (upTo [] V).2.2 = 0
      · rw [piece_ok e1 e2 e3 h1 h2]
        simp only
        rw [(piece_val e1 e2 e3).2.2.1]
        exact e3
      · rw [piece_bad2 e1 e2 e3 h1 h2] at h; exact absurd h h2
  · rw [piece_bad h1] at h; exact absurd h h1
theorem rest_ref : ∀ (k : Nat) (t : List UInt8), restF k (38 :: t) = ((refF k t).1, 1 + (refF k t).2.1, (refF k t).2.2)
  | 0, t => by rw [rest_zero rfl]; rfl
  | k + 1, t => by
    by_cases h : (pairF t).2.2 = 0
    · have hd : (38 :: t).drop (1 + (pairF t).2.1) = t.drop (pairF t).2.1 := by rw [Nat.add_comm, List.drop_succ_cons]
      rw [rest_step rfl (show (pairF ((38 :: t).drop 1)).2.2 = 0 from h)]
      show ((pairF t).1 :: (restF k ((38 :: t).drop (1 + (pairF t).2.1))).1, 1 + (pairF t).2.1 + (restF k ((38 :: t).drop (1 + (pairF t).2.1))).2.1, (restF k ((38 :: t).drop (1 + (pairF t).2.1))).2.2) = _
      rw [hd]
      unfold refF
      rw [if_neg (by rw [h]; simp)]
      rcases pair_end h with e | ⟨u, e⟩
      · rw [e, rest_no (by simp), if_pos (List.drop_eq_nil_iff.1 e)]
        rfl
      · have hlt : ¬ t.length ≤ (pairF t).2.1 := fun hle => by rw [List.drop_eq_nil_iff.2 hle] at e; cases e
        rw [e, rest_ref k u, if_neg hlt, show t.drop ((pairF t).2.1 + 1) = u by rw [← List.drop_drop, e]; rfl]
        simp only [Prod.mk.injEq, true_and, and_true]
        omega
    · rw [rest_bad rfl (show (pairF ((38 :: t).drop 1)).2.2 ≠ 0 from h)]
      unfold refF
      rw [if_pos h]
      rfl
theorem form_ref {l : List UInt8} (h : l ≠ []) : formF l = refF 64 l := by
  unfold formF refF
  rw [if_neg h]
  by_cases h0 : (pairF l).2.2 = 0
  · rw [if_neg (by rw [h0]; simp), if_neg (by rw [h0]; simp)]
    rcases pair_end h0 with e | ⟨u, e⟩
    · rw [e, rest_no (by simp), if_pos (List.drop_eq_nil_iff.1 e)]
      rfl
    · have hlt : ¬ l.length ≤ (pairF l).2.1 := fun hle => by rw [List.drop_eq_nil_iff.2 hle] at e; cases e
      rw [e, rest_ref 63 u, if_neg hlt, show l.drop ((pairF l).2.1 + 1) = u by rw [← List.drop_drop, e]; rfl]
      simp only [Prod.mk.injEq, true_and, and_true]
      omega
  · rw [if_pos h0, if_pos h0]
#print axioms form_ref
end Go.Proofs.YtlbcpbibcfolkaaDoor.Oct
