/-
  Layer 22 (fields): escapeUpTo.
-/
import Derived.Test.YtlbcpbibcfolkaaDoorEsc
namespace Go.Proofs.YtlbcpbibcfolkaaDoor.Oct
open Go.RowKit
set_option linter.unusedSimpArgs false
set_option linter.unusedVariables false

/-- what is read up to some bytes: the text, how many bytes it takes, and what is wrong (0: nothing; then the second one is the place) -/
def upT (st : List UInt8) : Nat → List UInt8 → List UInt8 × Nat × Int
  | 0, _ => ([], 0, 0)
  | _ + 1, [] => ([], 0, 0)
  | k + 1, c :: t => if st.contains c then ([], 0, 0) else
    match oneE (c :: t) with
    | .inl er => ([], 0, er)
    | .inr (b, n) => (b :: (upT st k ((c :: t).drop n)).1, n + (upT st k ((c :: t).drop n)).2.1, (upT st k ((c :: t).drop n)).2.2)
theorem one_er {l : List UInt8} {er : Int} (h : oneE l = .inl er) (hl : l ≠ []) : er ≠ 0 := by
  unfold oneE at h
  split at h
  · exact absurd rfl hl
  · split at h
    · split at h
      · split at h
        · cases h
        · injection h with h; omega
      · injection h with h; omega
    · split at h
      · cases h
      · split at h
        · cases h
        · injection h with h; omega
/-- more fuel than bytes changes nothing -/
theorem one_len {l : List UInt8} {b : UInt8} {n : Nat} (h : oneE l = .inr (b, n)) : 1 ≤ n ∧ n ≤ l.length := by
  unfold oneE at h
  split at h
  · cases h
  · rename_i c t
    split at h
    · split at h
      · split at h
        · injection h with h; injection h with h1 h2; subst h2; simp
        · cases h
      · cases h
    · split at h
      · injection h with h; injection h with h1 h2; subst h2; simp
      · split at h
        · injection h with h; injection h with h1 h2; subst h2; simp
        · cases h
theorem upT_fuel (st : List UInt8) : ∀ (k m : Nat) (l : List UInt8), l.length ≤ k → l.length ≤ m → upT st k l = upT st m l
  | 0, 0, l, _, _ => rfl
  | 0, m + 1, l, hk, _ => by
    have : l = [] := List.length_eq_zero_iff.1 (by omega)
    subst this
    rfl
  | k + 1, 0, l, _, hm => by
    have : l = [] := List.length_eq_zero_iff.1 (by omega)
    subst this
    rfl
  | k + 1, m + 1, [], _, _ => rfl
  | k + 1, m + 1, c :: t, hk, hm => by
    unfold upT
    split
    · rfl
    · split
      · rfl
      · rename_i b n ho
        have hn := one_len ho
        simp only [List.length_cons] at hk hm hn
        have ih := upT_fuel st k m ((c :: t).drop n) (by rw [List.length_drop, List.length_cons]; omega) (by rw [List.length_drop, List.length_cons]; omega)
        rw [ih]
def upTo (st l : List UInt8) : List UInt8 × Nat × Int := upT st l.length l
theorem upTo_nil (st : List UInt8) : upTo st [] = ([], 0, 0) := rfl
theorem upTo_stop {st : List UInt8} {c : UInt8} {t : List UInt8} (h : st.contains c = true) : upTo st (c :: t) = ([], 0, 0) := by
  unfold upTo upT
  simp only [List.length_cons, h, if_true]
theorem upTo_bad {st : List UInt8} {c : UInt8} {t : List UInt8} (h : st.contains c = false) {er : Int} (ho : oneE (c :: t) = .inl er) : upTo st (c :: t) = ([], 0, er) := by
  unfold upTo
  rw [List.length_cons]
  unfold upT
  rw [if_neg (by rw [h]; simp), ho]
theorem upTo_step {st : List UInt8} {c : UInt8} {t : List UInt8} (h : st.contains c = false) {b : UInt8} {n : Nat} (ho : oneE (c :: t) = .inr (b, n)) : upTo st (c :: t) = (b :: (upTo st ((c :: t).drop n)).1, n + (upTo st ((c :: t).drop n)).2.1, (upTo st ((c :: t).drop n)).2.2) := by
  unfold upTo
  rw [List.length_cons, upT, if_neg (by rw [h]; simp), ho]
  have hn := one_len ho
  rw [List.length_cons] at hn
  dsimp only
  rw [upT_fuel st t.length ((c :: t).drop n).length ((c :: t).drop n) (by rw [List.length_drop, List.length_cons]; omega) (Nat.le_refl _)]
theorem upTo_le (st : List UInt8) : ∀ (m : Nat) (l : List UInt8), l.length ≤ m → (upTo st l).2.1 ≤ l.length ∧ (upTo st l).1.length ≤ (upTo st l).2.1
  | _, [], _ => by rw [upTo_nil]; simp
  | 0, c :: t, h => by simp at h
  | m + 1, c :: t, h => by
    cases hs : st.contains c with
    | true => rw [upTo_stop hs]; simp
    | false =>
      cases ho : oneE (c :: t) with
      | inl er => rw [upTo_bad hs ho]; simp
      | inr bn =>
        obtain ⟨b, n⟩ := bn
        rw [upTo_step hs ho]
        have hn := one_len ho
        simp only [List.length_cons] at h hn
        have ih := upTo_le st m ((c :: t).drop n) (by rw [List.length_drop, List.length_cons]; omega)
        rw [List.length_drop, List.length_cons] at ih
        simp only [List.length_cons]
        omega
end Go.Proofs.YtlbcpbibcfolkaaDoor.Oct
