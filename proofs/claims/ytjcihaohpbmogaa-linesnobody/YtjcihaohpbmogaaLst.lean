/-
  Layer 11 (lines), plain: the least of a list is the first of what rises and holds the same.
-/
import Derived.Test.YtjcihaohpbmogaaChn
namespace Go.Proofs.Ytjcihaohpbmogaa.Gr
set_option linter.unusedVariables false

/-- the least so far, gone on with -/
def minOf {α : Type} (lt : α → α → Bool) : α → List α → α
  | m, [] => m
  | m, x :: l => minOf lt (if lt x m = true then x else m) l
theorem minOf_mem {α : Type} (lt : α → α → Bool) : ∀ (l : List α) (m : α), minOf lt m l ∈ m :: l
  | [], m => by simp [minOf]
  | x :: l, m => by
    unfold minOf
    rcases List.mem_cons.1 (minOf_mem lt l (if lt x m = true then x else m)) with h | h
    · rw [h]
      split <;> simp
    · simp [h]
theorem minOf_least {α : Type} (lt : α → α → Bool) (ht : ∀ a b c, lt a b = true → lt b c = true → lt a c = true) (hi : ∀ a, lt a a = false) : ∀ (l : List α) (m : α) (s : List α), (∀ y ∈ s, lt y m = false) → ∀ y, y ∈ s ∨ y = m ∨ y ∈ l → lt y (minOf lt m l) = false
  | [], m, s, hs, y, hy => by
    rcases hy with h | rfl | h
    · exact hs y h
    · exact hi y
    · cases h
  | x :: l, m, s, hs, y, hy => by
    unfold minOf
    have key : ∀ z ∈ m :: x :: s, lt z (if lt x m = true then x else m) = false := by
      intro z hz
      cases h : lt x m with
      | true =>
        rw [if_pos rfl]
        rcases List.mem_cons.1 hz with rfl | hz
        · cases h2 : lt z x with
          | false => rfl
          | true => have := ht _ _ _ h h2; rw [hi] at this; cases this
        · rcases List.mem_cons.1 hz with rfl | hz
          · exact hi z
          · cases h2 : lt z x with
            | false => rfl
            | true => have := ht _ _ _ h2 h; rw [hs z hz] at this; cases this
      | false =>
        rw [if_neg (by decide)]
        rcases List.mem_cons.1 hz with rfl | hz
        · exact hi z
        · rcases List.mem_cons.1 hz with rfl | hz
          · exact h
          · exact hs z hz
    refine minOf_least lt ht hi l _ (m :: x :: s) key y ?_
    rcases hy with h | rfl | h
    · exact .inl (by simp [h])
    · exact .inl (by simp)
    · rcases List.mem_cons.1 h with rfl | h
      · exact .inl (by simp)
      · exact .inr (.inr h)
/-- the first of what rises is the least of any list with the same in it -/
theorem least_first {α : Type} (lt : α → α → Bool) (ht : ∀ a b c, lt a b = true → lt b c = true → lt a c = true) (hi : ∀ a, lt a a = false) {S near : List α} {h m : α} (hS : (h :: S).Pairwise fun a b => lt a b = true) (hm : ∀ x, x ∈ h :: S ↔ x ∈ m :: near) : minOf lt m near = h := by
  have h1 := (hm _).2 (minOf_mem lt near m)
  rcases List.mem_cons.1 h1 with e | e
  · exact e
  · rw [List.pairwise_cons] at hS
    have h2 := hS.1 _ e
    have h3 : h ∈ m :: near := (hm h).1 (by simp)
    have h4 := minOf_least lt ht hi near m [] (by simp) h (.inr (List.mem_cons.1 h3))
    rw [h2] at h4
    cases h4
#print axioms least_first
end Go.Proofs.Ytjcihaohpbmogaa.Gr
