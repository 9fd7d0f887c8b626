/-
  Layer 11 (lines), plain: which lines may be shown next: all that lead to them were told, which is that none ahead of them was not told; there is one.
-/
import Derived.Test.YtjcihaohpbmogaaLft
namespace Go.Proofs.Ytjcihaohpbmogaa.Gr
set_option linter.unusedVariables false

/-- told lines have with them all lines that lead to them -/
def Closed {α : Type} (step : α → List α) (all told : List α) : Prop := ∀ x ∈ told, ∀ u ∈ all, x ∈ step u → u ∈ told
/-- from a line one comes to lines, or to what leads nowhere -/
def Stays {α : Type} (step : α → List α) (all : List α) : Prop := ∀ k ∈ all, ∀ u, Reach step k u → u ∈ all ∨ step u = []
theorem told_back {α : Type} {step : α → List α} {all told : List α} (hc : Closed step all told) (hs : Stays step all) {k u : α} (hk : k ∈ all) (h : Reach step k u) (hu : u ∈ told) : k ∈ told := by
  induction h with
  | one h1 => exact hc _ hu k hk h1
  | @more v u h0 h1 ih =>
    rcases hs k hk v h0 with hv | hv
    · exact ih (hc _ hu v hv h1)
    · rw [hv] at h1; cases h1
theorem free_iff {α : Type} {step : α → List α} {all told : List α} (hc : Closed step all told) (hs : Stays step all) (n : α) :
    (∀ u ∈ all, n ∈ step u → u ∈ told) ↔ ∀ k ∈ all, k ∉ told → ¬ Reach step k n := by
  constructor
  · intro h k hk hkt hr
    cases hr with
    | one h1 => exact hkt (h k hk h1)
    | @more u _ h0 h1 =>
      rcases hs k hk u h0 with hu | hu
      · exact hkt (told_back hc hs hk h0 (h u hu h1))
      · rw [hu] at h1; cases h1
  · intro h u hu h1
    exact Classical.byContradiction fun hut => h u hu hut (.one h1)
/-- one more is told: still closed -/
theorem Closed.add {α : Type} {step : α → List α} {all told : List α} (h : Closed step all told) {n : α} (hn : ∀ u ∈ all, n ∈ step u → u ∈ told) : Closed step all (told ++ [n]) := by
  intro x hx u hu h1
  refine List.mem_append_left _ ?_
  rcases List.mem_append.1 hx with hx | hx
  · exact h x hx u hu h1
  · rw [List.mem_singleton.1 hx] at h1
    exact hn u hu h1
theorem Closed.nil {α : Type} (step : α → List α) (all : List α) : Closed step all [] := fun x hx => by cases hx
/-- if a line is left, one may be told -/
theorem ready_one {α : Type} {step : α → List α} {all told : List α} (f : α → Nat) (hf : ∀ a b, b ∈ step a → f a < f b) : ∀ (m : Nat) (n : α), f n ≤ m → n ∈ all → n ∉ told → ∃ x ∈ all, x ∉ told ∧ ∀ u ∈ all, x ∈ step u → u ∈ told
  | m, n, hm, hn, ht => by
    by_cases h : ∀ u ∈ all, n ∈ step u → u ∈ told
    · exact ⟨n, hn, ht, h⟩
    · obtain ⟨u, h1⟩ := Classical.not_forall.1 h
      have h2 := Classical.not_imp.1 h1
      have h3 := Classical.not_imp.1 h2.2
      have hlt := hf u n h3.1
      match m, hm with
      | 0, hm => omega
      | m + 1, hm => exact ready_one f hf m u (by omega) h2.1 h3.2
#print axioms ready_one
end Go.Proofs.Ytjcihaohpbmogaa.Gr
