/-
  Layer 11 (lines), plain: what was just added and is dropped leaves what was.
-/
import Derived.Test.YtjcihaohpbmogaaLft
namespace Go.Proofs.Ytjcihaohpbmogaa.Gr
set_option linter.unusedVariables false
variable {α : Type} [DecidableEq α]

theorem Made.ids {top bot : α} {L : List (Ad α)} {O : List α} (h : Made top bot L O) : ∀ c ∈ L, (∀ x ∈ c.ids, x ∈ O) ∧ c.up ∈ O ∧ c.down ∈ O := by
  induction h with
  | none hne => intro c hc; cases hc
  | @add L O l r a hm hud hf hn e hr ih =>
    have hin : ∀ x, x ∈ O ∨ x ∈ a.ids → x ∈ l ++ a.up :: (a.ids ++ r) := fun x hx => by
      rw [e] at hx
      simp only [List.mem_append, List.mem_cons] at hx ⊢
      rcases hx with (h | h | h) | h
      · exact .inl h
      · exact .inr (.inl h)
      · exact .inr (.inr (.inr h))
      · exact .inr (.inr (.inl h))
    obtain ⟨hu, hd⟩ := hm.rises.ins hud
    intro c hc
    rcases List.mem_append.1 hc with hc | hc
    · obtain ⟨h1, h2, h3⟩ := ih c hc
      exact ⟨fun x hx => hin x (.inl (h1 x hx)), hin _ (.inl h2), hin _ (.inl h3)⟩
    · rw [List.mem_singleton.1 hc]
      exact ⟨fun x hx => hin x (.inr hx), hin _ (.inl hu), hin _ (.inl hd)⟩
theorem left_undo {top bot : α} {L : List (Ad α)} {O : List α} (h : Made top bot L O) (a : Ad α) (hf : ∀ x ∈ a.ids, x ∉ O) (hne : a.ids ≠ []) : left (fun x => decide (x ∉ a.ids)) (L ++ [a]) = L := by
  rw [left_add]
  have h1 : ¬ (a.ids.all fun x => decide (x ∉ a.ids)) = true := fun hall => by
    cases hi : a.ids with
    | nil => exact hne hi
    | cons y t =>
      have hy : y ∈ a.ids := by rw [hi]; simp
      have := List.all_eq_true.1 hall y hy
      simp [hy] at this
  rw [if_neg h1, List.append_nil]
  unfold left
  refine List.filter_eq_self.2 fun c hc => List.all_eq_true.2 fun x hx => ?_
  exact decide_eq_true fun hi => hf x hi ((h.ids c hc).1 x hx)
#print axioms left_undo
end Go.Proofs.Ytjcihaohpbmogaa.Gr
