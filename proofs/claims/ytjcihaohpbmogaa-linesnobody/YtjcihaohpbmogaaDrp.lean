/-
  Layer 11 (lines), plain: graphs that additions made, and what is left when some are dropped.
-/
import Derived.Test.YtjcihaohpbmogaaGrx
namespace Go.Proofs.Ytjcihaohpbmogaa.Gr
set_option linter.unusedVariables false
variable {α : Type} [DecidableEq α]

theorem idx_filter (p : α → Bool) {x y : α} (hx : p x = true) (hy : p y = true) : ∀ (O : List α), O.idxOf x < O.idxOf y → (O.filter p).idxOf x < (O.filter p).idxOf y
  | [], h => by simp at h
  | z :: O, h => by
    rw [List.idxOf_cons, List.idxOf_cons] at h
    by_cases e1 : z = x
    · subst e1
      rw [List.filter_cons_of_pos hx, List.idxOf_cons_self, List.idxOf_cons]
      cases e2 : z == y with
      | true => rw [e2] at h; simp at h
      | false => simp
    · have e1' : (z == x) = false := by simpa using e1
      rw [e1'] at h
      cases e2 : z == y with
      | true => rw [e2] at h; simp at h
      | false =>
        rw [e2] at h
        have ih := idx_filter p hx hy O (by simpa using h)
        cases hz : p z with
        | true =>
          rw [List.filter_cons_of_pos hz, List.idxOf_cons, List.idxOf_cons, e1', e2]
          simpa using ih
        | false =>
          rw [List.filter_cons_of_neg (by rw [hz]; decide)]
          exact ih
/-- fewer steps, of fewer vertices, rise in what is left of the order -/
theorem Rises.drop {O : List α} {s t : α → List α} (h : Rises O s) (p : α → Bool) (hst : ∀ a b, b ∈ t a → b ∈ s a ∧ p a = true ∧ p b = true) : Rises (O.filter p) t := fun a b k => by
  obtain ⟨h1, h2, h3⟩ := hst a b k
  obtain ⟨m1, m2, m3⟩ := h a b h1
  exact ⟨List.mem_filter.2 ⟨m1, h2⟩, List.mem_filter.2 ⟨m2, h3⟩, idx_filter p h2 h3 O m3⟩
/-- a graph that additions made, and an order of its vertices -/
inductive Made (top bot : α) : List (Ad α) → List α → Prop
  | none : top ≠ bot → Made top bot [] [top, bot]
  | add {L : List (Ad α)} {O l r : List α} {a : Ad α} : Made top bot L O → Reach (steps top bot L) a.up a.down → (∀ x ∈ a.ids, x ∉ O) → a.ids.Nodup → O = l ++ a.up :: r → Rises (l ++ a.up :: (a.ids ++ r)) (steps top bot (L ++ [a])) → Made top bot (L ++ [a]) (l ++ a.up :: (a.ids ++ r))
theorem Made.rises {top bot : α} {L : List (Ad α)} {O : List α} (h : Made top bot L O) : Rises O (steps top bot L) := by
  cases h with
  | none hne =>
    intro a b k
    unfold steps at k
    simp only [List.flatMap_nil, List.append_nil] at k
    split at k
    · rename_i e
      rw [List.mem_singleton.1 k, e]
      refine ⟨by simp, by simp, ?_⟩
      rw [List.idxOf_cons_self, List.idxOf_cons]
      have : (top == bot) = false := by simpa using hne
      rw [this]
      simp
    · cases k
  | add _ _ _ _ _ hr => exact hr
theorem Made.next {top bot : α} {L : List (Ad α)} {O : List α} (h : Made top bot L O) (a : Ad α) (hud : Reach (steps top bot L) a.up a.down) (hf : ∀ x ∈ a.ids, x ∉ O) (hn : a.ids.Nodup) : ∃ O', Made top bot (L ++ [a]) O' ∧ ∀ x, x ∈ O' ↔ x ∈ O ∨ x ∈ a.ids := by
  have hr := h.rises
  obtain ⟨hu, hd⟩ := hr.ins hud
  obtain ⟨l, r, e, h2⟩ := hr.add a hu hd (hr.lt hud) hf hn
  refine ⟨_, .add h hud hf hn e h2, fun x => ?_⟩
  rw [e]
  simp only [List.mem_append, List.mem_cons]
  constructor
  · rintro (h | h | h | h)
    · exact .inl (.inl h)
    · exact .inl (.inr (.inl h))
    · exact .inr h
    · exact .inl (.inr (.inr h))
  · rintro ((h | h | h) | h)
    · exact .inl h
    · exact .inr (.inl h)
    · exact .inr (.inr (.inr h))
    · exact .inr (.inr (.inl h))
/-- what is left of the additions -/
def left (p : α → Bool) (L : List (Ad α)) : List (Ad α) := L.filter fun a => a.ids.all p
/-- additions go whole, and none that stays is next to one that goes -/
def Whole (p : α → Bool) (L : List (Ad α)) : Prop := ∀ a ∈ L, (a.ids.all p = true ∧ p a.up = true ∧ p a.down = true) ∨ (a.ids ≠ [] ∧ ∀ x ∈ a.ids, p x = false)
#print axioms Made.next
end Go.Proofs.Ytjcihaohpbmogaa.Gr
