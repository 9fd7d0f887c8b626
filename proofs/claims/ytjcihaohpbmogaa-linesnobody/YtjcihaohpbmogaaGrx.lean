/-
  Layer 11 (lines), plain: whom a new line is ahead of.
-/
import Derived.Test.YtjcihaohpbmogaaGrw
namespace Go.Proofs.Ytjcihaohpbmogaa.Gr
set_option linter.unusedVariables false
variable {α : Type} [DecidableEq α]

theorem idx_get {ids : List α} (hn : ids.Nodup) {k : Nat} {y : α} (h : ids[k]? = some y) : ids.idxOf y = k := by
  have hm := List.mem_of_getElem? h
  have h1 := List.idxOf_lt_length_of_mem hm
  have h3 : ids[ids.idxOf y]? = some y := by rw [List.getElem?_eq_getElem h1]; simp
  exact (List.getElem?_inj h1 hn).1 (h3.trans h.symm)
theorem get_idx {ids : List α} {y : α} (h : y ∈ ids) : ids[ids.idxOf y]? = some y := by
  have h1 := List.idxOf_lt_length_of_mem h
  rw [List.getElem?_eq_getElem h1]
  simp
/-- the next one of an addition, or its down -/
theorem next_of {ids : List α} {d y w : α} (hn : ids.Nodup) {k : Nat} (h : (ids ++ [d])[k + 1]? = some w) : (w ∈ ids ∧ ids.idxOf w = k + 1) ∨ (w = d ∧ ids.length ≤ k + 1) := by
  rcases Nat.lt_or_ge (k + 1) ids.length with h1 | h1
  · rw [List.getElem?_append_left h1] at h
    exact .inl ⟨List.mem_of_getElem? h, idx_get hn h⟩
  · rw [List.getElem?_append_right h1] at h
    have := List.mem_of_getElem? h
    exact .inr ⟨List.mem_singleton.1 this, h1⟩
/-- what is reached from a new line -/
theorem reach_out {top bot : α} {L : List (Ad α)} {O : List α} (h : Rises O (steps top bot L)) {a : Ad α} (hu : a.up ∈ O) (hd : a.down ∈ O) (hud : Reach (steps top bot L) a.up a.down) (hf : ∀ x ∈ a.ids, x ∉ O) (hn : a.ids.Nodup) {x z : α} (hx : x ∈ a.ids) (k : Reach (steps top bot (L ++ [a])) x z) :
    (z ∈ O ∧ (z = a.down ∨ Reach (steps top bot L) a.down z)) ∨ (z ∈ a.ids ∧ a.ids.idxOf x < a.ids.idxOf z) := by
  have hui : a.up ∉ a.ids := fun hi => hf _ hi hu
  induction k with
  | @one z h1 =>
    rw [steps_add] at h1
    rcases List.mem_append.1 h1 with h1 | h1
    · exact absurd (h _ _ h1).1 (hf _ hx)
    · rcases next_of (y := x) hn (ext_id hui hx h1) with ⟨h2, h3⟩ | ⟨rfl, _⟩
      · exact .inr ⟨h2, by omega⟩
      · exact .inl ⟨hd, .inl rfl⟩
  | @more y z _ h1 ih =>
    rw [steps_add] at h1
    rcases ih with ⟨hy, k1⟩ | ⟨hy, k1⟩
    · rcases List.mem_append.1 h1 with h1 | h1
      · refine .inl ⟨(h _ _ h1).2.1, .inr ?_⟩
        rcases k1 with rfl | k1
        · exact .one h1
        · exact .more k1 h1
      · obtain ⟨e, _⟩ := ext_up (fun hi => hf _ hi hy) h1
        subst e
        exfalso
        rcases k1 with e | k1
        · rw [← e] at hud; exact h.never _ hud
        · exact h.never _ (hud.trans k1)
    · rcases List.mem_append.1 h1 with h1 | h1
      · exact absurd (h _ _ h1).1 (hf _ hy)
      · rcases next_of (y := y) hn (ext_id hui hy h1) with ⟨h2, h3⟩ | ⟨rfl, _⟩
        · exact .inr ⟨h2, by omega⟩
        · exact .inl ⟨hd, .inl rfl⟩
/-- each of an addition leads to those behind it, and to its down -/
theorem reach_later {top bot : α} {L : List (Ad α)} {a : Ad α} (hn : a.ids.Nodup) {y : α} {j : Nat} (hy : a.ids[j]? = some y) : ∀ (n : Nat) (w : α), (a.ids ++ [a.down])[j + n + 1]? = some w → Reach (steps top bot (L ++ [a])) y w
  | 0, w, h => by
    refine .one ?_
    rw [steps_add]
    refine List.mem_append_right _ (id_ext (List.mem_of_getElem? hy) ?_)
    rw [idx_get hn hy]
    exact h
  | n + 1, w, h => by
    have hl := (List.getElem?_eq_some_iff.1 h).1
    rw [List.length_append, List.length_singleton] at hl
    obtain ⟨v, hv⟩ : ∃ v, a.ids[j + n + 1]? = some v := ⟨_, List.getElem?_eq_getElem (by omega)⟩
    refine .more (reach_later hn hy n v (by rw [List.getElem?_append_left (by omega)]; exact hv)) ?_
    rw [steps_add]
    refine List.mem_append_right _ (id_ext (List.mem_of_getElem? hv) ?_)
    rw [idx_get hn hv]
    exact h
theorem reach_down {top bot : α} {L : List (Ad α)} {a : Ad α} (hn : a.ids.Nodup) {y : α} (hy : y ∈ a.ids) : Reach (steps top bot (L ++ [a])) y a.down := by
  have h1 := List.idxOf_lt_length_of_mem hy
  refine reach_later hn (get_idx hy) (a.ids.length - a.ids.idxOf y - 1) _ ?_
  rw [show a.ids.idxOf y + (a.ids.length - a.ids.idxOf y - 1) + 1 = a.ids.length by omega, List.getElem?_append_right (Nat.le_refl _), Nat.sub_self]
  rfl
/-- whom a new line is ahead of, of the others -/
theorem new_reach {top bot : α} {L : List (Ad α)} {O : List α} (h : Rises O (steps top bot L)) {a : Ad α} (hu : a.up ∈ O) (hd : a.down ∈ O) (hud : Reach (steps top bot L) a.up a.down) (hf : ∀ x ∈ a.ids, x ∉ O) (hn : a.ids.Nodup) {x z : α} (hx : x ∈ a.ids) (hz : z ∈ O) :
    Reach (steps top bot (L ++ [a])) x z ↔ z = a.down ∨ Reach (steps top bot L) a.down z := by
  constructor
  · intro k
    rcases reach_out h hu hd hud hf hn hx k with ⟨_, k⟩ | ⟨hi, _⟩
    · exact k
    · exact absurd hz (hf _ hi)
  · intro k
    have h1 := reach_down (top := top) (bot := bot) (L := L) hn hx
    rcases k with rfl | k
    · exact h1
    · exact h1.trans (Reach.sub (sub_add top bot L a) k)
/-- and of the new ones -/
theorem new_new {top bot : α} {L : List (Ad α)} {O : List α} (h : Rises O (steps top bot L)) {a : Ad α} (hu : a.up ∈ O) (hd : a.down ∈ O) (hud : Reach (steps top bot L) a.up a.down) (hf : ∀ x ∈ a.ids, x ∉ O) (hn : a.ids.Nodup) {x z : α} (hx : x ∈ a.ids) (hz : z ∈ a.ids) :
    Reach (steps top bot (L ++ [a])) x z ↔ a.ids.idxOf x < a.ids.idxOf z := by
  constructor
  · intro k
    rcases reach_out h hu hd hud hf hn hx k with ⟨ho, _⟩ | ⟨_, k⟩
    · exact absurd ho (hf _ hz)
    · exact k
  · intro k
    have hl := List.idxOf_lt_length_of_mem hz
    refine reach_later hn (get_idx hx) (a.ids.idxOf z - a.ids.idxOf x - 1) z ?_
    rw [show a.ids.idxOf x + (a.ids.idxOf z - a.ids.idxOf x - 1) + 1 = a.ids.idxOf z by omega, List.getElem?_append_left hl]
    exact get_idx hz
#print axioms new_new
end Go.Proofs.Ytjcihaohpbmogaa.Gr
