/-
  Layer 11 (lines), plain: an addition never changes which of the others is ahead of which.
  Layer 11 (lines), plain: whom a new line is ahead of.
  Layer 11 (lines), plain: graphs that additions made, and what is left when some are dropped.
  Layer 11 (lines), plain: what is left by a drop is ahead of what it was ahead of.
  Layer 11 (lines), plain: what was just added and is dropped leaves what was.
  Layer 11 (lines), plain: the search from a line back to those that lead to it.
  Layer 11 (lines), plain: which lines may be shown next: all that lead to them were told, which is that none ahead of them was not told; there is one.
  Layer 11 (lines), plain: two lists that rise and hold the same are the same; two additions in either order.
  Layer 11 (lines), plain: the least of a list is the first of what rises and holds the same.
  Layer 11 (lines), plain: the order in which lines are told: again and again the first one of those that may be told with a step from the last one, else the first one of them.
-/
import Derived.Test.YtjcihaohpbmogaaQpAD
/- Layer 11 (lines), plain: an addition never changes which of the others is ahead of which. -/
namespace Go.Proofs.Ytjcihaohpbmogaa.Gr
set_option linter.unusedVariables false
variable {α : Type} [DecidableEq α]

theorem Reach.sub {β : Type} {s t : β → List β} (h : ∀ a b, b ∈ s a → b ∈ t a) {a b : β} (k : Reach s a b) : Reach t a b := by
  induction k with
  | one h1 => exact .one (h _ _ h1)
  | more _ h1 ih => exact .more ih (h _ _ h1)
/-- the steps of an addition: from its up to its first, from each to the next, from its last to its down -/
theorem ext_up {a : Ad α} {v b : α} (hv : v ∉ a.ids) (h : b ∈ ext a v) : a.up = v ∧ a.ids[0]? = some b := by
  unfold ext at h
  rw [if_neg hv, List.append_nil] at h
  split at h
  · rename_i e
    obtain ⟨k, hk⟩ := List.getElem?_of_mem h
    rw [List.getElem?_take] at hk
    split at hk
    · have : k = 0 := by omega
      subst this
      exact ⟨e, hk⟩
    · cases hk
  · cases h
theorem ext_id {a : Ad α} {v b : α} (hu : a.up ∉ a.ids) (hv : v ∈ a.ids) (h : b ∈ ext a v) : (a.ids ++ [a.down])[a.ids.idxOf v + 1]? = some b := by
  unfold ext at h
  rw [if_pos hv, if_neg (fun e => hu (by rw [e]; exact hv)), List.nil_append] at h
  obtain ⟨k, hk⟩ := List.getElem?_of_mem h
  rw [List.getElem?_take] at hk
  split at hk
  · have : k = 0 := by omega
    subst this
    rw [List.getElem?_drop, Nat.add_zero] at hk
    exact hk
  · cases hk
theorem up_ext {a : Ad α} {b : α} (h : a.ids[0]? = some b) : b ∈ ext a a.up := by
  unfold ext
  rw [if_pos rfl]
  refine List.mem_append_left _ ?_
  refine List.mem_of_getElem? (i := 0) ?_
  rw [List.getElem?_take, if_pos (by omega)]
  exact h
theorem id_ext {a : Ad α} {v b : α} (hv : v ∈ a.ids) (h : (a.ids ++ [a.down])[a.ids.idxOf v + 1]? = some b) : b ∈ ext a v := by
  unfold ext
  rw [if_pos hv]
  refine List.mem_append_right _ ?_
  refine List.mem_of_getElem? (i := 0) ?_
  rw [List.getElem?_take, if_pos (by omega), List.getElem?_drop, Nat.add_zero]
  exact h
/-- what is reached from one of the others when an addition is there -/
theorem reach_from {top bot : α} {L : List (Ad α)} {O : List α} (h : Rises O (steps top bot L)) {a : Ad α} (hu : a.up ∈ O) (hd : a.down ∈ O) (hud : Reach (steps top bot L) a.up a.down) (hf : ∀ x ∈ a.ids, x ∉ O) {x z : α} (hx : x ∈ O) (k : Reach (steps top bot (L ++ [a])) x z) :
    (z ∈ O ∧ Reach (steps top bot L) x z) ∨ (z ∈ a.ids ∧ (x = a.up ∨ Reach (steps top bot L) x a.up)) := by
  have hui : a.up ∉ a.ids := fun hi => hf _ hi hu
  induction k with
  | one h1 =>
    rw [steps_add] at h1
    rcases List.mem_append.1 h1 with h1 | h1
    · exact .inl ⟨(h _ _ h1).2.1, .one h1⟩
    · obtain ⟨e, h2⟩ := ext_up (fun hi => hf _ hi hx) h1
      exact .inr ⟨List.mem_of_getElem? h2, .inl e.symm⟩
  | @more y z _ h1 ih =>
    rw [steps_add] at h1
    rcases ih with ⟨hy, k1⟩ | ⟨hy, k1⟩
    · rcases List.mem_append.1 h1 with h1 | h1
      · exact .inl ⟨(h _ _ h1).2.1, .more k1 h1⟩
      · obtain ⟨e, h2⟩ := ext_up (fun hi => hf _ hi hy) h1
        exact .inr ⟨List.mem_of_getElem? h2, .inr (by rw [e]; exact k1)⟩
    · rcases List.mem_append.1 h1 with h1 | h1
      · exact absurd (h _ _ h1).1 (hf _ hy)
      · have h2 := ext_id hui hy h1
        rcases List.mem_append.1 (List.mem_of_getElem? h2) with h3 | h3
        · exact .inr ⟨h3, k1⟩
        · rw [List.mem_singleton.1 h3]
          refine .inl ⟨hd, ?_⟩
          rcases k1 with rfl | k1
          · exact hud
          · exact k1.trans hud
theorem sub_add (top bot : α) (L : List (Ad α)) (a : Ad α) : ∀ x y, y ∈ steps top bot L x → y ∈ steps top bot (L ++ [a]) x := fun x y h => by
  rw [steps_add]
  exact List.mem_append_left _ h
/-- of the others nothing changes -/
theorem reach_add {top bot : α} {L : List (Ad α)} {O : List α} (h : Rises O (steps top bot L)) {a : Ad α} (hu : a.up ∈ O) (hd : a.down ∈ O) (hud : Reach (steps top bot L) a.up a.down) (hf : ∀ x ∈ a.ids, x ∉ O) {x z : α} (hx : x ∈ O) (hz : z ∈ O) :
    Reach (steps top bot (L ++ [a])) x z ↔ Reach (steps top bot L) x z := by
  constructor
  · intro k
    rcases reach_from h hu hd hud hf hx k with ⟨_, k⟩ | ⟨hi, _⟩
    · exact k
    · exact absurd hz (hf _ hi)
  · exact Reach.sub (sub_add top bot L a)
/-- the first of an addition is reached from its up, each from those ahead of it -/
theorem reach_ids {top bot : α} {L : List (Ad α)} {a : Ad α} (hn : a.ids.Nodup) : ∀ (k : Nat) (z : α), a.ids[k]? = some z → Reach (steps top bot (L ++ [a])) a.up z
  | 0, z, h => .one (by rw [steps_add]; exact List.mem_append_right _ (up_ext h))
  | k + 1, z, h => by
    have hk := (List.getElem?_eq_some_iff.1 h).1
    obtain ⟨y, hy⟩ : ∃ y, a.ids[k]? = some y := ⟨_, List.getElem?_eq_getElem (by omega)⟩
    have hm := List.mem_of_getElem? hy
    have e : a.ids.idxOf y = k := by
      have h1 := List.idxOf_lt_length_of_mem hm
      have h3 : a.ids[a.ids.idxOf y]? = some y := by rw [List.getElem?_eq_getElem h1]; simp
      exact (List.getElem?_inj h1 hn).1 (h3.trans hy.symm)
    refine .more (reach_ids hn k y hy) ?_
    rw [steps_add]
    refine List.mem_append_right _ (id_ext hm ?_)
    rw [e, List.getElem?_append_left hk]
    exact h
/-- one of the others is ahead of a new one just if it is its addition's up, or ahead of that -/
theorem reach_new {top bot : α} {L : List (Ad α)} {O : List α} (h : Rises O (steps top bot L)) {a : Ad α} (hu : a.up ∈ O) (hd : a.down ∈ O) (hud : Reach (steps top bot L) a.up a.down) (hf : ∀ x ∈ a.ids, x ∉ O) (hn : a.ids.Nodup) {x z : α} (hx : x ∈ O) (hz : z ∈ a.ids) :
    Reach (steps top bot (L ++ [a])) x z ↔ x = a.up ∨ Reach (steps top bot L) x a.up := by
  constructor
  · intro k
    rcases reach_from h hu hd hud hf hx k with ⟨ho, _⟩ | ⟨_, k⟩
    · exact absurd ho (hf _ hz)
    · exact k
  · intro k
    obtain ⟨i, hi⟩ := List.getElem?_of_mem hz
    have h1 := reach_ids (top := top) (bot := bot) (L := L) hn i z hi
    rcases k with rfl | k
    · exact h1
    · exact (Reach.sub (sub_add top bot L a) k).trans h1
end Go.Proofs.Ytjcihaohpbmogaa.Gr

/- Layer 11 (lines), plain: whom a new line is ahead of. -/
namespace Go.Proofs.Ytjcihaohpbmogaa.Gr
set_option linter.unusedVariables false
variable {α : Type} [DecidableEq α]

theorem idx_get {ids : List α} (hn : ids.Nodup) {k : Nat} {y : α} (h : ids[k]? = some y) : ids.idxOf y = k := by
  have hm := List.mem_of_getElem? h
  have h1 := List.idxOf_lt_length_of_mem hm
  have h3 : ids[ids.idxOf y]? = some y := by rw [List.getElem?_eq_getElem h1]; simp
  exact (List.getElem?_inj h1 hn).1 (h3.trans h.symm)
theorem get_idx {ids : List α} {y : α} (h : y ∈ ids) : ids[ids.idxOf y]? = some y := by
  have h1 := List.idxOf_lt_length_of_mem h
  rw [List.getElem?_eq_getElem h1]
  simp
/-- the next one of an addition, or its down -/
theorem next_of {ids : List α} {d y w : α} (hn : ids.Nodup) {k : Nat} (h : (ids ++ [d])[k + 1]? = some w) : (w ∈ ids ∧ ids.idxOf w = k + 1) ∨ (w = d ∧ ids.length ≤ k + 1) := by
  rcases Nat.lt_or_ge (k + 1) ids.length with h1 | h1
  · rw [List.getElem?_append_left h1] at h
    exact .inl ⟨List.mem_of_getElem? h, idx_get hn h⟩
  · rw [List.getElem?_append_right h1] at h
    have := List.mem_of_getElem? h
    exact .inr ⟨List.mem_singleton.1 this, h1⟩
/-- what is reached from a new line -/
theorem reach_out {top bot : α} {L : List (Ad α)} {O : List α} (h : Rises O (steps top bot L)) {a : Ad α} (hu : a.up ∈ O) (hd : a.down ∈ O) (hud : Reach (steps top bot L) a.up a.down) (hf : ∀ x ∈ a.ids, x ∉ O) (hn : a.ids.Nodup) {x z : α} (hx : x ∈ a.ids) (k : Reach (steps top bot (L ++ [a])) x z) :
    (z ∈ O ∧ (z = a.down ∨ Reach (steps top bot L) a.down z)) ∨ (z ∈ a.ids ∧ a.ids.idxOf x < a.ids.idxOf z) := by
  have hui : a.up ∉ a.ids := fun hi => hf _ hi hu
  induction k with
  | @one z h1 =>
    rw [steps_add] at h1
    rcases List.mem_append.1 h1 with h1 | h1
    · exact absurd (h _ _ h1).1 (hf _ hx)
    · rcases next_of (y := x) hn (ext_id hui hx h1) with ⟨h2, h3⟩ | ⟨rfl, _⟩
      · exact .inr ⟨h2, by omega⟩
      · exact .inl ⟨hd, .inl rfl⟩
  | @more y z _ h1 ih =>
    rw [steps_add] at h1
    rcases ih with ⟨hy, k1⟩ | ⟨hy, k1⟩
    · rcases List.mem_append.1 h1 with h1 | h1
      · refine .inl ⟨(h _ _ h1).2.1, .inr ?_⟩
        rcases k1 with rfl | k1
        · exact .one h1
        · exact .more k1 h1
      · obtain ⟨e, _⟩ := ext_up (fun hi => hf _ hi hy) h1
        subst e
        exfalso
        rcases k1 with e | k1
        · rw [← e] at hud; exact h.never _ hud
        · exact h.never _ (hud.trans k1)
    · rcases List.mem_append.1 h1 with h1 | h1
      · exact absurd (h _ _ h1).1 (hf _ hy)
      · rcases next_of (y := y) hn (ext_id hui hy h1) with ⟨h2, h3⟩ | ⟨rfl, _⟩
        · exact .inr ⟨h2, by omega⟩
        · exact .inl ⟨hd, .inl rfl⟩
/-- each of an addition leads to those behind it, and to its down -/
theorem reach_later {top bot : α} {L : List (Ad α)} {a : Ad α} (hn : a.ids.Nodup) {y : α} {j : Nat} (hy : a.ids[j]? = some y) : ∀ (n : Nat) (w : α), (a.ids ++ [a.down])[j + n + 1]? = some w → Reach (steps top bot (L ++ [a])) y w
  | 0, w, h => by
    refine .one ?_
    rw [steps_add]
    refine List.mem_append_right _ (id_ext (List.mem_of_getElem? hy) ?_)
    rw [idx_get hn hy]
    exact h
  | n + 1, w, h => by
    have hl := (List.getElem?_eq_some_iff.1 h).1
    rw [List.length_append, List.length_singleton] at hl
    obtain ⟨v, hv⟩ : ∃ v, a.ids[j + n + 1]? = some v := ⟨_, List.getElem?_eq_getElem (by omega)⟩
    refine .more (reach_later hn hy n v (by rw [List.getElem?_append_left (by omega)]; exact hv)) ?_
    rw [steps_add]
    refine List.mem_append_right _ (id_ext (List.mem_of_getElem? hv) ?_)
    rw [idx_get hn hv]
    exact h
theorem reach_down {top bot : α} {L : List (Ad α)} {a : Ad α} (hn : a.ids.Nodup) {y : α} (hy : y ∈ a.ids) : Reach (steps top bot (L ++ [a])) y a.down := by
  have h1 := List.idxOf_lt_length_of_mem hy
  refine reach_later hn (get_idx hy) (a.ids.length - a.ids.idxOf y - 1) _ ?_
  rw [show a.ids.idxOf y + (a.ids.length - a.ids.idxOf y - 1) + 1 = a.ids.length by omega, List.getElem?_append_right (Nat.le_refl _), Nat.sub_self]
  rfl
/-- whom a new line is ahead of, of the others -/
theorem new_reach {top bot : α} {L : List (Ad α)} {O : List α} (h : Rises O (steps top bot L)) {a : Ad α} (hu : a.up ∈ O) (hd : a.down ∈ O) (hud : Reach (steps top bot L) a.up a.down) (hf : ∀ x ∈ a.ids, x ∉ O) (hn : a.ids.Nodup) {x z : α} (hx : x ∈ a.ids) (hz : z ∈ O) :
    Reach (steps top bot (L ++ [a])) x z ↔ z = a.down ∨ Reach (steps top bot L) a.down z := by
  constructor
  · intro k
    rcases reach_out h hu hd hud hf hn hx k with ⟨_, k⟩ | ⟨hi, _⟩
    · exact k
    · exact absurd hz (hf _ hi)
  · intro k
    have h1 := reach_down (top := top) (bot := bot) (L := L) hn hx
    rcases k with rfl | k
    · exact h1
    · exact h1.trans (Reach.sub (sub_add top bot L a) k)
/-- and of the new ones -/
theorem new_new {top bot : α} {L : List (Ad α)} {O : List α} (h : Rises O (steps top bot L)) {a : Ad α} (hu : a.up ∈ O) (hd : a.down ∈ O) (hud : Reach (steps top bot L) a.up a.down) (hf : ∀ x ∈ a.ids, x ∉ O) (hn : a.ids.Nodup) {x z : α} (hx : x ∈ a.ids) (hz : z ∈ a.ids) :
    Reach (steps top bot (L ++ [a])) x z ↔ a.ids.idxOf x < a.ids.idxOf z := by
  constructor
  · intro k
    rcases reach_out h hu hd hud hf hn hx k with ⟨ho, _⟩ | ⟨_, k⟩
    · exact absurd ho (hf _ hz)
    · exact k
  · intro k
    have hl := List.idxOf_lt_length_of_mem hz
    refine reach_later hn (get_idx hx) (a.ids.idxOf z - a.ids.idxOf x - 1) z ?_
    rw [show a.ids.idxOf x + (a.ids.idxOf z - a.ids.idxOf x - 1) + 1 = a.ids.idxOf z by omega, List.getElem?_append_left hl]
    exact get_idx hz
end Go.Proofs.Ytjcihaohpbmogaa.Gr

/- Layer 11 (lines), plain: graphs that additions made, and what is left when some are dropped. -/
namespace Go.Proofs.Ytjcihaohpbmogaa.Gr
set_option linter.unusedVariables false
variable {α : Type} [DecidableEq α]

theorem idx_filter (p : α → Bool) {x y : α} (hx : p x = true) (hy : p y = true) : ∀ (O : List α), O.idxOf x < O.idxOf y → (O.filter p).idxOf x < (O.filter p).idxOf y
  | [], h => by simp at h
  | z :: O, h => by
    rw [List.idxOf_cons, List.idxOf_cons] at h
    by_cases e1 : z = x
    · subst e1
      rw [List.filter_cons_of_pos hx, List.idxOf_cons_self, List.idxOf_cons]
      cases e2 : z == y with
      | true => rw [e2] at h; simp at h
      | false => simp
    · have e1' : (z == x) = false := by simpa using e1
      rw [e1'] at h
      cases e2 : z == y with
      | true => rw [e2] at h; simp at h
      | false =>
        rw [e2] at h
        have ih := idx_filter p hx hy O (by simpa using h)
        cases hz : p z with
        | true =>
          rw [List.filter_cons_of_pos hz, List.idxOf_cons, List.idxOf_cons, e1', e2]
          simpa using ih
        | false =>
          rw [List.filter_cons_of_neg (by rw [hz]; decide)]
          exact ih
/-- fewer steps, of fewer vertices, rise in what is left of the order -/
theorem Rises.drop {O : List α} {s t : α → List α} (h : Rises O s) (p : α → Bool) (hst : ∀ a b, b ∈ t a → b ∈ s a ∧ p a = true ∧ p b = true) : Rises (O.filter p) t := fun a b k => by
  obtain ⟨h1, h2, h3⟩ := hst a b k
  obtain ⟨m1, m2, m3⟩ := h a b h1
  exact ⟨List.mem_filter.2 ⟨m1, h2⟩, List.mem_filter.2 ⟨m2, h3⟩, idx_filter p h2 h3 O m3⟩
/-- a graph that additions made, and an order of its vertices -/
inductive Made (top bot : α) : List (Ad α) → List α → Prop
  | none : top ≠ bot → Made top bot [] [top, bot]
  | add {L : List (Ad α)} {O l r : List α} {a : Ad α} : Made top bot L O → Reach (steps top bot L) a.up a.down → (∀ x ∈ a.ids, x ∉ O) → a.ids.Nodup → O = l ++ a.up :: r → Rises (l ++ a.up :: (a.ids ++ r)) (steps top bot (L ++ [a])) → Made top bot (L ++ [a]) (l ++ a.up :: (a.ids ++ r))
theorem Made.rises {top bot : α} {L : List (Ad α)} {O : List α} (h : Made top bot L O) : Rises O (steps top bot L) := by
  cases h with
  | none hne =>
    intro a b k
    unfold steps at k
    simp only [List.flatMap_nil, List.append_nil] at k
    split at k
    · rename_i e
      rw [List.mem_singleton.1 k, e]
      refine ⟨by simp, by simp, ?_⟩
      rw [List.idxOf_cons_self, List.idxOf_cons]
      have : (top == bot) = false := by simpa using hne
      rw [this]
      simp
    · cases k
  | add _ _ _ _ _ hr => exact hr
theorem Made.next {top bot : α} {L : List (Ad α)} {O : List α} (h : Made top bot L O) (a : Ad α) (hud : Reach (steps top bot L) a.up a.down) (hf : ∀ x ∈ a.ids, x ∉ O) (hn : a.ids.Nodup) : ∃ O', Made top bot (L ++ [a]) O' ∧ ∀ x, x ∈ O' ↔ x ∈ O ∨ x ∈ a.ids := by
  have hr := h.rises
  obtain ⟨hu, hd⟩ := hr.ins hud
  obtain ⟨l, r, e, h2⟩ := hr.add a hu hd (hr.lt hud) hf hn
  refine ⟨_, .add h hud hf hn e h2, fun x => ?_⟩
  rw [e]
  simp only [List.mem_append, List.mem_cons]
  constructor
  · rintro (h | h | h | h)
    · exact .inl (.inl h)
    · exact .inl (.inr (.inl h))
    · exact .inr h
    · exact .inl (.inr (.inr h))
  · rintro ((h | h | h) | h)
    · exact .inl h
    · exact .inr (.inl h)
    · exact .inr (.inr (.inr h))
    · exact .inr (.inr (.inl h))
/-- what is left of the additions -/
def left (p : α → Bool) (L : List (Ad α)) : List (Ad α) := L.filter fun a => a.ids.all p
/-- additions go whole, and none that stays is next to one that goes -/
def Whole (p : α → Bool) (L : List (Ad α)) : Prop := ∀ a ∈ L, (a.ids.all p = true ∧ p a.up = true ∧ p a.down = true) ∨ (a.ids ≠ [] ∧ ∀ x ∈ a.ids, p x = false)
end Go.Proofs.Ytjcihaohpbmogaa.Gr

/- Layer 11 (lines), plain: what is left by a drop is ahead of what it was ahead of. -/
namespace Go.Proofs.Ytjcihaohpbmogaa.Gr
set_option linter.unusedVariables false
variable {α : Type} [DecidableEq α]

theorem left_add {β : Type} (p : β → Bool) (L : List (Ad β)) (a : Ad β) : left p (L ++ [a]) = left p L ++ (if a.ids.all p = true then [a] else []) := by
  unfold left
  rw [List.filter_append]
  congr 1
  rw [List.filter_cons, List.filter_nil]
theorem Made.left {top bot : α} {p : α → Bool} (ht : p top = true) (hb : p bot = true) {L : List (Ad α)} {O : List α} (h : Made top bot L O) (hw : Whole p L) :
    ∃ O', Made top bot (left p L) O' ∧ (∀ x, x ∈ O' ↔ x ∈ O ∧ p x = true) ∧ ∀ x z, x ∈ O' → z ∈ O' → (Reach (steps top bot (left p L)) x z ↔ Reach (steps top bot L) x z) := by
  induction h with
  | none hne =>
    refine ⟨[top, bot], .none hne, fun x => ?_, fun x z _ _ => Iff.rfl⟩
    constructor
    · intro hx
      refine ⟨hx, ?_⟩
      rcases List.mem_cons.1 hx with rfl | hx
      · exact ht
      · rw [List.mem_singleton.1 hx]; exact hb
    · exact fun hx => hx.1
  | @add L O l r a hm hud hf hn e hr ih =>
    obtain ⟨O1, m1, mem1, re1⟩ := ih fun c hc => hw c (List.mem_append_left _ hc)
    have hro := hm.rises
    obtain ⟨hu, hd⟩ := hro.ins hud
    have memN : ∀ x, x ∈ l ++ a.up :: (a.ids ++ r) ↔ x ∈ O ∨ x ∈ a.ids := by
      intro x
      rw [e]
      simp only [List.mem_append, List.mem_cons]
      constructor
      · rintro (h | h | h | h)
        · exact .inl (.inl h)
        · exact .inl (.inr (.inl h))
        · exact .inr h
        · exact .inl (.inr (.inr h))
      · rintro ((h | h | h) | h)
        · exact .inl h
        · exact .inr (.inl h)
        · exact .inr (.inr (.inr h))
        · exact .inr (.inr (.inl h))
    rw [left_add]
    rcases hw a (List.mem_append_right _ (List.mem_singleton.2 rfl)) with ⟨h1, h2, h3⟩ | ⟨h1, h2⟩
    · rw [if_pos h1]
      have hall := List.all_eq_true.1 h1
      have hu1 : a.up ∈ O1 := (mem1 _).2 ⟨hu, h2⟩
      have hd1 : a.down ∈ O1 := (mem1 _).2 ⟨hd, h3⟩
      have hud1 : Reach (steps top bot (Gr.left p L)) a.up a.down := (re1 _ _ hu1 hd1).2 hud
      have hf1 : ∀ x ∈ a.ids, x ∉ O1 := fun x hx ho => hf x hx ((mem1 x).1 ho).1
      obtain ⟨O2, m2, mem2⟩ := m1.next a hud1 hf1 hn
      have r1 := m1.rises
      refine ⟨O2, m2, fun x => ?_, fun x z hx hz => ?_⟩
      · rw [mem2, memN, mem1]
        constructor
        · rintro (h | h)
          · exact ⟨.inl h.1, h.2⟩
          · exact ⟨.inr h, hall x h⟩
        · rintro ⟨h | h, hp⟩
          · exact .inl ⟨h, hp⟩
          · exact .inr h
      · rcases (mem2 x).1 hx with hx | hx <;> rcases (mem2 z).1 hz with hz | hz
        · rw [reach_add r1 hu1 hd1 hud1 hf1 hx hz, re1 x z hx hz, reach_add hro hu hd hud hf ((mem1 x).1 hx).1 ((mem1 z).1 hz).1]
        · rw [reach_new r1 hu1 hd1 hud1 hf1 hn hx hz, reach_new hro hu hd hud hf hn ((mem1 x).1 hx).1 hz, re1 x a.up hx hu1]
        · rw [new_reach r1 hu1 hd1 hud1 hf1 hn hx hz, new_reach hro hu hd hud hf hn hx ((mem1 z).1 hz).1, re1 a.down z hd1 hz]
        · rw [new_new r1 hu1 hd1 hud1 hf1 hn hx hz, new_new hro hu hd hud hf hn hx hz]
    · have hna : ¬ a.ids.all p = true := fun hall => by
        cases hi : a.ids with
        | nil => exact h1 hi
        | cons y t =>
          have hy : y ∈ a.ids := by rw [hi]; simp
          have := List.all_eq_true.1 hall y hy
          rw [h2 y hy] at this
          cases this
      rw [if_neg hna, List.append_nil]
      refine ⟨O1, m1, fun x => ?_, fun x z hx hz => ?_⟩
      · rw [memN, mem1]
        constructor
        · exact fun h => ⟨.inl h.1, h.2⟩
        · rintro ⟨h | h, hp⟩
          · exact ⟨h, hp⟩
          · rw [h2 x h] at hp; cases hp
      · rw [re1 x z hx hz, reach_add hro hu hd hud hf ((mem1 x).1 hx).1 ((mem1 z).1 hz).1]
end Go.Proofs.Ytjcihaohpbmogaa.Gr

/- Layer 11 (lines), plain: what was just added and is dropped leaves what was. -/
namespace Go.Proofs.Ytjcihaohpbmogaa.Gr
set_option linter.unusedVariables false
variable {α : Type} [DecidableEq α]

theorem Made.ids {top bot : α} {L : List (Ad α)} {O : List α} (h : Made top bot L O) : ∀ c ∈ L, (∀ x ∈ c.ids, x ∈ O) ∧ c.up ∈ O ∧ c.down ∈ O := by
  induction h with
  | none hne => intro c hc; cases hc
  | @add L O l r a hm hud hf hn e hr ih =>
    have hin : ∀ x, x ∈ O ∨ x ∈ a.ids → x ∈ l ++ a.up :: (a.ids ++ r) := fun x hx => by
      rw [e] at hx
      simp only [List.mem_append, List.mem_cons] at hx ⊢
      rcases hx with (h | h | h) | h
      · exact .inl h
      · exact .inr (.inl h)
      · exact .inr (.inr (.inr h))
      · exact .inr (.inr (.inl h))
    obtain ⟨hu, hd⟩ := hm.rises.ins hud
    intro c hc
    rcases List.mem_append.1 hc with hc | hc
    · obtain ⟨h1, h2, h3⟩ := ih c hc
      exact ⟨fun x hx => hin x (.inl (h1 x hx)), hin _ (.inl h2), hin _ (.inl h3)⟩
    · rw [List.mem_singleton.1 hc]
      exact ⟨fun x hx => hin x (.inr hx), hin _ (.inl hu), hin _ (.inl hd)⟩
theorem left_undo {top bot : α} {L : List (Ad α)} {O : List α} (h : Made top bot L O) (a : Ad α) (hf : ∀ x ∈ a.ids, x ∉ O) (hne : a.ids ≠ []) : left (fun x => decide (x ∉ a.ids)) (L ++ [a]) = L := by
  rw [left_add]
  have h1 : ¬ (a.ids.all fun x => decide (x ∉ a.ids)) = true := fun hall => by
    cases hi : a.ids with
    | nil => exact hne hi
    | cons y t =>
      have hy : y ∈ a.ids := by rw [hi]; simp
      have := List.all_eq_true.1 hall y hy
      simp [hy] at this
  rw [if_neg h1, List.append_nil]
  unfold left
  refine List.filter_eq_self.2 fun c hc => List.all_eq_true.2 fun x hx => ?_
  exact decide_eq_true fun hi => hf x hi ((h.ids c hc).1 x hx)
end Go.Proofs.Ytjcihaohpbmogaa.Gr

/- Layer 11 (lines), plain: the search from a line back to those that lead to it. -/
namespace Go.Proofs.Ytjcihaohpbmogaa.Gr
set_option linter.unusedVariables false
set_option linter.unusedSectionVars false
variable {α : Type} [DecidableEq α]
/-- between two rounds of the search -/
structure LO (fr : α → List α) (top a b : α) (work met : List α) : Prop where
  len : work.length ≤ met.length
  sub : ∀ x ∈ work, x ∈ met
  st : b ∈ met
  tm : top ∉ met
  rch : ∀ x ∈ met, x = b ∨ Reach fr b x
  nd : met.Nodup
  cl : ∀ x ∈ met, x ∉ work → ∀ y ∈ fr x, y ≠ a ∧ (y = top ∨ y ∈ met)
/-- within a round: some of what leads to a line was looked at -/
structure LI (fr : α → List α) (top a b f : α) (dn work met : List α) : Prop where
  len : work.length + 1 ≤ met.length
  sub : ∀ x ∈ work, x ∈ met
  st : b ∈ met
  tm : top ∉ met
  fm : f ∈ met
  rch : ∀ x ∈ met, x = b ∨ Reach fr b x
  nd : met.Nodup
  cl : ∀ x ∈ met, x ∉ work → x ≠ f → ∀ y ∈ fr x, y ≠ a ∧ (y = top ∨ y ∈ met)
  cu : ∀ y ∈ dn, y ≠ a ∧ (y = top ∨ y ∈ met)
variable {fr : α → List α} {top a b f y : α} {dn work met : List α}
theorem LO.start (fr : α → List α) (top a b : α) (hb : b ≠ top) : LO fr top a b [b] [b] := ⟨by simp, by simp, by simp, by simpa using fun e => hb e.symm, by simp, by simp, fun x hx hn => absurd hx hn⟩
theorem LO.pop (h : LO fr top a b (work ++ [f]) met) : LI fr top a b f [] work met :=
  ⟨by have := h.len; simp at this; omega, fun x hx => h.sub x (by simp [hx]), h.st, h.tm, h.sub f (by simp), h.rch, h.nd, fun x hx hn hf => h.cl x hx (by simp [hn, hf]), by simp⟩
theorem LI.old (h : LI fr top a b f dn work met) (hya : y ≠ a) (hy : y ∈ met ∨ y = top) : LI fr top a b f (dn ++ [y]) work met :=
  ⟨h.len, h.sub, h.st, h.tm, h.fm, h.rch, h.nd, h.cl, fun x hx => by
    rcases List.mem_append.1 hx with hx | hx
    · exact h.cu x hx
    · rw [List.mem_singleton.1 hx]; exact ⟨hya, hy.symm⟩⟩
theorem LI.push (h : LI fr top a b f dn work met) (hya : y ≠ a) (hyt : y ≠ top) (hy : y ∉ met) (hf : y ∈ fr f) : LI fr top a b f (dn ++ [y]) (work ++ [y]) (met ++ [y]) := by
  have hr : Reach fr b y := by
    rcases h.rch f h.fm with e | e
    · rw [← e]; exact .one hf
    · exact .more e hf
  refine ⟨by have := h.len; simp; omega, fun x hx => ?_, by simp [h.st], by simpa [h.tm] using fun e => hyt e.symm, by simp [h.fm], fun x hx => ?_, ?_, fun x hx hn hxf z hz => ?_, fun x hx => ?_⟩
  · rcases List.mem_append.1 hx with hx | hx
    · simp [h.sub x hx]
    · simp [List.mem_singleton.1 hx]
  · rcases List.mem_append.1 hx with hx | hx
    · exact h.rch x hx
    · rw [List.mem_singleton.1 hx]; exact .inr hr
  · rw [List.nodup_append]
    exact ⟨h.nd, by simp, fun x hx z hz e => by rw [List.mem_singleton.1 hz] at e; subst e; exact hy hx⟩
  · simp only [List.mem_append, List.mem_singleton, not_or] at hx hn
    rcases hx with hx | hx
    · obtain ⟨h1, h2⟩ := h.cl x hx hn.1 hxf z hz
      exact ⟨h1, h2.imp id (fun e => by simp [e])⟩
    · exact absurd hx hn.2
  · rcases List.mem_append.1 hx with hx | hx
    · obtain ⟨h1, h2⟩ := h.cu x hx
      exact ⟨h1, h2.imp id (fun e => by simp [e])⟩
    · rw [List.mem_singleton.1 hx]; exact ⟨hya, .inr (by simp)⟩
theorem LI.done (h : LI fr top a b f (fr f) work met) : LO fr top a b work met :=
  ⟨by have := h.len; omega, h.sub, h.st, h.tm, h.rch, h.nd, fun x hx hn => by
    by_cases e : x = f
    · rw [e]; exact h.cu
    · exact h.cl x hx hn e⟩
theorem LO.finish (ht : fr top = []) (h : LO fr top a b [] met) : ¬ Reach fr b a := by
  have key : ∀ x, Reach fr b x → x ≠ a ∧ (x = top ∨ x ∈ met) := fun x k => by
    induction k with
    | one h1 => exact h.cl b h.st (by simp) _ h1
    | more _ h1 ih =>
      rcases ih.2 with e | e
      · rw [e, ht] at h1; cases h1
      · exact h.cl _ e (by simp) _ h1
  exact fun k => (key a k).1 rfl
theorem LI.found (h : LI fr top a b f dn work met) (hf : a ∈ fr f) : Reach fr b a := by
  rcases h.rch f h.fm with e | e
  · rw [← e]; exact .one hf
  · exact .more e hf
theorem met_keys {ks : List α} (hn : met.Nodup) (hb : b ∈ ks) (ht : ∀ x ∈ ks, ∀ y ∈ fr x, y = top ∨ y ∈ ks) (hr : ∀ x ∈ met, x = b ∨ Reach fr b x) (htop : fr top = []) (hm : top ∉ met) : ∀ x ∈ met, x ∈ ks := by
  have key : ∀ x, Reach fr b x → x = top ∨ x ∈ ks := fun x k => by
    induction k with
    | one h1 => exact ht b hb _ h1
    | more _ h1 ih =>
      rcases ih with e | e
      · rw [e, htop] at h1; cases h1
      · exact ht _ e _ h1
  intro x hx
  rcases hr x hx with e | e
  · rw [e]; exact hb
  · rcases key x e with e | e
    · rw [e] at hx; exact absurd hx hm
    · exact e
end Go.Proofs.Ytjcihaohpbmogaa.Gr

/- Layer 11 (lines), plain: which lines may be shown next: all that lead to them were told, which is that none ahead of them was not told; there is one. -/
namespace Go.Proofs.Ytjcihaohpbmogaa.Gr
set_option linter.unusedVariables false

/-- told lines have with them all lines that lead to them -/
def Closed {α : Type} (step : α → List α) (all told : List α) : Prop := ∀ x ∈ told, ∀ u ∈ all, x ∈ step u → u ∈ told
/-- from a line one comes to lines, or to what leads nowhere -/
def Stays {α : Type} (step : α → List α) (all : List α) : Prop := ∀ k ∈ all, ∀ u, Reach step k u → u ∈ all ∨ step u = []
theorem told_back {α : Type} {step : α → List α} {all told : List α} (hc : Closed step all told) (hs : Stays step all) {k u : α} (hk : k ∈ all) (h : Reach step k u) (hu : u ∈ told) : k ∈ told := by
  induction h with
  | one h1 => exact hc _ hu k hk h1
  | @more v u h0 h1 ih =>
    rcases hs k hk v h0 with hv | hv
    · exact ih (hc _ hu v hv h1)
    · rw [hv] at h1; cases h1
theorem free_iff {α : Type} {step : α → List α} {all told : List α} (hc : Closed step all told) (hs : Stays step all) (n : α) :
    (∀ u ∈ all, n ∈ step u → u ∈ told) ↔ ∀ k ∈ all, k ∉ told → ¬ Reach step k n := by
  constructor
  · intro h k hk hkt hr
    cases hr with
    | one h1 => exact hkt (h k hk h1)
    | @more u _ h0 h1 =>
      rcases hs k hk u h0 with hu | hu
      · exact hkt (told_back hc hs hk h0 (h u hu h1))
      · rw [hu] at h1; cases h1
  · intro h u hu h1
    exact Classical.byContradiction fun hut => h u hu hut (.one h1)
/-- one more is told: still closed -/
theorem Closed.add {α : Type} {step : α → List α} {all told : List α} (h : Closed step all told) {n : α} (hn : ∀ u ∈ all, n ∈ step u → u ∈ told) : Closed step all (told ++ [n]) := by
  intro x hx u hu h1
  refine List.mem_append_left _ ?_
  rcases List.mem_append.1 hx with hx | hx
  · exact h x hx u hu h1
  · rw [List.mem_singleton.1 hx] at h1
    exact hn u hu h1
theorem Closed.nil {α : Type} (step : α → List α) (all : List α) : Closed step all [] := fun x hx => by cases hx
/-- if a line is left, one may be told -/
theorem ready_one {α : Type} {step : α → List α} {all told : List α} (f : α → Nat) (hf : ∀ a b, b ∈ step a → f a < f b) : ∀ (m : Nat) (n : α), f n ≤ m → n ∈ all → n ∉ told → ∃ x ∈ all, x ∉ told ∧ ∀ u ∈ all, x ∈ step u → u ∈ told
  | m, n, hm, hn, ht => by
    by_cases h : ∀ u ∈ all, n ∈ step u → u ∈ told
    · exact ⟨n, hn, ht, h⟩
    · obtain ⟨u, h1⟩ := Classical.not_forall.1 h
      have h2 := Classical.not_imp.1 h1
      have h3 := Classical.not_imp.1 h2.2
      have hlt := hf u n h3.1
      match m, hm with
      | 0, hm => omega
      | m + 1, hm => exact ready_one f hf m u (by omega) h2.1 h3.2
end Go.Proofs.Ytjcihaohpbmogaa.Gr

/- Layer 11 (lines), plain: two lists that rise and hold the same are the same; two additions in either order. -/
namespace Go.Proofs.Ytjcihaohpbmogaa.Gr
set_option linter.unusedVariables false

theorem rising_same {α : Type} (f : α → Nat) : ∀ (l r : List α), l.Pairwise (fun a b => f a < f b) → r.Pairwise (fun a b => f a < f b) → (∀ x, x ∈ l ↔ x ∈ r) → l = r
  | [], [], _, _, _ => rfl
  | [], y :: r, _, _, h => by have := (h y).2 (by simp); cases this
  | x :: l, [], _, _, h => by have := (h x).1 (by simp); cases this
  | x :: l, y :: r, hl, hr, h => by
    rw [List.pairwise_cons] at hl hr
    have hxy : x = y := by
      refine Classical.byContradiction fun hne => ?_
      have h1 : x ∈ r := by
        rcases List.mem_cons.1 ((h x).1 (by simp)) with e | e
        · exact absurd e hne
        · exact e
      have h2 : y ∈ l := by
        rcases List.mem_cons.1 ((h y).2 (by simp)) with e | e
        · exact absurd e.symm hne
        · exact e
      have := hl.1 y h2
      have := hr.1 x h1
      omega
    subst hxy
    congr 1
    refine rising_same f l r hl.2 hr.2 fun z => ?_
    constructor
    · intro hz
      rcases List.mem_cons.1 ((h z).1 (List.mem_cons_of_mem _ hz)) with e | e
      · subst e; exact absurd (hl.1 z hz) (Nat.lt_irrefl _)
      · exact e
    · intro hz
      rcases List.mem_cons.1 ((h z).2 (List.mem_cons_of_mem _ hz)) with e | e
      · subst e; exact absurd (hr.1 z hz) (Nat.lt_irrefl _)
      · exact e
/-- a chain of lines that all are ahead of the next ones stands so in each order in which steps rise -/
theorem chain_shown {α : Type} {step : α → List α} (f : α → Nat) (hf : ∀ a b, b ∈ step a → f a < f b) {C S : List α} (hC : C.Pairwise (Reach step)) (hS : S.Pairwise (fun a b => f a < f b)) (hm : ∀ x, x ∈ C ↔ x ∈ S) : C = S :=
  rising_same f C S (hC.imp fun h => h.rises f hf) hS hm
theorem steps_swap {α : Type} [DecidableEq α] (top bot : α) (L : List (Ad α)) (a b : Ad α) (v x : α) : x ∈ steps top bot (L ++ [a] ++ [b]) v ↔ x ∈ steps top bot (L ++ [b] ++ [a]) v := by
  rw [steps_add, steps_add, steps_add, steps_add]
  simp only [List.mem_append]
  constructor
  · rintro ((h | h) | h)
    · exact .inl (.inl h)
    · exact .inr h
    · exact .inl (.inr h)
  · rintro ((h | h) | h)
    · exact .inl (.inl h)
    · exact .inr h
    · exact .inl (.inr h)
theorem reach_swap {α : Type} [DecidableEq α] (top bot : α) (L : List (Ad α)) (a b : Ad α) (x y : α) : Reach (steps top bot (L ++ [a] ++ [b])) x y ↔ Reach (steps top bot (L ++ [b] ++ [a])) x y :=
  ⟨Reach.sub fun u v h => (steps_swap top bot L a b u v).1 h, Reach.sub fun u v h => (steps_swap top bot L a b u v).2 h⟩
end Go.Proofs.Ytjcihaohpbmogaa.Gr

/- Layer 11 (lines), plain: the least of a list is the first of what rises and holds the same. -/
namespace Go.Proofs.Ytjcihaohpbmogaa.Gr
set_option linter.unusedVariables false

/-- the least so far, gone on with -/
def minOf {α : Type} (lt : α → α → Bool) : α → List α → α
  | m, [] => m
  | m, x :: l => minOf lt (if lt x m = true then x else m) l
theorem minOf_mem {α : Type} (lt : α → α → Bool) : ∀ (l : List α) (m : α), minOf lt m l ∈ m :: l
  | [], m => by simp [minOf]
  | x :: l, m => by
    unfold minOf
    rcases List.mem_cons.1 (minOf_mem lt l (if lt x m = true then x else m)) with h | h
    · rw [h]
      split <;> simp
    · simp [h]
theorem minOf_least {α : Type} (lt : α → α → Bool) (ht : ∀ a b c, lt a b = true → lt b c = true → lt a c = true) (hi : ∀ a, lt a a = false) : ∀ (l : List α) (m : α) (s : List α), (∀ y ∈ s, lt y m = false) → ∀ y, y ∈ s ∨ y = m ∨ y ∈ l → lt y (minOf lt m l) = false
  | [], m, s, hs, y, hy => by
    rcases hy with h | rfl | h
    · exact hs y h
    · exact hi y
    · cases h
  | x :: l, m, s, hs, y, hy => by
    unfold minOf
    have key : ∀ z ∈ m :: x :: s, lt z (if lt x m = true then x else m) = false := by
      intro z hz
      cases h : lt x m with
      | true =>
        rw [if_pos rfl]
        rcases List.mem_cons.1 hz with rfl | hz
        · cases h2 : lt z x with
          | false => rfl
          | true => have := ht _ _ _ h h2; rw [hi] at this; cases this
        · rcases List.mem_cons.1 hz with rfl | hz
          · exact hi z
          · cases h2 : lt z x with
            | false => rfl
            | true => have := ht _ _ _ h2 h; rw [hs z hz] at this; cases this
      | false =>
        rw [if_neg (by decide)]
        rcases List.mem_cons.1 hz with rfl | hz
        · exact hi z
        · rcases List.mem_cons.1 hz with rfl | hz
          · exact h
          · exact hs z hz
    refine minOf_least lt ht hi l _ (m :: x :: s) key y ?_
    rcases hy with h | rfl | h
    · exact .inl (by simp [h])
    · exact .inl (by simp)
    · rcases List.mem_cons.1 h with rfl | h
      · exact .inl (by simp)
      · exact .inr (.inr h)
/-- the first of what rises is the least of any list with the same in it -/
theorem least_first {α : Type} (lt : α → α → Bool) (ht : ∀ a b c, lt a b = true → lt b c = true → lt a c = true) (hi : ∀ a, lt a a = false) {S near : List α} {h m : α} (hS : (h :: S).Pairwise fun a b => lt a b = true) (hm : ∀ x, x ∈ h :: S ↔ x ∈ m :: near) : minOf lt m near = h := by
  have h1 := (hm _).2 (minOf_mem lt near m)
  rcases List.mem_cons.1 h1 with e | e
  · exact e
  · rw [List.pairwise_cons] at hS
    have h2 := hS.1 _ e
    have h3 : h ∈ m :: near := (hm h).1 (by simp)
    have h4 := minOf_least lt ht hi near m [] (by simp) h (.inr (List.mem_cons.1 h3))
    rw [h2] at h4
    cases h4
end Go.Proofs.Ytjcihaohpbmogaa.Gr

/- Layer 11 (lines), plain: the order in which lines are told: again and again the first one of those that may be told with a step from the last one, else the first one of them. -/
namespace Go.Proofs.Ytjcihaohpbmogaa.Gr
set_option linter.unusedVariables false
set_option linter.unusedSectionVars false
variable {α : Type} [DecidableEq α]

/-- a line may be told: all lines from which steps lead to it were -/
def rdy (fl : α → List α) (told : List α) (n : α) : Bool := (fl n).all fun u => decide (u ∈ told)
/-- a step leads to it from the one told last -/
def flw (fl : α → List α) (told : List α) (n : α) : Bool := match told.getLast? with
  | none => false
  | some l => decide (l ∈ fl n)
/-- those that were not told -/
def lft (vs told : List α) : List α := vs.filter fun v => decide (v ∉ told)
/-- the next one -/
def nxt (fl : α → List α) (vs told : List α) : Option α := match (lft vs told).find? fun n => rdy fl told n && flw fl told n with
  | some n => some n
  | none => (lft vs told).find? fun n => rdy fl told n
def run (fl : α → List α) (vs : List α) : Nat → List α → List α
  | 0, told => told
  | k + 1, told => match nxt fl vs told with
    | none => told
    | some n => run fl vs k (told ++ [n])
/-- all, in order -/
def ordr (fl : α → List α) (vs : List α) : List α := run fl vs vs.length []

theorem rdy_iff {fl : α → List α} {told : List α} {n : α} : rdy fl told n = true ↔ ∀ u ∈ fl n, u ∈ told := by
  simp [rdy, List.all_eq_true]
theorem lft_mem {vs told : List α} {n : α} : n ∈ lft vs told ↔ n ∈ vs ∧ n ∉ told := by simp [lft]
theorem nxt_some {fl : α → List α} {vs told : List α} {n : α} (h : nxt fl vs told = some n) : n ∈ vs ∧ n ∉ told ∧ rdy fl told n = true := by
  unfold nxt at h
  split at h
  · rename_i m hm
    cases h
    have h1 := List.mem_of_find?_eq_some hm
    have h2 := List.find?_some hm
    simp only [Bool.and_eq_true] at h2
    exact ⟨(lft_mem.1 h1).1, (lft_mem.1 h1).2, h2.1⟩
  · have h1 := List.mem_of_find?_eq_some h
    have h2 := List.find?_some h
    exact ⟨(lft_mem.1 h1).1, (lft_mem.1 h1).2, h2⟩
theorem nxt_none {fl : α → List α} {vs told : List α} (h : nxt fl vs told = none) : ∀ n ∈ vs, n ∉ told → rdy fl told n = false := by
  unfold nxt at h
  split at h
  · cases h
  · intro n hn ht
    have := List.find?_eq_none.1 h n (lft_mem.2 ⟨hn, ht⟩)
    simpa using this
/-- what the lines from which steps lead are -/
def From (step : α → List α) (vs : List α) (fl : α → List α) : Prop := ∀ n ∈ vs, ∀ u, u ∈ fl n ↔ u ∈ vs ∧ n ∈ step u
theorem rdy_from {step : α → List α} {vs : List α} {fl : α → List α} (h : From step vs fl) {told : List α} {n : α} (hn : n ∈ vs) : rdy fl told n = true ↔ ∀ u ∈ vs, n ∈ step u → u ∈ told := by
  rw [rdy_iff]
  constructor
  · exact fun k u hu h1 => k u ((h n hn u).2 ⟨hu, h1⟩)
  · exact fun k u hu => k u ((h n hn u).1 hu).1 ((h n hn u).1 hu).2
theorem nxt_is {step : α → List α} {vs : List α} {fl : α → List α} (h : From step vs fl) (f : α → Nat) (hf : ∀ a b, b ∈ step a → f a < f b) {told : List α} (hlt : ∃ n ∈ vs, n ∉ told) : ∃ n, nxt fl vs told = some n := by
  cases hx : nxt fl vs told with
  | some n => exact ⟨n, rfl⟩
  | none =>
    exfalso
    obtain ⟨n, hn, ht⟩ := hlt
    obtain ⟨x, h1, h2, h3⟩ := ready_one f hf (f n) n (Nat.le_refl _) hn ht
    have := nxt_none hx x h1 h2
    rw [(rdy_from h h1).2 h3] at this
    cases this
/-- what was told so far -/
structure Told (step : α → List α) (vs told : List α) : Prop where
  cl : Closed step vs told
  sub : ∀ x ∈ told, x ∈ vs
  nd : told.Nodup
  ord : told.Pairwise fun a b => ¬ Reach step b a
theorem Told.nil (step : α → List α) (vs : List α) : Told step vs [] := ⟨Closed.nil _ _, by simp, by simp, by simp⟩
theorem Told.add {step : α → List α} {vs told : List α} {fl : α → List α} (hF : From step vs fl) (hs : Stays step vs) (h : Told step vs told) {n : α} (hn : nxt fl vs told = some n) : Told step vs (told ++ [n]) := by
  obtain ⟨h1, h2, h3⟩ := nxt_some hn
  refine ⟨h.cl.add ((rdy_from hF h1).1 h3), fun x hx => ?_, ?_, ?_⟩
  · rcases List.mem_append.1 hx with hx | hx
    · exact h.sub x hx
    · rw [List.mem_singleton.1 hx]; exact h1
  · rw [List.nodup_append]
    exact ⟨h.nd, by simp, fun x hx y hy e => by rw [List.mem_singleton.1 hy] at e; subst e; exact h2 hx⟩
  · rw [List.pairwise_append]
    refine ⟨h.ord, by simp, fun x hx y hy k => ?_⟩
    rw [List.mem_singleton.1 hy] at k
    exact h2 (told_back h.cl hs h1 k hx)
theorem nodup_len : ∀ (a b : List α), a.Nodup → (∀ x ∈ a, x ∈ b) → a.length ≤ b.length
  | [], _, _, _ => Nat.zero_le _
  | x :: a, b, hn, h => by
    have hn' := List.nodup_cons.1 hn
    have hx := h x (by simp)
    have ih := nodup_len a (b.erase x) hn'.2 (fun y hy => (List.mem_erase_of_ne (by rintro rfl; exact hn'.1 hy)).2 (h y (by simp [hy])))
    rw [List.length_erase_of_mem hx] at ih
    have := List.length_pos_of_mem hx
    simp; omega
theorem mem_all {a b : List α} (ha : a.Nodup) (hs : ∀ x ∈ a, x ∈ b) (hl : b.length ≤ a.length) : ∀ x ∈ b, x ∈ a := by
  intro x hx
  refine Classical.byContradiction fun hn => ?_
  have := nodup_len (x :: a) b (List.nodup_cons.2 ⟨hn, ha⟩) (by
    intro y hy
    rcases List.mem_cons.1 hy with rfl | hy
    · exact hx
    · exact hs y hy)
  simp at this
  omega
/-- a list that misses some has fewer -/
theorem some_left {a b : List α} (hb : b.Nodup) (hl : a.length < b.length) : ∃ x ∈ b, x ∉ a := by
  refine Classical.byContradiction fun hc => ?_
  have := nodup_len b a hb (fun x hx => Classical.byContradiction fun h => hc ⟨x, hx, h⟩)
  omega
theorem run_told {step : α → List α} {vs : List α} {fl : α → List α} (hF : From step vs fl) (hs : Stays step vs) (f : α → Nat) (hf : ∀ a b, b ∈ step a → f a < f b) (hv : vs.Nodup) :
    ∀ (k : Nat) (told : List α), Told step vs told → told.length + k = vs.length → Told step vs (run fl vs k told) ∧ (run fl vs k told).length = vs.length
  | 0, told, h, hl => ⟨h, by show told.length = _; omega⟩
  | k + 1, told, h, hl => by
    obtain ⟨n, hn⟩ := nxt_is hF f hf (some_left (a := told) hv (by omega))
    unfold run
    rw [hn]
    exact run_told hF hs f hf hv k _ (h.add hF hs hn) (by simp; omega)
/-- in order all are told, each once, none behind one that it is ahead of -/
theorem ordr_told {step : α → List α} {vs : List α} {fl : α → List α} (hF : From step vs fl) (hs : Stays step vs) (f : α → Nat) (hf : ∀ a b, b ∈ step a → f a < f b) (hv : vs.Nodup) :
    Told step vs (ordr fl vs) ∧ (ordr fl vs).length = vs.length ∧ ∀ x, x ∈ ordr fl vs ↔ x ∈ vs := by
  have h := run_told hF hs f hf hv vs.length [] (Told.nil _ _) (by simp)
  exact ⟨h.1, h.2, fun x => ⟨h.1.sub x, mem_all h.1.nd h.1.sub (Nat.le_of_eq h.2.symm) x⟩⟩
/-- the order hangs on what steps lead to a line alone -/
theorem nxt_same {fl fl' : α → List α} {vs told : List α} (h : ∀ n ∈ vs, ∀ u, u ∈ fl n ↔ u ∈ fl' n) : nxt fl vs told = nxt fl' vs told := by
  have h1 : ∀ n ∈ lft vs told, rdy fl told n = rdy fl' told n := fun n hn => by
    have hn' := (lft_mem.1 hn).1
    rw [Bool.eq_iff_iff, rdy_iff, rdy_iff]
    exact ⟨fun k u hu => k u ((h n hn' u).2 hu), fun k u hu => k u ((h n hn' u).1 hu)⟩
  have h2 : ∀ n ∈ lft vs told, flw fl told n = flw fl' told n := fun n hn => by
    have hn' := (lft_mem.1 hn).1
    unfold flw
    split
    · rfl
    · exact decide_eq_decide.2 (h n hn' _)
  have find_congr : ∀ {p q : α → Bool} (l : List α), (∀ n ∈ l, p n = q n) → l.find? p = l.find? q := fun {p q} l => by
    induction l with
    | nil => intro _; rfl
    | cons x l ih =>
      intro hl
      rw [List.find?_cons, List.find?_cons, hl x (by simp), ih (fun n hn => hl n (by simp [hn]))]
  unfold nxt
  rw [find_congr _ (fun n hn => by rw [h1 n hn, h2 n hn]), find_congr _ h1]
theorem run_same {fl fl' : α → List α} {vs : List α} (h : ∀ n ∈ vs, ∀ u, u ∈ fl n ↔ u ∈ fl' n) : ∀ (k : Nat) (told : List α), run fl vs k told = run fl' vs k told
  | 0, _ => rfl
  | k + 1, told => by
    unfold run
    rw [nxt_same h]
    split
    · rfl
    · exact run_same h k _
theorem ordr_same {fl fl' : α → List α} {vs : List α} (h : ∀ n ∈ vs, ∀ u, u ∈ fl n ↔ u ∈ fl' n) : ordr fl vs = ordr fl' vs := run_same h _ _
end Go.Proofs.Ytjcihaohpbmogaa.Gr
