/-
  Layer 11 (lines), plain: an addition never changes which of the others is ahead of which.
-/
import Derived.Test.YtjcihaohpbmogaaOrd
namespace Go.Proofs.Ytjcihaohpbmogaa.Gr
set_option linter.unusedVariables false
variable {α : Type} [DecidableEq α]

theorem Reach.sub {β : Type} {s t : β → List β} (h : ∀ a b, b ∈ s a → b ∈ t a) {a b : β} (k : Reach s a b) : Reach t a b := by
  induction k with
  | one h1 => exact .one (h _ _ h1)
  | more _ h1 ih => exact .more ih (h _ _ h1)
/-- the steps of an addition: from its up to its first, from each to the next, from its last to its down -/
theorem ext_up {a : Ad α} {v b : α} (hv : v ∉ a.ids) (h : b ∈ ext a v) : a.up = v ∧ a.ids[0]? = some b := by
  unfold ext at h
  rw [if_neg hv, List.append_nil] at h
  split at h
  · rename_i e
    obtain ⟨k, hk⟩ := List.getElem?_of_mem h
    rw [List.getElem?_take] at hk
    split at hk
    · have : k = 0 := by omega
      subst this
      exact ⟨e, hk⟩
    · cases hk
  · cases h
theorem ext_id {a : Ad α} {v b : α} (hu : a.up ∉ a.ids) (hv : v ∈ a.ids) (h : b ∈ ext a v) : (a.ids ++ [a.down])[a.ids.idxOf v + 1]? = some b := by
  unfold ext at h
  rw [if_pos hv, if_neg (fun e => hu (by rw [e]; exact hv)), List.nil_append] at h
  obtain ⟨k, hk⟩ := List.getElem?_of_mem h
  rw [List.getElem?_take] at hk
  split at hk
  · have : k = 0 := by omega
    subst this
    rw [List.getElem?_drop, Nat.add_zero] at hk
    exact hk
  · cases hk
theorem up_ext {a : Ad α} {b : α} (h : a.ids[0]? = some b) : b ∈ ext a a.up := by
  unfold ext
  rw [if_pos rfl]
  refine List.mem_append_left _ ?_
  refine List.mem_of_getElem? (i := 0) ?_
  rw [List.getElem?_take, if_pos (by omega)]
  exact h
theorem id_ext {a : Ad α} {v b : α} (hv : v ∈ a.ids) (h : (a.ids ++ [a.down])[a.ids.idxOf v + 1]? = some b) : b ∈ ext a v := by
  unfold ext
  rw [if_pos hv]
  refine List.mem_append_right _ ?_
  refine List.mem_of_getElem? (i := 0) ?_
  rw [List.getElem?_take, if_pos (by omega), List.getElem?_drop, Nat.add_zero]
  exact h
/-- what is reached from one of the others when an addition is there -/
theorem reach_from {top bot : α} {L : List (Ad α)} {O : List α} (h : Rises O (steps top bot L)) {a : Ad α} (hu : a.up ∈ O) (hd : a.down ∈ O) (hud : Reach (steps top bot L) a.up a.down) (hf : ∀ x ∈ a.ids, x ∉ O) {x z : α} (hx : x ∈ O) (k : Reach (steps top bot (L ++ [a])) x z) :
    (z ∈ O ∧ Reach (steps top bot L) x z) ∨ (z ∈ a.ids ∧ (x = a.up ∨ Reach (steps top bot L) x a.up)) := by
  have hui : a.up ∉ a.ids := fun hi => hf _ hi hu
  induction k with
  | one h1 =>
    rw [steps_add] at h1
    rcases List.mem_append.1 h1 with h1 | h1
    · exact .inl ⟨(h _ _ h1).2.1, .one h1⟩
    · obtain ⟨e, h2⟩ := ext_up (fun hi => hf _ hi hx) h1
      exact .inr ⟨List.mem_of_getElem? h2, .inl e.symm⟩
  | @more y z _ h1 ih =>
    rw [steps_add] at h1
    rcases ih with ⟨hy, k1⟩ | ⟨hy, k1⟩
    · rcases List.mem_append.1 h1 with h1 | h1
      · exact .inl ⟨(h _ _ h1).2.1, .more k1 h1⟩
      · obtain ⟨e, h2⟩ := ext_up (fun hi => hf _ hi hy) h1
        exact .inr ⟨List.mem_of_getElem? h2, .inr (by rw [e]; exact k1)⟩
    · rcases List.mem_append.1 h1 with h1 | h1
      · exact absurd (h _ _ h1).1 (hf _ hy)
      · have h2 := ext_id hui hy h1
        rcases List.mem_append.1 (List.mem_of_getElem? h2) with h3 | h3
        · exact .inr ⟨h3, k1⟩
        · rw [List.mem_singleton.1 h3]
          refine .inl ⟨hd, ?_⟩
          rcases k1 with rfl | k1
          · exact hud
          · exact k1.trans hud
theorem sub_add (top bot : α) (L : List (Ad α)) (a : Ad α) : ∀ x y, y ∈ steps top bot L x → y ∈ steps top bot (L ++ [a]) x := fun x y h => by
  rw [steps_add]
  exact List.mem_append_left _ h
/-- of the others nothing changes -/
theorem reach_add {top bot : α} {L : List (Ad α)} {O : List α} (h : Rises O (steps top bot L)) {a : Ad α} (hu : a.up ∈ O) (hd : a.down ∈ O) (hud : Reach (steps top bot L) a.up a.down) (hf : ∀ x ∈ a.ids, x ∉ O) {x z : α} (hx : x ∈ O) (hz : z ∈ O) :
    Reach (steps top bot (L ++ [a])) x z ↔ Reach (steps top bot L) x z := by
  constructor
  · intro k
    rcases reach_from h hu hd hud hf hx k with ⟨_, k⟩ | ⟨hi, _⟩
    · exact k
    · exact absurd hz (hf _ hi)
  · exact Reach.sub (sub_add top bot L a)
/-- the first of an addition is reached from its up, each from those ahead of it -/
theorem reach_ids {top bot : α} {L : List (Ad α)} {a : Ad α} (hn : a.ids.Nodup) : ∀ (k : Nat) (z : α), a.ids[k]? = some z → Reach (steps top bot (L ++ [a])) a.up z
  | 0, z, h => .one (by rw [steps_add]; exact List.mem_append_right _ (up_ext h))
  | k + 1, z, h => by
    have hk := (List.getElem?_eq_some_iff.1 h).1
    obtain ⟨y, hy⟩ : ∃ y, a.ids[k]? = some y := ⟨_, List.getElem?_eq_getElem (by omega)⟩
    have hm := List.mem_of_getElem? hy
    have e : a.ids.idxOf y = k := by
      have h1 := List.idxOf_lt_length_of_mem hm
      have h3 : a.ids[a.ids.idxOf y]? = some y := by rw [List.getElem?_eq_getElem h1]; simp
      exact (List.getElem?_inj h1 hn).1 (h3.trans hy.symm)
    refine .more (reach_ids hn k y hy) ?_
    rw [steps_add]
    refine List.mem_append_right _ (id_ext hm ?_)
    rw [e, List.getElem?_append_left hk]
    exact h
/-- one of the others is ahead of a new one just if it is its addition's up, or ahead of that -/
theorem reach_new {top bot : α} {L : List (Ad α)} {O : List α} (h : Rises O (steps top bot L)) {a : Ad α} (hu : a.up ∈ O) (hd : a.down ∈ O) (hud : Reach (steps top bot L) a.up a.down) (hf : ∀ x ∈ a.ids, x ∉ O) (hn : a.ids.Nodup) {x z : α} (hx : x ∈ O) (hz : z ∈ a.ids) :
    Reach (steps top bot (L ++ [a])) x z ↔ x = a.up ∨ Reach (steps top bot L) x a.up := by
  constructor
  · intro k
    rcases reach_from h hu hd hud hf hx k with ⟨ho, _⟩ | ⟨_, k⟩
    · exact absurd ho (hf _ hz)
    · exact k
  · intro k
    obtain ⟨i, hi⟩ := List.getElem?_of_mem hz
    have h1 := reach_ids (top := top) (bot := bot) (L := L) hn i z hi
    rcases k with rfl | k
    · exact h1
    · exact (Reach.sub (sub_add top bot L a) k).trans h1
#print axioms reach_new
end Go.Proofs.Ytjcihaohpbmogaa.Gr
