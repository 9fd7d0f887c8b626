/-
  Layer 11 (lines), plain: additions, their steps, and an order in which all steps rise: one more addition, put in right behind its up, keeps one.
-/
import Derived.Test.YtjcihaohpbmogaaReach
namespace Go.Proofs.Ytjcihaohpbmogaa.Gr
set_option linter.unusedVariables false

/-- lines that were added between two -/
structure Ad (α : Type) where
  up : α
  down : α
  ids : List α
variable {α : Type} [DecidableEq α]
/-- the steps that an addition gives a vertex -/
def ext (a : Ad α) (v : α) : List α := (if a.up = v then a.ids.take 1 else []) ++ (if v ∈ a.ids then ((a.ids ++ [a.down]).drop (a.ids.idxOf v + 1)).take 1 else [])
def steps (top bot : α) (L : List (Ad α)) (v : α) : List α := (if v = top then [bot] else []) ++ L.flatMap fun a => ext a v
theorem steps_add (top bot : α) (L : List (Ad α)) (a : Ad α) (v : α) : steps top bot (L ++ [a]) v = steps top bot L v ++ ext a v := by
  unfold steps
  rw [List.flatMap_append, List.append_assoc]
  simp
/-- an order in which all steps rise, of vertices that are in it -/
def Rises (O : List α) (step : α → List α) : Prop := ∀ a b, b ∈ step a → a ∈ O ∧ b ∈ O ∧ O.idxOf a < O.idxOf b
theorem Rises.never {O : List α} {step : α → List α} (h : Rises O step) (a : α) : ¬ Reach step a a := Reach.never (fun x => O.idxOf x) (fun x y k => (h x y k).2.2) a
theorem Rises.lt {O : List α} {step : α → List α} (h : Rises O step) {a b : α} (k : Reach step a b) : O.idxOf a < O.idxOf b := k.rises (fun x => O.idxOf x) fun x y k => (h x y k).2.2
theorem Rises.ins {O : List α} {step : α → List α} (h : Rises O step) {a b : α} (k : Reach step a b) : a ∈ O ∧ b ∈ O := by
  induction k with
  | one h1 => exact ⟨(h _ _ h1).1, (h _ _ h1).2.1⟩
  | more _ h1 ih => exact ⟨ih.1, (h _ _ h1).2.1⟩
theorem mem_split {O : List α} {x : α} (h : x ∈ O) : ∃ l r, O = l ++ x :: r ∧ x ∉ l := by
  induction O with
  | nil => cases h
  | cons y O ih =>
    by_cases e : x = y
    · subst e; exact ⟨[], O, rfl, by simp⟩
    · rcases List.mem_cons.1 h with h | h
      · exact absurd h e
      · obtain ⟨l, r, e1, e2⟩ := ih h
        exact ⟨y :: l, r, by rw [e1]; rfl, by simp [e, e2]⟩
theorem idx_at {l r : List α} {x : α} (h : x ∉ l) : (l ++ x :: r).idxOf x = l.length := by
  rw [List.idxOf_append, if_neg h, List.idxOf_cons_self]
  omega
/-- where what was there stands behind the insertion -/
theorem idx_old {l r ids : List α} {u x : α} (hu : u ∉ l) (hx : x ∈ l ++ u :: r) (hi : x ∉ ids) :
    (l ++ u :: (ids ++ r)).idxOf x = (l ++ u :: r).idxOf x + (if l.length < (l ++ u :: r).idxOf x then ids.length else 0) := by
  by_cases h1 : x ∈ l
  · have e1 : (l ++ u :: r).idxOf x = l.idxOf x := by rw [List.idxOf_append, if_pos h1]
    have e2 : (l ++ u :: (ids ++ r)).idxOf x = l.idxOf x := by rw [List.idxOf_append, if_pos h1]
    have := List.idxOf_lt_length_of_mem h1
    rw [e1, e2, if_neg (by omega)]
    rfl
  · by_cases h2 : x = u
    · subst h2
      rw [idx_at h1, idx_at h1, if_neg (by omega)]
      rfl
    · have h2' : (u == x) = false := by simpa using fun e => h2 e.symm
      have e1 : (l ++ u :: r).idxOf x = r.idxOf x + 1 + l.length := by rw [List.idxOf_append, if_neg h1, List.idxOf_cons, h2']; rfl
      have e2 : (l ++ u :: (ids ++ r)).idxOf x = r.idxOf x + ids.length + 1 + l.length := by rw [List.idxOf_append, if_neg h1, List.idxOf_cons, h2']; show (ids ++ r).idxOf x + 1 + _ = _; rw [List.idxOf_append, if_neg hi]
      rw [e1, e2, if_pos (by omega)]
      omega
theorem idx_id {l r ids : List α} {u : α} {k : Nat} {x : α} (hl : x ∉ l) (hu : x ≠ u) (hn : ids.Nodup) (hx : ids[k]? = some x) : (l ++ u :: (ids ++ r)).idxOf x = l.length + 1 + k := by
  have hm : x ∈ ids := List.mem_of_getElem? hx
  have h2' : (u == x) = false := by simpa using fun e => hu e.symm
  have hk := (List.getElem?_eq_some_iff.1 hx).1
  have e : ids.idxOf x = k := by
    have h1 := List.idxOf_lt_length_of_mem hm
    have h3 : ids[ids.idxOf x]? = some x := by rw [List.getElem?_eq_getElem h1]; simp
    exact (List.getElem?_inj h1 hn).1 (h3.trans hx.symm)
  rw [List.idxOf_append, if_neg hl, List.idxOf_cons, h2']
  show (ids ++ r).idxOf x + 1 + _ = _
  rw [List.idxOf_append, if_pos hm, e]
  omega
/-- one more addition -/
theorem Rises.add {top bot : α} {L : List (Ad α)} {O : List α} (h : Rises O (steps top bot L)) (a : Ad α) (hu : a.up ∈ O) (hd : a.down ∈ O) (hud : O.idxOf a.up < O.idxOf a.down) (hf : ∀ x ∈ a.ids, x ∉ O) (hn : a.ids.Nodup) :
    ∃ l r, O = l ++ a.up :: r ∧ Rises (l ++ a.up :: (a.ids ++ r)) (steps top bot (L ++ [a])) := by
  obtain ⟨l, r, hO, hul⟩ := mem_split hu
  refine ⟨l, r, hO, fun x y hxy => ?_⟩
  have hin : ∀ z, z ∈ O → z ∈ l ++ a.up :: (a.ids ++ r) := fun z hz => by
    rw [hO] at hz
    rcases List.mem_append.1 hz with hz | hz
    · exact List.mem_append_left _ hz
    · rcases List.mem_cons.1 hz with rfl | hz
      · simp
      · simp [hz]
  have hni : ∀ z, z ∈ O → z ∉ a.ids := fun z hz hi => hf z hi hz
  have hold : ∀ z, z ∈ O → (l ++ a.up :: (a.ids ++ r)).idxOf z = O.idxOf z + (if l.length < O.idxOf z then a.ids.length else 0) := fun z hz => by
    rw [hO]
    exact idx_old hul (by rw [← hO]; exact hz) (hni z hz)
  have hidx : ∀ k z, a.ids[k]? = some z → (l ++ a.up :: (a.ids ++ r)).idxOf z = l.length + 1 + k := fun k z hz => by
    have hm := List.mem_of_getElem? hz
    have hzO := hf z hm
    rw [hO] at hzO
    simp only [List.mem_append, List.mem_cons, not_or] at hzO
    exact idx_id hzO.1 hzO.2.1 hn hz
  have hiu : O.idxOf a.up = l.length := by rw [hO]; exact idx_at hul
  rw [steps_add] at hxy
  rcases List.mem_append.1 hxy with h1 | h1
  · obtain ⟨hx, hy, hlt⟩ := h x y h1
    refine ⟨hin x hx, hin y hy, ?_⟩
    rw [hold x hx, hold y hy]
    split <;> split <;> omega
  · unfold ext at h1
    rcases List.mem_append.1 h1 with h1 | h1
    · split at h1
      · rename_i e
        obtain ⟨k, hk⟩ := List.getElem?_of_mem h1
        rw [List.getElem?_take] at hk
        split at hk
        · have : k = 0 := by omega
          subst this
          refine ⟨by rw [← e]; exact hin _ hu, ?_, ?_⟩
          · have := List.mem_of_getElem? hk
            simp [this]
          · rw [← e, hold _ hu, hiu, if_neg (by omega), hidx 0 y hk]
            omega
        · cases hk
      · cases h1
    · split at h1
      · rename_i hm
        have hxi : a.ids[a.ids.idxOf x]? = some x := by
          have h2 := List.idxOf_lt_length_of_mem hm
          rw [List.getElem?_eq_getElem h2]
          simp
        have hix := hidx _ x hxi
        obtain ⟨k, hk⟩ := List.getElem?_of_mem h1
        rw [List.getElem?_take] at hk
        split at hk
        · have : k = 0 := by omega
          subst this
          rw [List.getElem?_drop, Nat.add_zero] at hk
          refine ⟨by simp [hm], ?_, ?_⟩
          · rcases List.mem_append.1 (List.mem_of_getElem? hk) with h3 | h3
            · simp [h3]
            · rw [List.mem_singleton.1 h3]; exact hin _ hd
          · rw [hix]
            rcases Nat.lt_or_ge (a.ids.idxOf x + 1) a.ids.length with h3 | h3
            · rw [List.getElem?_append_left h3] at hk
              rw [hidx _ y hk]
              omega
            · have h4 := List.idxOf_lt_length_of_mem hm
              rw [List.getElem?_append_right h3] at hk
              have h5 : a.ids.idxOf x + 1 - a.ids.length = 0 := by omega
              rw [h5] at hk
              cases hk
              rw [hold _ hd, if_pos (by omega)]
              omega
        · cases hk
      · cases h1
#print axioms Rises.add
end Go.Proofs.Ytjcihaohpbmogaa.Gr
