/-
  Layer 11 (lines), plain: what a vertex is ahead of: steps, and the list that goes on from each of its own.
-/
namespace Go.Proofs.Ytjcihaohpbmogaa.Gr
set_option linter.unusedVariables false

/-- steps lead from one to another -/
inductive Reach {α : Type} (step : α → List α) : α → α → Prop
  | one {a b : α} : b ∈ step a → Reach step a b
  | more {a b c : α} : Reach step a b → c ∈ step b → Reach step a c
theorem Reach.trans {α : Type} {step : α → List α} {a b c : α} (h : Reach step a b) (k : Reach step b c) : Reach step a c := by
  induction k with
  | one h2 => exact .more h h2
  | more _ h2 ih => exact .more ih h2
theorem Reach.front {α : Type} {step : α → List α} {a b c : α} (h : b ∈ step a) (k : Reach step b c) : Reach step a c := Reach.trans (.one h) k
/-- those of the next that are not there yet are put behind, one after another -/
def join {α : Type} [DecidableEq α] : List α → List α → List α
  | out, [] => out
  | out, c :: l => join (if c ∈ out then out else out ++ [c]) l
theorem join_old {α : Type} [DecidableEq α] : ∀ (l out : List α) (x : α), x ∈ out → x ∈ join out l
  | [], out, x, h => h
  | c :: l, out, x, h => by
    unfold join
    refine join_old l _ x ?_
    split
    · exact h
    · exact List.mem_append_left _ h
theorem join_new {α : Type} [DecidableEq α] : ∀ (l out : List α) (x : α), x ∈ l → x ∈ join out l
  | [], out, x, h => by cases h
  | c :: l, out, x, h => by
    unfold join
    rcases List.mem_cons.1 h with rfl | h
    · refine join_old l _ x ?_
      split
      · assumption
      · exact List.mem_append_right _ (List.mem_singleton.2 rfl)
    · exact join_new l _ x h
theorem join_mem {α : Type} [DecidableEq α] : ∀ (l out : List α) (x : α), x ∈ join out l → x ∈ out ∨ x ∈ l
  | [], out, x, h => .inl h
  | c :: l, out, x, h => by
    unfold join at h
    rcases join_mem l _ x h with h | h
    · split at h
      · exact .inl h
      · rcases List.mem_append.1 h with h | h
        · exact .inl h
        · rw [List.mem_singleton.1 h]; exact .inr (by simp)
    · exact .inr (List.mem_cons_of_mem _ h)
theorem join_prefix {α : Type} [DecidableEq α] : ∀ (l out : List α), ∃ r, join out l = out ++ r
  | [], out => ⟨[], (List.append_nil _).symm⟩
  | c :: l, out => by
    unfold join
    split
    · exact join_prefix l out
    · obtain ⟨r, h⟩ := join_prefix l (out ++ [c])
      exact ⟨c :: r, by rw [h, List.append_assoc]; rfl⟩
theorem join_nodup {α : Type} [DecidableEq α] : ∀ (l out : List α), out.Nodup → (join out l).Nodup
  | [], out, h => h
  | c :: l, out, h => by
    unfold join
    refine join_nodup l _ ?_
    split
    · exact h
    · rename_i hc
      rw [List.nodup_append]
      exact ⟨h, by simp, fun x hx y hy e => by rw [List.mem_singleton.1 hy] at e; subst e; exact hc hx⟩
/-- what the loop that gathers keeps: all are reached, and the steps of those that were gone through are there -/
structure Gath {α : Type} (step : α → List α) (a : α) (i : Nat) (out : List α) : Prop where
  reach : ∀ x ∈ out, Reach step a x
  first : ∀ x ∈ step a, x ∈ out
  done : ∀ j x, j < i → out[j]? = some x → ∀ c ∈ step x, c ∈ out
theorem Gath.start {α : Type} (step : α → List α) (a : α) : Gath step a 0 (step a) := ⟨fun x h => .one h, fun x h => h, fun j x hj => absurd hj (Nat.not_lt_zero _)⟩
theorem Gath.next {α : Type} [DecidableEq α] {step : α → List α} {a : α} {i : Nat} {out : List α} (h : Gath step a i out) {x : α} (hx : out[i]? = some x) : Gath step a (i + 1) (join out (step x)) := by
  have hm : x ∈ out := List.mem_of_getElem? hx
  refine ⟨fun y hy => ?_, fun y hy => join_old _ _ _ (h.first y hy), fun j y hj hy c hc => ?_⟩
  · rcases join_mem _ _ _ hy with h1 | h1
    · exact h.reach y h1
    · exact .more (h.reach x hm) h1
  · obtain ⟨r, hr⟩ := join_prefix (step x) out
    have hil : i < out.length := (List.getElem?_eq_some_iff.1 hx).1
    have e : out[j]? = some y := by rw [hr, List.getElem?_append_left (by omega)] at hy; exact hy
    rcases Nat.lt_or_ge j i with h1 | h1
    · exact join_old _ _ _ (h.done j y h1 e c hc)
    · have : j = i := by omega
      subst this
      rw [hx] at e
      cases e
      exact join_new _ _ _ hc
/-- at its end the list holds just what is reached -/
theorem Gath.all {α : Type} {step : α → List α} {a : α} {i : Nat} {out : List α} (h : Gath step a i out) (hi : out.length ≤ i) (x : α) : x ∈ out ↔ Reach step a x := by
  refine ⟨h.reach x, fun k => ?_⟩
  induction k with
  | one h1 => exact h.first _ h1
  | more _ h1 ih =>
    obtain ⟨j, hj⟩ := List.getElem?_of_mem ih
    have := (List.getElem?_eq_some_iff.1 hj).1
    exact h.done j _ (by omega) hj _ h1
/-- the way back: who leads to a vertex, gone through from its end -/
theorem Reach.back {α : Type} {step from_ : α → List α} (h : ∀ a b, b ∈ step a ↔ a ∈ from_ b) {a b : α} : Reach step a b ↔ Reach from_ b a := by
  constructor
  · intro k
    induction k with
    | one h1 => exact .one ((h _ _).1 h1)
    | more _ h1 ih => exact Reach.front ((h _ _).1 h1) ih
  · intro k
    induction k with
    | one h1 => exact .one ((h _ _).2 h1)
    | more _ h1 ih => exact Reach.front ((h _ _).2 h1) ih
/-- an order that all steps rise in: no vertex is ahead of itself -/
theorem Reach.rises {α : Type} {step : α → List α} (f : α → Nat) (h : ∀ a b, b ∈ step a → f a < f b) {a b : α} (k : Reach step a b) : f a < f b := by
  induction k with
  | one h1 => exact h _ _ h1
  | more _ h1 ih => exact Nat.lt_trans ih (h _ _ h1)
theorem Reach.never {α : Type} {step : α → List α} (f : α → Nat) (h : ∀ a b, b ∈ step a → f a < f b) (a : α) : ¬ Reach step a a := fun k => Nat.lt_irrefl _ (k.rises f h)
#print axioms Gath.all
end Go.Proofs.Ytjcihaohpbmogaa.Gr
