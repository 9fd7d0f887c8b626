/-
  Layer 11 (lines), plain: the document's order is the one in which lines are told.
-/
import Derived.Test.YtjcihaohpbmogaaOdr
namespace Go.Proofs.Ytjcihaohpbmogaa.Gr
set_option linter.unusedVariables false
set_option linter.unusedSectionVars false
variable {α : Type} [DecidableEq α]

/-- the document's: those that may be told -/
def dready (beh : α → List α) (all out : List α) : List α := all.filter fun n => decide (n ∉ out) && all.all fun k => decide (k ∈ out) || decide (n ∉ beh k)
def dnear (step : α → List α) (last : α) (ready : List α) : List α := if (ready.filter fun n => decide (n ∈ step last)) = [] then ready else ready.filter fun n => decide (n ∈ step last)
def dpick (lt : α → α → Bool) : List α → Option α
  | [] => none
  | m :: l => some (minOf lt m l)
def dnext (lt : α → α → Bool) (step beh : α → List α) (all out : List α) (last : α) : Option α := dpick lt (dnear step last (dready beh all out))
def drun (lt : α → α → Bool) (step beh : α → List α) (all : List α) : Nat → List α → α → List α
  | 0, out, _ => out
  | k + 1, out, last => match dnext lt step beh all out last with
    | none => out
    | some n => drun lt step beh all k (out ++ [n]) n
theorem dready_mem {step beh : α → List α} (hb : ∀ a x, x ∈ beh a ↔ Reach step a x) {all out : List α} {n : α} : n ∈ dready beh all out ↔ n ∈ all ∧ n ∉ out ∧ ∀ k ∈ all, k ∉ out → ¬ Reach step k n := by
  simp only [dready, List.mem_filter, Bool.and_eq_true, decide_eq_true_eq, List.all_eq_true, Bool.or_eq_true, hb]
  constructor
  · rintro ⟨h1, h2, h3⟩
    exact ⟨h1, h2, fun k hk hn => (h3 k hk).resolve_left hn⟩
  · rintro ⟨h1, h2, h3⟩
    exact ⟨h1, h2, fun k hk => (Classical.em (k ∈ out)).imp id (h3 k hk)⟩
/-- the first of a rising list with a property is the least of those that have it, in whatever order they are -/
theorem find_pick {lt : α → α → Bool} (ht : ∀ a b c, lt a b = true → lt b c = true → lt a c = true) (hi : ∀ a, lt a a = false) {S l : List α} {p : α → Bool} (hS : S.Pairwise fun a b => lt a b = true) (hm : ∀ x, x ∈ l ↔ x ∈ S ∧ p x = true) : S.find? p = dpick lt l := by
  cases l with
  | nil =>
    rw [show dpick lt ([] : List α) = none from rfl, List.find?_eq_none]
    intro x hx hp
    have := (hm x).2 ⟨hx, hp⟩
    cases this
  | cons m l =>
    have h1 : (S.filter p).Pairwise fun a b => lt a b = true := hS.filter p
    cases hf : S.filter p with
    | nil =>
      have := (hm m).1 (by simp)
      have h2 : m ∈ S.filter p := List.mem_filter.2 this
      rw [hf] at h2
      cases h2
    | cons h T =>
      rw [hf] at h1
      have h2 : S.find? p = some h := by
        rw [← List.head?_filter, hf]; rfl
      rw [h2]
      show some h = some (minOf lt m l)
      rw [least_first lt ht hi h1 (fun x => by rw [hm, ← List.mem_filter, hf])]
theorem next_doc {lt : α → α → Bool} (ht : ∀ a b c, lt a b = true → lt b c = true → lt a c = true) (hi : ∀ a, lt a a = false)
    {step fl beh : α → List α} {vs all told : List α} {top last : α} (hF : From step vs fl) (hs : Stays step vs) (hb : ∀ a x, x ∈ beh a ↔ Reach step a x) (hv : vs.Pairwise fun a b => lt a b = true) (hm : ∀ x, x ∈ all ↔ x ∈ vs)
    (hp : ∀ n ∈ vs, n ∈ step top ∨ ∃ u ∈ vs, n ∈ step u) (hT : Told step vs told) (hl : last = told.getLast?.getD top) : nxt fl vs told = dnext lt step beh all told last := by
  have hrd : ∀ n, n ∈ dready beh all told ↔ n ∈ lft vs told ∧ rdy fl told n = true := fun n => by
    rw [dready_mem hb, lft_mem, hm]
    constructor
    · rintro ⟨h1, h2, h3⟩
      refine ⟨⟨h1, h2⟩, (rdy_from hF h1).2 ((free_iff hT.cl hs n).2 fun k hk => h3 k ((hm k).2 hk))⟩
    · rintro ⟨⟨h1, h2⟩, h3⟩
      exact ⟨h1, h2, fun k hk => (free_iff hT.cl hs n).1 ((rdy_from hF h1).1 h3) k ((hm k).1 hk)⟩
  have hlv : (lft vs told).Pairwise fun a b => lt a b = true := hv.filter _
  have e2 : (lft vs told).find? (fun n => rdy fl told n) = dpick lt (dready beh all told) := find_pick ht hi hlv hrd
  unfold nxt dnext dnear
  cases hl2 : told.getLast? with
  | none =>
    have h0 : told = [] := List.getLast?_eq_none_iff.1 hl2
    have hflw : ∀ n, flw fl told n = false := fun n => by unfold flw; rw [hl2]
    have e1 : (lft vs told).find? (fun n => rdy fl told n && flw fl told n) = none := by
      rw [List.find?_eq_none]
      intro n _
      rw [hflw, Bool.and_false]
      decide
    rw [e1, e2]
    show dpick lt (dready beh all told) = _
    rw [hl2] at hl
    have hall : (dready beh all told).filter (fun n => decide (n ∈ step last)) = dready beh all told := by
      rw [List.filter_eq_self]
      intro n hn
      have h1 := (hrd n).1 hn
      rw [hl]
      refine decide_eq_true ?_
      rcases hp n (lft_mem.1 h1.1).1 with h2 | ⟨u, hu, h2⟩
      · exact h2
      · have := (rdy_from hF (lft_mem.1 h1.1).1).1 h1.2 u hu h2
        rw [h0] at this
        cases this
    rw [hall]
    split
    · rfl
    · rfl
  | some l =>
    rw [hl2] at hl
    have hlast : last = l := hl
    subst hlast
    have hlm : last ∈ told := List.mem_of_getLast? hl2
    have hflw : ∀ n ∈ vs, flw fl told n = decide (n ∈ step last) := fun n hn => by
      unfold flw
      rw [hl2]
      refine decide_eq_decide.2 ?_
      rw [hF n hn]
      exact ⟨fun h => h.2, fun h => ⟨hT.sub _ hlm, h⟩⟩
    have e1 : (lft vs told).find? (fun n => rdy fl told n && flw fl told n) = dpick lt ((dready beh all told).filter fun n => decide (n ∈ step last)) := by
      refine find_pick ht hi hlv fun x => ?_
      rw [List.mem_filter, hrd, Bool.and_eq_true]
      constructor
      · rintro ⟨⟨h1, h2⟩, h3⟩
        exact ⟨h1, h2, by rw [hflw x (lft_mem.1 h1).1]; exact h3⟩
      · rintro ⟨h1, h2, h3⟩
        exact ⟨⟨h1, h2⟩, by rw [hflw x (lft_mem.1 h1).1] at h3; exact h3⟩
    rw [e1]
    cases hf : (dready beh all told).filter fun n => decide (n ∈ step last) with
    | nil => rw [if_pos rfl]; exact e2
    | cons m t => rw [if_neg (by simp)]; rfl
theorem run_doc {lt : α → α → Bool} (ht : ∀ a b c, lt a b = true → lt b c = true → lt a c = true) (hi : ∀ a, lt a a = false)
    {step fl beh : α → List α} {vs all : List α} {top : α} (hF : From step vs fl) (hs : Stays step vs) (hb : ∀ a x, x ∈ beh a ↔ Reach step a x) (hv : vs.Pairwise fun a b => lt a b = true) (hm : ∀ x, x ∈ all ↔ x ∈ vs)
    (hp : ∀ n ∈ vs, n ∈ step top ∨ ∃ u ∈ vs, n ∈ step u) : ∀ (k : Nat) (told : List α) (last : α), Told step vs told → last = told.getLast?.getD top → run fl vs k told = drun lt step beh all k told last
  | 0, _, _, _, _ => rfl
  | k + 1, told, last, hT, hl => by
    unfold run drun
    rw [next_doc ht hi hF hs hb hv hm hp hT hl]
    cases hn : dnext lt step beh all told last with
    | none => rfl
    | some n =>
      rw [← next_doc ht hi hF hs hb hv hm hp hT hl] at hn
      exact run_doc ht hi hF hs hb hv hm hp k _ n (hT.add hF hs hn) (by simp)
#print axioms run_doc
end Go.Proofs.Ytjcihaohpbmogaa.Gr
