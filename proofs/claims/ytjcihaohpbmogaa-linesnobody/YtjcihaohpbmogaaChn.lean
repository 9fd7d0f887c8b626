/-
  Layer 11 (lines), plain: two lists that rise and hold the same are the same; two additions in either order.
-/
import Derived.Test.YtjcihaohpbmogaaShw
namespace Go.Proofs.Ytjcihaohpbmogaa.Gr
set_option linter.unusedVariables false

theorem rising_same {α : Type} (f : α → Nat) : ∀ (l r : List α), l.Pairwise (fun a b => f a < f b) → r.Pairwise (fun a b => f a < f b) → (∀ x, x ∈ l ↔ x ∈ r) → l = r
  | [], [], _, _, _ => rfl
  | [], y :: r, _, _, h => by have := (h y).2 (by simp); cases this
  | x :: l, [], _, _, h => by have := (h x).1 (by simp); cases this
  | x :: l, y :: r, hl, hr, h => by
    rw [List.pairwise_cons] at hl hr
    have hxy : x = y := by
      refine Classical.byContradiction fun hne => ?_
      have h1 : x ∈ r := by
        rcases List.mem_cons.1 ((h x).1 (by simp)) with e | e
        · exact absurd e hne
        · exact e
      have h2 : y ∈ l := by
        rcases List.mem_cons.1 ((h y).2 (by simp)) with e | e
        · exact absurd e.symm hne
        · exact e
      have := hl.1 y h2
      have := hr.1 x h1
      omega
    subst hxy
    congr 1
    refine rising_same f l r hl.2 hr.2 fun z => ?_
    constructor
    · intro hz
      rcases List.mem_cons.1 ((h z).1 (List.mem_cons_of_mem _ hz)) with e | e
      · subst e; exact absurd (hl.1 z hz) (Nat.lt_irrefl _)
      · exact e
    · intro hz
      rcases List.mem_cons.1 ((h z).2 (List.mem_cons_of_mem _ hz)) with e | e
      · subst e; exact absurd (hr.1 z hz) (Nat.lt_irrefl _)
      · exact e
/-- a chain of lines that all are ahead of the next ones stands so in each order in which steps rise -/
theorem chain_shown {α : Type} {step : α → List α} (f : α → Nat) (hf : ∀ a b, b ∈ step a → f a < f b) {C S : List α} (hC : C.Pairwise (Reach step)) (hS : S.Pairwise (fun a b => f a < f b)) (hm : ∀ x, x ∈ C ↔ x ∈ S) : C = S :=
  rising_same f C S (hC.imp fun h => h.rises f hf) hS hm
theorem steps_swap {α : Type} [DecidableEq α] (top bot : α) (L : List (Ad α)) (a b : Ad α) (v x : α) : x ∈ steps top bot (L ++ [a] ++ [b]) v ↔ x ∈ steps top bot (L ++ [b] ++ [a]) v := by
  rw [steps_add, steps_add, steps_add, steps_add]
  simp only [List.mem_append]
  constructor
  · rintro ((h | h) | h)
    · exact .inl (.inl h)
    · exact .inr h
    · exact .inl (.inr h)
  · rintro ((h | h) | h)
    · exact .inl (.inl h)
    · exact .inr h
    · exact .inl (.inr h)
theorem reach_swap {α : Type} [DecidableEq α] (top bot : α) (L : List (Ad α)) (a b : Ad α) (x y : α) : Reach (steps top bot (L ++ [a] ++ [b])) x y ↔ Reach (steps top bot (L ++ [b] ++ [a])) x y :=
  ⟨Reach.sub fun u v h => (steps_swap top bot L a b u v).1 h, Reach.sub fun u v h => (steps_swap top bot L a b u v).2 h⟩
#print axioms chain_shown
end Go.Proofs.Ytjcihaohpbmogaa.Gr
