/-
  Layer 20 (review): texts in their order, each once: plain facts.
-/
import Derived.Test.YtaecigpjcbjcbaaVtr
namespace Go.Proofs.Ytaecigpjcbjcbaa.Oct
open Go.RowKit

theorem lt_irr (a : Hs) : ¬ a < a := List.lt_irrefl a
theorem lt_tr {a b c : Hs} (h : a < b) (k : b < c) : a < c := List.lt_trans h k
theorem lt_or (a b : Hs) : a < b ∨ a = b ∨ b < a := by
  rcases List.le_total a b with h | h
  · by_cases e : a = b
    · exact .inr (.inl e)
    · left
      exact Classical.not_not.1 fun hn => e (List.le_antisymm h hn)
  · by_cases e : a = b
    · exact .inr (.inl e)
    · right; right
      exact Classical.not_not.1 fun hn => e (List.le_antisymm hn h)
/-- rising, each once -/
def Rise (l : List Hs) : Prop := l.Pairwise (· < ·)
/-- one more text, in its place -/
def withL (s : Hs) : List Hs → List Hs
  | [] => [s]
  | x :: l => if x < s then x :: withL s l else if x = s then x :: l else s :: x :: l
theorem mem_with (s x : Hs) : ∀ l, x ∈ withL s l ↔ x = s ∨ x ∈ l
  | [] => by simp [withL]
  | y :: l => by
    have ih := mem_with s x l
    unfold withL
    split
    · simp only [List.mem_cons, ih]
      constructor
      · rintro (h | h | h)
        · exact .inr (.inl h)
        · exact .inl h
        · exact .inr (.inr h)
      · rintro (h | h | h)
        · exact .inr (.inl h)
        · exact .inl h
        · exact .inr (.inr h)
    · split
      · rename_i e
        subst e
        simp only [List.mem_cons]
        constructor
        · exact .inr
        · rintro (h | h)
          · exact .inl h
          · exact h
      · simp only [List.mem_cons]
theorem rise_with (s : Hs) : ∀ {l : List Hs}, Rise l → Rise (withL s l)
  | [], _ => by simp [withL, Rise]
  | y :: l, h => by
    have hh := List.pairwise_cons.1 h
    unfold withL
    split
    · rename_i hlt
      refine List.pairwise_cons.2 ⟨fun z hz => ?_, rise_with s hh.2⟩
      rcases (mem_with s z l).1 hz with rfl | hz
      · exact hlt
      · exact hh.1 z hz
    · split
      · exact h
      · rename_i h1 h2
        have hs : s < y := by
          rcases lt_or y s with e | e | e
          · exact absurd e h1
          · exact absurd e h2
          · exact e
        refine List.pairwise_cons.2 ⟨fun z hz => ?_, h⟩
        rcases List.mem_cons.1 hz with rfl | hz
        · exact hs
        · exact lt_tr hs (hh.1 z hz)
theorem Rise.nodup {l : List Hs} (h : Rise l) : l.Nodup := List.Pairwise.imp (fun {a b} hab e => by subst e; exact lt_irr a hab) h
/-- rising lists of the same members are one -/
theorem rise_eq : ∀ {a b : List Hs}, Rise a → Rise b → (∀ x, x ∈ a ↔ x ∈ b) → a = b
  | [], [], _, _, _ => rfl
  | [], y :: b, _, _, h => by have := (h y).2 (by simp); cases this
  | x :: a, [], _, _, h => by have := (h x).1 (by simp); cases this
  | x :: a, y :: b, ha, hb, h => by
    have ha' := List.pairwise_cons.1 ha
    have hb' := List.pairwise_cons.1 hb
    have e : x = y := by
      rcases List.mem_cons.1 ((h x).1 (by simp)) with e | hx
      · exact e
      · rcases List.mem_cons.1 ((h y).2 (by simp)) with e | hy
        · exact e.symm
        · exact absurd (lt_tr (ha'.1 y hy) (hb'.1 x hx)) (lt_irr x)
    subst e
    refine congrArg (x :: ·) (rise_eq ha'.2 hb'.2 fun z => ?_)
    constructor
    · intro hz
      rcases List.mem_cons.1 ((h z).1 (List.mem_cons_of_mem _ hz)) with e | hz'
      · exact absurd (e ▸ ha'.1 z hz) (lt_irr z)
      · exact hz'
    · intro hz
      rcases List.mem_cons.1 ((h z).2 (List.mem_cons_of_mem _ hz)) with e | hz'
      · exact absurd (e ▸ hb'.1 z hz) (lt_irr z)
      · exact hz'
theorem rise_sort {l : List Hs} (h : l.Nodup) : Rise (sortK l) ∧ ∀ x, x ∈ sortK l ↔ x ∈ l := by
  have hp : (sortK l).Perm l := List.mergeSort_perm _ _
  refine ⟨?_, fun x => hp.mem_iff⟩
  have hs : (sortK l).Pairwise (fun a b => decide (a ≤ b) = true) := List.pairwise_mergeSort (fun a b c h1 h2 => by simp only [decide_eq_true_eq] at *; exact List.le_trans h1 h2) (fun a b => by simp only [Bool.or_eq_true, decide_eq_true_eq]; exact List.le_total a b) l
  have hn : (sortK l).Nodup := (hp.nodup_iff).2 h
  refine List.Pairwise.imp₂ (fun a b h1 h2 => ?_) hs hn
  have h1' : a ≤ b := by simpa using h1
  rcases lt_or a b with e | e | e
  · exact e
  · exact absurd e h2
  · exact absurd e h1'
/-- nodup lists of the same members are as long -/
theorem len_eq {a b : List Hs} (ha : a.Nodup) (hb : b.Nodup) (h : ∀ x, x ∈ a ↔ x ∈ b) : a.length = b.length := ((List.perm_ext_iff_of_nodup ha hb).2 h).length_eq
#print axioms rise_sort
end Go.Proofs.Ytaecigpjcbjcbaa.Oct
