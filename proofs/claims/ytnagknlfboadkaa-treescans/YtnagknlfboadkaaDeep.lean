/-
  Trees all of whose leaves are equally deep: their pairs as one list; nodes cut, joined, and mended. Of no program.
-/
import Derived.Test.YtnagknlfboadkaaTree
namespace Go.Proofs.Ytnagknlfboadkaa.Oct
open Go.RowKit

/-- a tree of depth d + 1 -/
def T : Nat → Type
  | 0 => List Pr
  | d + 1 => List Pr × List (T d)
/-- a root's own pairs -/
def prs : (d : Nat) → T d → List Pr
  | 0, t => t
  | _ + 1, t => t.1
/-- pairs with what stands behind them -/
def dn (ps : List Pr) (ls : List (List Pr)) : List Pr := (List.zipWith (fun p l => p :: l) ps ls).flatten
/-- pairs with what stands ahead of them -/
def upp (ls : List (List Pr)) (ps : List Pr) : List Pr := (List.zipWith (fun l p => l ++ [p]) ls ps).flatten
def inter : List (List Pr) → List Pr → List Pr
  | [], _ => []
  | l :: ls, ps => l ++ dn ps ls
/-- all pairs of a tree, in order -/
def tl : (d : Nat) → T d → List Pr
  | 0, t => t
  | d + 1, t => inter (t.2.map (tl d)) t.1
/-- kids are not too small and not too great, and one more than pairs -/
def WF : (d : Nat) → T d → Prop
  | 0, _ => True
  | d + 1, t => t.2.length = t.1.length + 1 ∧ ∀ k ∈ t.2, WF d k ∧ 3 ≤ (prs d k).length ∧ (prs d k).length ≤ 7

theorem dn_app {p1 p2 : List Pr} {l1 l2 : List (List Pr)} (h : p1.length = l1.length) : dn (p1 ++ p2) (l1 ++ l2) = dn p1 l1 ++ dn p2 l2 := by
  unfold dn; rw [List.zipWith_append h, List.flatten_append]
theorem upp_app {p1 p2 : List Pr} {l1 l2 : List (List Pr)} (h : l1.length = p1.length) : upp (l1 ++ l2) (p1 ++ p2) = upp l1 p1 ++ upp l2 p2 := by
  unfold upp; rw [List.zipWith_append h, List.flatten_append]
/-- a node's pairs at one of its kids -/
theorem inter_at : ∀ {ls : List (List Pr)} {ps : List Pr} (i : Nat) (l : List Pr), ls.length = ps.length + 1 → ls[i]? = some l → inter ls ps = upp (ls.take i) (ps.take i) ++ l ++ dn (ps.drop i) (ls.drop (i + 1))
  | [], _, i, l, _, h => by simp at h
  | a :: ls, ps, 0, l, hl, h => by
    simp at h; subst h
    simp [inter, upp]
  | a :: ls, [], i + 1, l, hl, h => by
    have : ls = [] := by simpa using hl
    subst this
    simp at h
  | a :: ls, p :: ps, i + 1, l, hl, h => by
    have hl' : ls.length = ps.length + 1 := by simpa using hl
    have h' : ls[i]? = some l := by simpa using h
    have ih := inter_at i l hl' h'
    cases ls with
    | nil => simp at h'
    | cons b ls =>
      have e1 : inter (a :: b :: ls) (p :: ps) = a ++ [p] ++ inter (b :: ls) ps := by simp [inter, dn]
      rw [e1, ih]
      simp [upp]
theorem inter_join {l1 l2 : List (List Pr)} {p1 p2 : List Pr} {p : Pr} (h1 : l1.length = p1.length + 1) (h2 : l2 ≠ []) : inter (l1 ++ l2) (p1 ++ p :: p2) = inter l1 p1 ++ p :: inter l2 p2 := by
  cases l1 with
  | nil => simp at h1
  | cons a l1 =>
    cases l2 with
    | nil => exact absurd rfl h2
    | cons b l2 =>
      have hl : p1.length = l1.length := by simpa using h1.symm
      show a ++ dn (p1 ++ p :: p2) (l1 ++ b :: l2) = (a ++ dn p1 l1) ++ p :: (b ++ dn p2 l2)
      rw [dn_app hl]
      simp [dn]
/-- one kid in another one's place -/
theorem inter_set {ls : List (List Pr)} {ps : List Pr} {i : Nat} {l l' : List Pr} (hl : ls.length = ps.length + 1) (h : ls[i]? = some l) : inter (ls.take i ++ [l'] ++ ls.drop (i + 1)) ps = upp (ls.take i) (ps.take i) ++ l' ++ dn (ps.drop i) (ls.drop (i + 1)) := by
  have hi := (List.getElem?_eq_some_iff.1 h).1
  have e : (ls.take i ++ [l'] ++ ls.drop (i + 1))[i]? = some l' := by
    rw [List.append_assoc, List.getElem?_append_right (by rw [List.length_take]; omega), List.length_take]
    simp [Nat.min_eq_left (Nat.le_of_lt hi)]
  have e2 : (ls.take i ++ [l'] ++ ls.drop (i + 1)).length = ps.length + 1 := by simp; omega
  rw [inter_at i l' e2 e]
  have e3 : (ls.take i ++ [l'] ++ ls.drop (i + 1)).take i = ls.take i := by
    rw [List.append_assoc, List.take_append_of_le_length (by rw [List.length_take]; omega), List.take_take]; simp
  have e4 : (ls.take i ++ [l'] ++ ls.drop (i + 1)).drop (i + 1) = ls.drop (i + 1) := by
    rw [List.drop_append, List.drop_eq_nil_of_le (by simp; omega)]
    simp [Nat.min_eq_left (Nat.le_of_lt hi)]
  rw [e3, e4]
/-- two kids, with a pair between them, in one's place -/
theorem inter_two {ls : List (List Pr)} {ps : List Pr} {i : Nat} {l a b : List Pr} {m : Pr} (hl : ls.length = ps.length + 1) (h : ls[i]? = some l) :
    inter (ls.take i ++ [a, b] ++ ls.drop (i + 1)) (ps.take i ++ [m] ++ ps.drop i) = upp (ls.take i) (ps.take i) ++ (a ++ m :: b) ++ dn (ps.drop i) (ls.drop (i + 1)) := by
  have hi := (List.getElem?_eq_some_iff.1 h).1
  have e1 : ls.take i ++ [a, b] ++ ls.drop (i + 1) = (ls.take i ++ [a]) ++ (b :: ls.drop (i + 1)) := by simp
  have e2 : ps.take i ++ [m] ++ ps.drop i = ps.take i ++ m :: ps.drop i := by simp
  rw [e1, e2, inter_join (by simp; omega) (by simp)]
  have e3 : inter (ls.take i ++ [a]) (ps.take i) = upp (ls.take i) (ps.take i) ++ a := by
    have hx : (ls.take i ++ [a])[i]? = some a := by
      rw [List.getElem?_append_right (by rw [List.length_take]; omega), List.length_take]; simp [Nat.min_eq_left (Nat.le_of_lt hi)]
    rw [inter_at i a (by simp; omega) hx]
    have k1 : (ls.take i ++ [a]).take i = ls.take i := by
      rw [List.take_append_of_le_length (by rw [List.length_take]; omega), List.take_take]; simp
    have k2 : (ls.take i ++ [a]).drop (i + 1) = [] := List.drop_eq_nil_of_le (by simp; omega)
    rw [k1, k2, List.take_take]
    simp [dn]
  rw [e3]
  simp [inter]
/-- a node cut in two -/
theorem inter_cut {ls : List (List Pr)} {ps : List Pr} {i : Nat} {p : Pr} (hl : ls.length = ps.length + 1) (h : ps[i]? = some p) :
    inter ls ps = inter (ls.take (i + 1)) (ps.take i) ++ p :: inter (ls.drop (i + 1)) (ps.drop (i + 1)) := by
  obtain ⟨hi, e⟩ := List.getElem?_eq_some_iff.1 h
  have e1 : ps = ps.take i ++ p :: ps.drop (i + 1) := by rw [← e, ← List.drop_eq_getElem_cons hi, List.take_append_drop]
  have e2 : ls = ls.take (i + 1) ++ ls.drop (i + 1) := (List.take_append_drop _ _).symm
  have hne : ls.drop (i + 1) ≠ [] := by
    intro h0
    have := congrArg List.length h0
    simp at this; omega
  have := inter_join (p := p) (p1 := ps.take i) (p2 := ps.drop (i + 1)) (l1 := ls.take (i + 1)) (l2 := ls.drop (i + 1)) (by simp; omega) hne
  rw [← e1, ← e2] at this
  exact this
theorem mem_upp {ls : List (List Pr)} {ps : List Pr} {x : Pr} (h : x ∈ ps) (hl : ps.length ≤ ls.length) : x ∈ upp ls ps := by
  obtain ⟨i, hi, rfl⟩ := List.mem_iff_getElem.1 h
  unfold upp
  rw [List.mem_flatten]
  refine ⟨ls[i] ++ [ps[i]], ?_, by simp⟩
  rw [List.mem_iff_getElem]
  exact ⟨i, by simp; omega, by simp⟩
theorem mem_dn {ls : List (List Pr)} {ps : List Pr} {x : Pr} (h : x ∈ ps) (hl : ps.length ≤ ls.length) : x ∈ dn ps ls := by
  obtain ⟨i, hi, rfl⟩ := List.mem_iff_getElem.1 h
  unfold dn
  rw [List.mem_flatten]
  refine ⟨ps[i] :: ls[i], ?_, by simp⟩
  rw [List.mem_iff_getElem]
  exact ⟨i, by simp; omega, by simp⟩
#print axioms inter_cut
end Go.Proofs.Ytnagknlfboadkaa.Oct
