/-
  Trees: where a key stands in a node's kids; what becomes of the list. Of no program.
-/
import Derived.Test.YtnagknlfboadkaaDeep
namespace Go.Proofs.Ytnagknlfboadkaa.Oct
open Go.RowKit

theorem upp_L {key : ByteArray} : ∀ {ls : List (List Pr)} {ps : List Pr}, ls.length = ps.length → Ris (upp ls ps) → AllL key ps → AllL key (upp ls ps)
  | [], [], _, _, _ => by intro x hx; simp [upp] at hx
  | [], _ :: _, h, _, _ => by simp at h
  | _ :: _, [], h, _, _ => by simp at h
  | l :: ls, p :: ps, h, hr, hL => by
    have e : upp (l :: ls) (p :: ps) = l ++ p :: upp ls ps := by simp [upp]
    rw [e] at hr ⊢
    have hp : Lt p.1 key = true := hL p (by simp)
    have ih := upp_L (by simpa using h) (List.pairwise_cons.1 hr.right).2 (hL.of (fun x hx => List.mem_cons_of_mem _ hx))
    intro x hx
    rcases List.mem_append.1 hx with hx | hx
    · exact lt_trans (hr.split.1 x hx) hp
    · rcases List.mem_cons.1 hx with rfl | hx
      · exact hp
      · exact ih x hx
theorem dn_G {key : ByteArray} : ∀ {ps : List Pr} {ls : List (List Pr)}, ps.length = ls.length → Ris (dn ps ls) → AllG key ps → AllG key (dn ps ls)
  | [], [], _, _, _ => by intro x hx; simp [dn] at hx
  | [], _ :: _, h, _, _ => by simp at h
  | _ :: _, [], h, _, _ => by simp at h
  | p :: ps, l :: ls, h, hr, hG => by
    have e : dn (p :: ps) (l :: ls) = p :: (l ++ dn ps ls) := by simp [dn]
    rw [e] at hr ⊢
    have hp : Lt key p.1 = true := hG p (by simp)
    have hr2 := List.pairwise_cons.1 hr
    have ih := dn_G (by simpa using h) (List.pairwise_append.1 hr2.2).2.1 (hG.of (fun x hx => List.mem_cons_of_mem _ hx))
    intro x hx
    rcases List.mem_cons.1 hx with rfl | hx
    · exact hp
    · exact lt_trans hp (hr2.1 x hx)

/-- a node's own pairs rise -/
theorem ris_own {d : Nat} {t : T (d + 1)} (h : Ris (tl (d + 1) t)) (hl : t.2.length = t.1.length + 1) : Ris t.1 := by
  have hs : t.1.Sublist (tl (d + 1) t) := by
    show t.1.Sublist (inter (t.2.map (tl d)) t.1)
    obtain ⟨ps, ts⟩ := t
    cases ts with
    | nil => simp at hl
    | cons a ts =>
      have hl' : ps.length = ts.length := by simpa using hl.symm
      show ps.Sublist (tl d a ++ dn ps (ts.map (tl d)))
      refine List.Sublist.trans ?_ (List.sublist_append_right _ _)
      clear h hl
      induction ps generalizing ts with
      | nil => simp
      | cons p ps ih =>
        cases ts with
        | nil => simp at hl'
        | cons b ts =>
          have e : dn (p :: ps) (List.map (tl d) (b :: ts)) = p :: (tl d b ++ dn ps (ts.map (tl d))) := by simp [dn]
          rw [e]
          exact List.Sublist.cons_cons _ ((ih ts (by simpa using hl')).trans (List.sublist_append_right _ _))
  exact h.sublist hs
theorem ris_prs {d : Nat} {t : T d} (h : Ris (tl d t)) (hw : WF d t) : Ris (prs d t) := by
  cases d with
  | zero => exact h
  | succ d => exact ris_own h hw.1
theorem kid_map {d : Nat} {ts : List (T d)} {i : Nat} {k : T d} (h : ts[i]? = some k) : (ts.map (tl d))[i]? = some (tl d k) := by rw [List.getElem?_map, h]; rfl
/-- a node at the kid where a key belongs -/
theorem node_at {d : Nat} {ps : List Pr} {ts : List (T d)} {key : ByteArray} {i : Nat} {k : T d} (hl : ts.length = ps.length + 1) (hr : Ris (inter (ts.map (tl d)) ps)) (hp : Ris ps) (ha : AtP ps key i) (hk : ts[i]? = some k) (hi : isP ps key i = false) :
    ∃ A B, inter (ts.map (tl d)) ps = A ++ tl d k ++ B ∧ A = upp ((ts.map (tl d)).take i) (ps.take i) ∧ B = dn (ps.drop i) ((ts.map (tl d)).drop (i + 1)) ∧ AllL key A ∧ AllG key B ∧ Ris (tl d k) := by
  have hil : i ≤ ps.length := ha.1
  have e := inter_at i (tl d k) (ls := ts.map (tl d)) (ps := ps) (by simpa using hl) (kid_map hk)
  have hr2 := hr
  rw [e] at hr2
  obtain ⟨h1, _, h3⟩ := ris_at hp ha
  refine ⟨_, _, e, rfl, rfl, upp_L (by simp; omega) hr2.left.left h1, dn_G (by simp; omega) hr2.right (h3 hi), hr2.left.right⟩
/-- a node at a pair -/
theorem node_is {d : Nat} {ps : List Pr} {ts : List (T d)} {i : Nat} {x : Pr} (hl : ts.length = ps.length + 1) (hr : Ris (inter (ts.map (tl d)) ps)) (hx : ps[i]? = some x) :
    ∃ A B, inter (ts.map (tl d)) ps = A ++ x :: B ∧ A = inter ((ts.map (tl d)).take (i + 1)) (ps.take i) ∧ B = inter ((ts.map (tl d)).drop (i + 1)) (ps.drop (i + 1)) ∧ AllL x.1 A ∧ AllG x.1 B := by
  have e := inter_cut (ls := ts.map (tl d)) (i := i) (by simpa using hl) hx
  have hr2 := hr
  rw [e] at hr2
  exact ⟨_, _, e, rfl, rfl, hr2.split.1, hr2.split.2⟩
/-- a leaf with a pair put in, in a pair's place or beside them -/
theorem leaf_ins_is {ps : List Pr} {x : Pr} {k : Nat} (h : Ris ps) (ha : AtP ps x.1 k) (hi : isP ps x.1 k = true) : insP ps x = ps.take k ++ [x] ++ ps.drop (k + 1) := by
  obtain ⟨h1, h2, _⟩ := ris_at h ha
  obtain ⟨y, _, hy, e, hG⟩ := h2 hi
  rw [List.append_assoc]
  refine Eq.trans (congrArg (fun l => insP l x) e) ?_
  exact insP_one hy h1 hG
theorem leaf_ins_no {ps : List Pr} {x : Pr} {k : Nat} (h : Ris ps) (ha : AtP ps x.1 k) (hi : isP ps x.1 k = false) : insP ps x = ps.take k ++ [x] ++ ps.drop k := by
  obtain ⟨h1, _, h3⟩ := ris_at h ha
  have e : ps = ps.take k ++ [] ++ ps.drop k := by simp
  refine Eq.trans (congrArg (fun l => insP l x) e) ?_
  rw [insP_mid h1 (h3 hi)]
  rfl
theorem leaf_rem {ps : List Pr} {key : ByteArray} {k : Nat} (h : Ris ps) (ha : AtP ps key k) (hi : isP ps key k = true) : remP ps key = ps.take k ++ ps.drop (k + 1) := by
  obtain ⟨h1, h2, _⟩ := ris_at h ha
  obtain ⟨y, _, hy, e, hG⟩ := h2 hi
  subst hy
  refine Eq.trans (congrArg (fun l => remP l y.1) e) ?_
  exact remP_one h1 hG
/-- what is told of a key -/
theorem eqs_is {ps : List Pr} {key : ByteArray} {k : Nat} (h : Ris ps) (ha : AtP ps key k) (hi : isP ps key k = true) : ∃ x, ps[k]? = some x ∧ x.1 = key ∧ eqs key ps = [x] := by
  obtain ⟨h1, h2, _⟩ := ris_at h ha
  obtain ⟨y, hy0, hy, e, hG⟩ := h2 hi
  subst hy
  refine ⟨y, hy0, rfl, ?_⟩
  refine Eq.trans (congrArg (eqs y.1) e) ?_
  exact eqs_one h1 hG
theorem eqs_no {ps : List Pr} {key : ByteArray} {k : Nat} (h : Ris ps) (ha : AtP ps key k) (hi : isP ps key k = false) : eqs key ps = [] := by
  obtain ⟨h1, _, h3⟩ := ris_at h ha
  have e : ps = ps.take k ++ [] ++ ps.drop k := by simp
  refine Eq.trans (congrArg (eqs key) e) ?_
  rw [eqs_mid h1 (h3 hi)]
  rfl
#print axioms leaf_rem
end Go.Proofs.Ytnagknlfboadkaa.Oct
