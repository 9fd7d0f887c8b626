/-
  Layer 15 (people): the document's people: the two side by side: the facts, changed.
-/
import Derived.Test.YtfickhhfhdhcbaaRla
namespace Go.Proofs.Ytfickhhfhdhcbaa.Oct
open Go.RowKit
set_option linter.unusedSimpArgs false
set_option linter.unusedVariables false


def FRel (F : List Fc) (v : Hs → Hs → Hs → Option Int) : Prop := F.Nodup ∧ ∀ g : Fc, g ∈ F ↔ v g.o g.t g.u = some g.r
theorem Fc.ext' {f g : Fc} (h1 : f.o = g.o) (h2 : f.t = g.t) (h3 : f.u = g.u) (h4 : f.r = g.r) : f = g := by
  obtain ⟨a, b, c, d⟩ := f
  obtain ⟨a', b', c', d'⟩ := g
  simp only at h1 h2 h3 h4
  subst h1 h2 h3 h4
  rfl
section
variable {F : List Fc} {v v' : Hs → Hs → Hs → Option Int} {x t u : Hs} {r : Int}
theorem FRel.add (h : FRel F v) (hn : v x t u = none) (hv : ∀ a b c, v' a b c = if a = x ∧ b = t ∧ c = u then some r else v a b c) : FRel (F ++ [⟨x, t, u, r⟩]) v' := by
  refine ⟨?_, fun g => ?_⟩
  · rw [List.nodup_append]
    refine ⟨h.1, by simp, fun a ha b hb e => ?_⟩
    simp at hb
    subst hb
    subst e
    have := (h.2 _).1 ha
    simp only [hn] at this
    cases this
  · rw [List.mem_append, List.mem_singleton, hv, h.2]
    by_cases e : g.o = x ∧ g.t = t ∧ g.u = u
    · rw [if_pos e]
      constructor
      · rintro (h1 | h1)
        · rw [e.1, e.2.1, e.2.2, hn] at h1; cases h1
        · rw [h1]
      · intro h1
        injection h1 with h1
        exact .inr (Fc.ext' e.1 e.2.1 e.2.2 h1.symm)
    · rw [if_neg e]
      constructor
      · rintro (h1 | h1)
        · exact h1
        · exact absurd ⟨by rw [h1], by rw [h1], by rw [h1]⟩ e
      · exact fun h1 => .inl h1
theorem FRel.del (h : FRel F v) {k : Nat} (hk : F[k]? = some ⟨x, t, u, r⟩) (hv : ∀ a b c, v' a b c = if a = x ∧ b = t ∧ c = u then none else v a b c) : FRel (F.eraseIdx k) v' := by
  have hm : ∀ g, g ∈ F.eraseIdx k ↔ g ∈ F ∧ g ≠ ⟨x, t, u, r⟩ := by
    intro g
    rw [List.mem_eraseIdx_iff_getElem?]
    constructor
    · rintro ⟨i, hi, e⟩
      refine ⟨List.mem_of_getElem? e, fun e2 => hi ?_⟩
      rw [e2] at e
      obtain ⟨l1, e1⟩ := List.getElem?_eq_some_iff.1 e
      obtain ⟨l2, e3⟩ := List.getElem?_eq_some_iff.1 hk
      have hp := List.pairwise_iff_getElem.1 h.1
      rcases Nat.lt_trichotomy i k with h5 | h5 | h5
      · exact absurd (e1.trans e3.symm) (hp i k l1 l2 h5)
      · exact h5
      · exact absurd (e3.trans e1.symm) (hp k i l2 l1 h5)
    · rintro ⟨h1, h2⟩
      obtain ⟨i, hi⟩ := List.mem_iff_getElem?.1 h1
      refine ⟨i, fun e => ?_, hi⟩
      rw [e, hk] at hi
      injection hi with hi
      exact h2 hi.symm
  have h0 := (h.2 ⟨x, t, u, r⟩).1 (List.mem_of_getElem? hk)
  refine ⟨h.1.sublist (List.eraseIdx_sublist _ _), fun g => ?_⟩
  rw [hm, hv, h.2]
  by_cases e : g.o = x ∧ g.t = t ∧ g.u = u
  · rw [if_pos e]
    constructor
    · rintro ⟨h1, h2⟩
      rw [e.1, e.2.1, e.2.2, h0] at h1
      injection h1 with h1
      exact absurd (Fc.ext' e.1 e.2.1 e.2.2 h1.symm) h2
    · intro h1; cases h1
  · rw [if_neg e]
    exact ⟨fun h1 => h1.1, fun h1 => ⟨h1, fun e2 => e ⟨by rw [e2], by rw [e2], by rw [e2]⟩⟩⟩
theorem FRel.filt (h : FRel F v) (hv : ∀ a b c, v' a b c = if a = x ∧ c = u then none else v a b c) : FRel (F.filter (fun f => f.o != x || f.u != u)) v' := by
  refine ⟨h.1.sublist List.filter_sublist, fun g => ?_⟩
  rw [List.mem_filter, hv, h.2]
  by_cases e : g.o = x ∧ g.u = u
  · rw [if_pos e]
    simp [e.1, e.2]
  · rw [if_neg e]
    constructor
    · exact fun h1 => h1.1
    · intro h1
      refine ⟨h1, ?_⟩
      by_cases e1 : g.o = x
      · have : g.u ≠ u := fun e2 => e ⟨e1, e2⟩
        simp [this]
      · simp [e1]
theorem FRel.put (h : FRel F v) (hv : ∀ a b c, v' a b c = if a = x ∧ b = [] ∧ c = u then some r else v a b c) : FRel (joF F x u ++ [⟨x, [], u, r⟩]) v' := by
  unfold joF
  rcases fct_cases F x [] u with ⟨e, hn⟩ | ⟨k, f, e, hk, ⟨h1, h2, h3⟩, _⟩
  · rw [if_pos (by rw [e]; omega)]
    refine h.add ?_ hv
    cases h4 : v x [] u with
    | none => rfl
    | some r' => exact absurd ⟨rfl, rfl, rfl⟩ (hn ⟨x, [], u, r'⟩ ((h.2 _).2 h4))
  · rw [if_neg (by rw [e]; omega), e, Int.toNat_natCast]
    have hf : f = ⟨x, [], u, f.r⟩ := Fc.ext' h1 h2 h3 rfl
    rw [hf] at hk
    have := h.del (v' := fun a b c => if a = x ∧ b = [] ∧ c = u then none else v a b c) hk (fun _ _ _ => rfl)
    refine this.add (by simp) (fun a b c => ?_)
    rw [hv]
    by_cases e2 : a = x ∧ b = [] ∧ c = u
    · rw [if_pos e2, if_pos e2]
    · rw [if_neg e2, if_neg e2, if_neg e2]
end
theorem Rel.fr {M : Pm} {R : Rp} (h : Rel M R) : FRel R.F (fV M) := ⟨h.nd, h.f⟩
/-- one organisation is another one -/
theorem OneIs.get {M M' : Pm} {x : Hs} {f : Og → Og → Prop} (h : OneIs M x f M') (hn : Nd M) (hf : ∀ o o', f o o' → o'.name = o.name) : ∃ o o', M.org x = some o ∧ f o o' ∧ (∀ a b c, fV M' a b c = if a = x then oV o' b c else fV M a b c) ∧ M'.users = M.users ∧ orgsL M' = orgsL M ∧ o ∈ M.orgs ∧ ∀ q ∈ M'.orgs, q = o' ∨ q ∈ M.orgs := by
  have hoth := fun y (hy : y ≠ x) => h.org hy hf
  obtain ⟨A, o, B, o', h1, h2, h3, rfl⟩ := h
  have hnm : o.name = x := (org_in h1).2
  have hnm' : o'.name = x := by rw [hf o o' h3, hnm]
  have hA : A.find? (fun o => o.name == x) = none := by
    rw [List.find?_eq_none]
    intro q hq e
    have hnd := hn.on
    rw [h2, List.map_append, List.map_cons, List.nodup_append] at hnd
    exact hnd.2.2 q.name (List.mem_map.2 ⟨q, hq, rfl⟩) o.name (by simp) (by rw [hnm]; simpa using e)
  have hx : ({ M with orgs := A ++ o' :: B } : Pm).org x = some o' := by
    unfold Pm.org
    rw [List.find?_append, hA, List.find?_cons, show (o'.name == x) = true by simpa using hnm']
    rfl
  refine ⟨o, o', h1, h3, fun a b c => ?_, rfl, ?_, by rw [h2]; simp, fun q hq => ?_⟩
  · by_cases e : a = x
    · rw [if_pos e, e]
      unfold fV
      rw [hx]
    · rw [if_neg e]
      unfold fV
      rw [hoth a e]
  · unfold orgsL
    congr 1
    rw [h2]
    simp [hf o o' h3]
  · have hq : q ∈ A ++ o' :: B := hq
    rw [h2]
    simp at hq ⊢
    rcases hq with hq | hq | hq
    · exact .inr (.inl hq)
    · exact .inl hq
    · exact .inr (.inr (.inr hq))
theorem fV_org {M : Pm} {x : Hs} {o : Og} (h : M.org x = some o) (b c : Hs) : fV M x b c = oV o b c := by unfold fV; rw [h]
/-- a team is another one -/
theorem TeamIs.get {o o' : Og} {t : Hs} {f : Tm → Tm → Prop} (h : TeamIs t f o o') (hn : (o.teams.map (·.name)).Nodup) (hf : ∀ a b, f a b → b.name = a.name) : ∃ tm tm', teamOf o.teams t = some tm ∧ tm ∈ o.teams ∧ tm.name = t ∧ f tm tm' ∧ o'.roles = o.roles ∧ (∀ s, teamOf o'.teams s = if s = t then some tm' else teamOf o.teams s) ∧ ∀ q ∈ o'.teams, q.name ∈ o.teams.map (·.name) := by
  obtain ⟨S, tm, T, tm', h1, h2, h3, rfl⟩ := h
  have hnm : tm.name = t := by simpa using List.find?_some h1
  have hnm' : tm'.name = t := by rw [hf tm tm' h3, hnm]
  refine ⟨tm, tm', h1, by rw [h2]; simp, hnm, h3, rfl, fun s => ?_, fun q hq => ?_⟩
  · by_cases e : s = t
    · subst e
      rw [if_pos rfl]
      have hA : S.find? (fun o => o.name == s) = none := by
        rw [List.find?_eq_none]
        intro q hq e
        rw [h2, List.map_append, List.map_cons, List.nodup_append] at hn
        exact hn.2.2 q.name (List.mem_map.2 ⟨q, hq, rfl⟩) tm.name (by simp) (by rw [hnm]; simpa using e)
      show (S ++ tm' :: T).find? _ = _
      rw [List.find?_append, hA, List.find?_cons, show (tm'.name == s) = true by simpa using hnm']
      rfl
    · rw [if_neg e]
      show (S ++ tm' :: T).find? _ = o.teams.find? _
      rw [h2, List.find?_append, List.find?_append, List.find?_cons, List.find?_cons, show (tm'.name == s) = false by rw [hnm']; simpa using fun e2 => e e2.symm, show (tm.name == s) = false by rw [hnm]; simpa using fun e2 => e e2.symm]
  · have hq : q ∈ S ++ tm' :: T := hq
    rw [h2]
    simp at hq ⊢
    rcases hq with hq | hq | hq
    · exact .inl ⟨q, hq, rfl⟩
    · exact .inr (.inl (by rw [hq, hnm', hnm]))
    · exact .inr (.inr ⟨q, hq, rfl⟩)
theorem rGet_put {l : List (Hs × Int)} {u : Hs} {r : Int} (c : Hs) : rGet (rput l u r) c = if c = u then some r else rGet l c := by
  unfold rput
  by_cases hi : inRoles l u = true
  · rw [if_pos hi]
    have hm : u ∈ l.map (·.1) := by unfold inRoles at hi; simpa using hi
    clear hi
    induction l with
    | nil => cases hm
    | cons y l ih =>
      unfold rGet at ih ⊢
      rw [List.map_cons, List.find?_cons, List.find?_cons]
      by_cases e : y.1 = u
      · rw [if_pos e]
        by_cases e2 : c = u
        · subst e2; simp
        · have e3 : ((u, r).1 == c) = false := by simpa using fun e => e2 e.symm
          have e4 : (y.1 == c) = false := by rw [e]; exact e3
          rw [e3, e4, if_neg e2]
          by_cases hm2 : u ∈ l.map (·.1)
          · rw [ih hm2, if_neg e2]
          · congr 1
            have : l.map (fun y => if y.1 = u then (u, r) else y) = l := by
              conv => rhs; rw [← List.map_id l]
              refine List.map_congr_left fun z hz => ?_
              rw [if_neg (fun e5 => hm2 (List.mem_map.2 ⟨z, hz, e5⟩))]
              rfl
            rw [this]
      · rw [if_neg e]
        have hm2 : u ∈ l.map (·.1) := by
          rcases List.mem_cons.1 hm with h | h
          · exact absurd h.symm e
          · exact h
        by_cases e2 : y.1 = c
        · have e4 : (y.1 == c) = true := by simpa using e2
          rw [e4, if_neg (fun e5 => e (e2.trans e5))]
        · have e4 : (y.1 == c) = false := by simpa using e2
          rw [e4]
          exact ih hm2
  · rw [if_neg hi]
    have hm : u ∉ l.map (·.1) := by unfold inRoles at hi; simpa using hi
    have hg := rGet_none.2 hm
    unfold rGet at hg ⊢
    rw [List.find?_append]
    by_cases e2 : c = u
    · subst e2
      rw [if_pos rfl, Option.map_eq_none_iff.1 hg]
      simp
    · rw [if_neg e2]
      have e3 : ((u, r).1 == c) = false := by simpa using fun e => e2 e.symm
      rw [List.find?_cons, e3]
      simp
theorem rGet_del {l : List (Hs × Int)} {u : Hs} (c : Hs) : rGet (rdel l u) c = if c = u then none else rGet l c := by
  unfold rdel rGet
  rw [List.find?_filter]
  by_cases e : c = u
  · rw [if_pos e, Option.map_eq_none_iff, List.find?_eq_none]
    intro y hy
    simp
    intro h1 h2
    exact h1 (by rw [h2, e])
  · rw [if_neg e]
    congr 1
    congr 1
    funext y
    by_cases e2 : y.1 = c
    · simp [e2, e]
    · simp [e2]
theorem teamOf_map (l : List Tm) (u t : Hs) : teamOf (l.map (tout u)) t = (teamOf l t).map (tout u) := by
  unfold teamOf
  rw [List.find?_map]
  rfl
#print axioms rGet_put
#print axioms OneIs.get
end Go.Proofs.Ytfickhhfhdhcbaa.Oct
