/-
  Layer 15 (people): the document's people: the two side by side: what each says.
-/
import Derived.Test.YtfickhhfhdhcbaaRfm
namespace Go.Proofs.Ytfickhhfhdhcbaa.Oct
open Go.RowKit
set_option linter.unusedSimpArgs false
set_option linter.unusedVariables false


/-- what holds of the lists of people that stand in memory -/
structure Nd (M : Pm) : Prop where
  un : M.users.Nodup
  on : (M.orgs.map (·.name)).Nodup
  rn : ∀ o ∈ M.orgs, (o.roles.map (·.1)).Nodup
  tn : ∀ o ∈ M.orgs, (o.teams.map (·.name)).Nodup
  ok : ∀ o ∈ M.orgs, OgOk M.users o
theorem PAt.nd {w : World} {p : Nat} {M : Pm} (h : PAt w p M) : Nd M := by
  refine ⟨?_, ?_, fun o ho => h.rnodup ho, fun o ho => ?_, h.ok⟩
  · have := h.us.nodup
    rwa [show (unit M.users).map (·.1) = M.users by unfold unit; rw [List.map_map]; exact List.map_id _] at this
  · have := h.os.nodup
    rwa [orgsKv_keys] at this
  · have := (h.oteams ho).nodup
    rwa [teamsKv_keys] at this
/-- what a fact says, in the program's people -/
def rGet (l : List (Hs × Int)) (u : Hs) : Option Int := (l.find? (fun r => r.1 == u)).map (·.2)
def oV (o : Og) (t u : Hs) : Option Int := if t = [] then rGet o.roles u else match teamOf o.teams t with
  | none => none
  | some tm => if u = [] ∨ u ∈ tm.mem then some 0 else none
def fV (M : Pm) (x t u : Hs) : Option Int := match M.org x with
  | none => none
  | some o => oV o t u
/-- the two people say the same -/
structure Rel (M : Pm) (R : Rp) : Prop where
  U : R.U = sortK M.users
  O : R.O = orgsL M
  nd : R.F.Nodup
  f : ∀ g : Fc, g ∈ R.F ↔ fV M g.o g.t g.u = some g.r
  nu : [] ∉ M.users
  nt : ∀ o ∈ M.orgs, ∀ t ∈ o.teams, t.name ≠ []
theorem sortK_le (l : List Hs) : (sortK l).Pairwise (fun x y => x ≤ y) := by
  have := List.pairwise_mergeSort (le := fun x y : Hs => decide (x ≤ y)) (fun a b c h1 h2 => by
    simp only [decide_eq_true_eq] at h1 h2 ⊢
    exact List.le_trans h1 h2) (fun a b => by
    simp only [Bool.or_eq_true, decide_eq_true_eq]
    exact List.le_total a b) l
  exact this.imp (fun h => by simpa using h)
theorem sortK_rise {l : List Hs} (h : l.Nodup) : Rise (sortK l) := by
  have h2 : (sortK l).Nodup := (List.mergeSort_perm l _).nodup_iff.2 h
  have h3 := sortK_le l
  unfold Rise
  have h4 := List.Pairwise.and h3 h2
  refine h4.imp ?_
  rintro a b ⟨h5, h6⟩
  rcases lt_or a b with e | e | e
  · exact e
  · exact absurd e h6
  · exact absurd e h5
theorem fold_mem (g : Fc → Hs) : ∀ (F : List Fc) (l : List Hs) (x : Hs), x ∈ F.foldl (fun l f => withL (g f) l) l ↔ x ∈ l ∨ ∃ f ∈ F, g f = x
  | [], l, x => by simp
  | f :: F, l, x => by
    rw [List.foldl_cons, fold_mem g F (withL (g f) l) x, mem_with]
    constructor
    · rintro ((e | h) | ⟨f', h1, h2⟩)
      · exact .inr ⟨f, by simp, e.symm⟩
      · exact .inl h
      · exact .inr ⟨f', by simp [h1], h2⟩
    · rintro (h | ⟨f', h1, h2⟩)
      · exact .inl (.inr h)
      · rcases List.mem_cons.1 h1 with rfl | h3
        · exact .inl (.inl h2.symm)
        · exact .inr ⟨f', h3, h2⟩
theorem fold_rise (g : Fc → Hs) : ∀ (F : List Fc) (l : List Hs), Rise l → Rise (F.foldl (fun l f => withL (g f) l) l)
  | [], l, h => h
  | f :: F, l, h => fold_rise g F _ (rise_with _ h)
theorem memF_mem {F : List Fc} {x y : Hs} : y ∈ memF F x ↔ ∃ f ∈ F, f.o = x ∧ f.t = [] ∧ f.u = y := by
  unfold memF
  rw [fold_mem (fun f => f.u)]
  constructor
  · rintro (h | ⟨f, h1, h2⟩)
    · cases h
    · have h3 := List.mem_filter.1 h1
      have h4 : f.o = x ∧ f.t = [] := by simpa using h3.2
      exact ⟨f, h3.1, h4.1, h4.2, h2⟩
  · rintro ⟨f, h1, h2, h3, h4⟩
    exact .inr ⟨f, List.mem_filter.2 ⟨h1, by simp [h2, h3]⟩, h4⟩
theorem teaF_mem {F : List Fc} {x y : Hs} : y ∈ teaF F x ↔ ∃ f ∈ F, f.o = x ∧ f.t = y ∧ f.t ≠ [] ∧ f.u = [] := by
  unfold teaF
  rw [fold_mem (fun f => f.t)]
  constructor
  · rintro (h | ⟨f, h1, h2⟩)
    · cases h
    · have h3 := List.mem_filter.1 h1
      have h4 : (f.o = x ∧ f.t ≠ []) ∧ f.u = [] := by simpa using h3.2
      exact ⟨f, h3.1, h4.1.1, h2, h4.1.2, h4.2⟩
  · rintro ⟨f, h1, h2, h3, h4, h5⟩
    exact .inr ⟨f, List.mem_filter.2 ⟨h1, by simp [h2, h4, h5]⟩, h3⟩
theorem memF_rise (F : List Fc) (x : Hs) : Rise (memF F x) := fold_rise (fun f => f.u) _ [] List.Pairwise.nil
theorem teaF_rise (F : List Fc) (x : Hs) : Rise (teaF F x) := fold_rise (fun f => f.t) _ [] List.Pairwise.nil
theorem rGet_none {l : List (Hs × Int)} {u : Hs} : rGet l u = none ↔ u ∉ l.map (·.1) := by
  unfold rGet
  rw [Option.map_eq_none_iff, List.find?_eq_none]
  constructor
  · intro h hm
    obtain ⟨y, hy, e⟩ := List.mem_map.1 hm
    exact h y hy (by simpa using e)
  · intro h y hy e
    exact h (List.mem_map.2 ⟨y, hy, by simpa using e⟩)
theorem rGet_some {l : List (Hs × Int)} {u : Hs} {r : Int} (hnd : (l.map (·.1)).Nodup) : rGet l u = some r ↔ (u, r) ∈ l := by
  constructor
  · intro h
    unfold rGet at h
    obtain ⟨y, h1, h2⟩ := Option.map_eq_some_iff.1 h
    have h3 := List.mem_of_find?_eq_some h1
    have h4 : y.1 = u := by simpa using List.find?_some h1
    rw [← h4, ← h2]
    exact h3
  · intro h
    have h1 := roleOf_mem hnd h
    cases hg : rGet l u with
    | none => exact absurd (List.mem_map.2 ⟨_, h, rfl⟩) (rGet_none.1 hg)
    | some r' =>
      have h2 : roleOf l u = r' := by show (rGet l u).getD 0 = r'; rw [hg]; rfl
      rw [← h2]
      exact congrArg some h1
section
variable {M : Pm} {R : Rp}
theorem Rel.key (h : Rel M R) {g g' : Fc} (h1 : g ∈ R.F) (h2 : g' ∈ R.F) (ho : g.o = g'.o) (ht : g.t = g'.t) (hu : g.u = g'.u) : g = g' := by
  have e1 := (h.f g).1 h1
  have e2 := (h.f g').1 h2
  rw [ho, ht, hu, e2] at e1
  obtain ⟨a, b, c, d⟩ := g
  obtain ⟨a', b', c', d'⟩ := g'
  simp only at ho ht hu e1
  subst ho ht hu
  injection e1 with e1
  rw [e1]
theorem Rel.fct_none (h : Rel M R) {x t u : Hs} (hv : fV M x t u = none) : fct R.F x t u = -1 := by
  rcases fct_cases R.F x t u with ⟨e, _⟩ | ⟨k, f, _, hk, ⟨h1, h2, h3⟩, _⟩
  · exact e
  · have := (h.f f).1 (List.mem_of_getElem? hk)
    rw [h1, h2, h3, hv] at this
    cases this
theorem Rel.fct_some (h : Rel M R) {x t u : Hs} {r : Int} (hv : fV M x t u = some r) : ∃ k : Nat, fct R.F x t u = k ∧ R.F[k]? = some ⟨x, t, u, r⟩ := by
  rcases fct_cases R.F x t u with ⟨_, hn⟩ | ⟨k, f, e, hk, ⟨h1, h2, h3⟩, _⟩
  · exact absurd ⟨rfl, rfl, rfl⟩ (hn ⟨x, t, u, r⟩ ((h.f _).2 hv))
  · refine ⟨k, e, ?_⟩
    rw [hk]
    exact congrArg some (h.key (List.mem_of_getElem? hk) ((h.f _).2 hv) h1 h2 h3)
theorem Rel.fct_iff (h : Rel M R) {x t u : Hs} : fct R.F x t u < 0 ↔ fV M x t u = none := by
  cases hv : fV M x t u with
  | none => rw [h.fct_none hv]; simp
  | some r =>
    obtain ⟨k, e, _⟩ := h.fct_some hv
    rw [e]
    simp
theorem Nd.noname (hn : Nd M) (h : Rel M R) {o : Og} (ho : o ∈ M.orgs) : [] ∉ o.roles.map (·.1) := by
  intro e
  obtain ⟨r, hr, e2⟩ := List.mem_map.1 e
  have := ((hn.ok o ho).roles r hr).1
  rw [e2] at this
  exact h.nu this
theorem Rel.role (h : Rel M R) (hn : Nd M) (x u : Hs) : roleF R.F x u = subR M x u := by
  unfold roleF
  have hs : fV M x [] u = (match M.org x with | none => none | some o => rGet o.roles u) := by
    unfold fV oV
    cases M.org x <;> simp
  have hr : subR M x u = (fV M x [] u).getD 0 := by
    rw [hs]
    unfold subR
    cases M.org x <;> rfl
  by_cases hu : u = []
  · rw [if_pos hu, hr, hs]
    cases ho : M.org x with
    | none => rfl
    | some o =>
      show 0 = (rGet o.roles u).getD 0
      rw [hu, rGet_none.2 (hn.noname h (org_in ho).1)]
      rfl
  · rw [if_neg hu, hr]
    cases hv : fV M x [] u with
    | none => rw [h.fct_none hv]; simp
    | some r =>
      obtain ⟨k, e, hk⟩ := h.fct_some hv
      rw [e, if_neg (by omega), Int.toNat_natCast, hk]
      rfl
theorem Rel.members (h : Rel M R) (hn : Nd M) (x : Hs) : memF R.F x = membersL M x := by
  unfold membersL
  cases ho : M.org x with
  | none =>
    refine List.eq_nil_iff_forall_not_mem.2 fun y hy => ?_
    obtain ⟨f, h1, h2, h3, h4⟩ := memF_mem.1 hy
    have := (h.f f).1 h1
    unfold fV at this
    rw [h2, ho] at this
    cases this
  | some o =>
    refine rise_eq (memF_rise _ _) (sortK_rise (hn.rn o (org_in ho).1)) fun y => ?_
    rw [memF_mem, sortK_mem]
    constructor
    · rintro ⟨f, h1, h2, h3, h4⟩
      have := (h.f f).1 h1
      unfold fV oV at this
      rw [h2, ho, h3] at this
      simp only [if_true] at this
      have h5 := (rGet_some (hn.rn o (org_in ho).1)).1 this
      exact List.mem_map.2 ⟨_, h5, h4⟩
    · intro hy
      obtain ⟨r, hr, e⟩ := List.mem_map.1 hy
      refine ⟨⟨x, [], y, r.2⟩, (h.f _).2 ?_, rfl, rfl, rfl⟩
      unfold fV oV
      rw [ho]
      simp only [if_true]
      exact (rGet_some (hn.rn o (org_in ho).1)).2 (by rw [← e]; exact hr)
theorem Rel.teams (h : Rel M R) (hn : Nd M) (x : Hs) : teaF R.F x = teamsL M x := by
  unfold teamsL
  cases ho : M.org x with
  | none =>
    refine List.eq_nil_iff_forall_not_mem.2 fun y hy => ?_
    obtain ⟨f, h1, h2, _⟩ := teaF_mem.1 hy
    have := (h.f f).1 h1
    unfold fV at this
    rw [h2, ho] at this
    cases this
  | some o =>
    refine rise_eq (teaF_rise _ _) (sortK_rise (hn.tn o (org_in ho).1)) fun y => ?_
    rw [teaF_mem, sortK_mem]
    constructor
    · rintro ⟨f, h1, h2, h3, h4, h5⟩
      have := (h.f f).1 h1
      unfold fV oV at this
      rw [h2, ho] at this
      simp only [if_neg h4] at this
      cases htm : teamOf o.teams f.t with
      | none => rw [htm] at this; cases this
      | some tm =>
        rw [← h3]
        have h6 : tm.name = f.t := by simpa using List.find?_some htm
        exact List.mem_map.2 ⟨tm, List.mem_of_find?_eq_some htm, h6⟩
    · intro hy
      obtain ⟨tm, htm, hin⟩ := teamOf_some hy
      have hne : y ≠ [] := by
        have h6 : tm.name = y := by simpa using List.find?_some htm
        rw [← h6]
        exact h.nt o (org_in ho).1 tm hin
      refine ⟨⟨x, y, [], 0⟩, (h.f _).2 ?_, rfl, rfl, hne, rfl⟩
      unfold fV oV
      rw [ho]
      simp only [if_neg hne, htm]
      simp
theorem Rel.sub (h : Rel M R) (hn : Nd M) (x u : Hs) : subF R.F x u = subT M x u := by
  unfold subF subT
  rw [h.teams hn x]
  unfold teamsL
  cases ho : M.org x with
  | none => simp
  | some o =>
    have hin := (org_in ho).1
    show (if u = [] then [] else (sortK (o.teams.map (·.name))).filter _) = teamsOf o.teams u
    unfold teamsOf
    by_cases hu : u = []
    · rw [if_pos hu]
      refine (List.filter_eq_nil_iff.2 fun t ht => ?_).symm
      unfold inTeam
      cases htm : teamOf o.teams t with
      | none => simp
      | some tm =>
        simp only [decide_eq_true_eq]
        intro hm
        rw [hu] at hm
        exact hn.noname h hin ((hn.ok o hin).mem tm (List.mem_of_find?_eq_some htm) _ hm)
    · rw [if_neg hu]
      refine List.filter_congr fun t ht => ?_
      obtain ⟨tm, htm, hti⟩ := teamOf_some (sortK_mem.1 ht)
      have hne : t ≠ [] := by
        have h6 : tm.name = t := by simpa using List.find?_some htm
        rw [← h6]
        exact h.nt o hin tm hti
      have e1 : fV M x t u = if u ∈ tm.mem then some 0 else none := by
        unfold fV oV
        rw [ho]
        simp [hne, htm, hu]
      have e2 : inTeam o.teams u t = decide (u ∈ tm.mem) := by unfold inTeam; rw [htm]
      rw [e2]
      by_cases hm : u ∈ tm.mem
      · rw [if_pos hm] at e1
        obtain ⟨k, e, _⟩ := h.fct_some e1
        rw [e]
        simp [hm]
      · rw [if_neg hm] at e1
        rw [h.fct_none e1]
        simp [hm]
theorem Rel.own (h : Rel M R) (hn : Nd M) {x : Hs} {o : Og} (ho : M.org x = some o) : ownF R.F x = owners o.roles := by
  have hin := (org_in ho).1
  unfold ownF
  rw [h.members hn x]
  unfold membersL
  rw [ho]
  show (sortK (o.roles.map (·.1))).countP _ = _
  unfold sortK
  rw [(List.mergeSort_perm (o.roles.map (·.1)) _).countP_eq, List.countP_map]
  unfold owners
  refine List.countP_congr fun r hr => ?_
  have : roleF R.F x r.1 = r.2 := by
    rw [h.role hn]
    unfold subR
    rw [ho]
    exact roleOf_mem (hn.rn o hin) hr
  simp [this]
theorem Rel.last (h : Rel M R) (hn : Nd M) {x : Hs} {o : Og} (ho : M.org x = some o) (u : Hs) : lastF R.F x u = lastOwner o.roles u := by
  unfold lastF lastOwner
  rw [h.own hn ho, h.role hn]
  unfold subR
  rw [ho]
end
#print axioms Rel.sub
#print axioms Rel.last
end Go.Proofs.Ytfickhhfhdhcbaa.Oct
