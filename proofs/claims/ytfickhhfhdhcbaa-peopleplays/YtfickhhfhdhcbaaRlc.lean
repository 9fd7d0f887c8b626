/-
  Layer 15 (people): the document's people: the two side by side: each call.
-/
import Derived.Test.YtfickhhfhdhcbaaRlb
namespace Go.Proofs.Ytfickhhfhdhcbaa.Oct
open Go.RowKit
set_option linter.unusedSimpArgs false
set_option linter.unusedVariables false


theorem name_ne {x : Hs} (h : isName x = true) : x ≠ [] := by
  rintro rfl
  revert h
  decide
theorem teamOf_none {l : List Tm} {t : Hs} : teamOf l t = none ↔ t ∉ l.map (·.name) := by
  unfold teamOf
  rw [List.find?_eq_none]
  constructor
  · intro h hm
    obtain ⟨y, hy, e⟩ := List.mem_map.1 hm
    exact h y hy (by simpa using e)
  · intro h y hy e
    exact h (List.mem_map.2 ⟨y, hy, by simpa using e⟩)
section
variable {M M' : Pm} {R : Rp}
theorem Rel.memU (h : Rel M R) {u : Hs} : u ∈ R.U ↔ u ∈ M.users := by rw [h.U]; exact sortK_mem
theorem Rel.memO (h : Rel M R) {x : Hs} : x ∈ R.O ↔ (M.org x).isSome = true := by
  rw [h.O]
  unfold orgsL Pm.org
  rw [sortK_mem, List.find?_isSome]
  constructor
  · intro hm
    obtain ⟨o, ho, e⟩ := List.mem_map.1 hm
    exact ⟨o, ho, by simpa using e⟩
  · rintro ⟨o, ho, e⟩
    exact List.mem_map.2 ⟨o, ho, by simpa using e⟩
theorem Rel.memT (h : Rel M R) (hn : Nd M) {x : Hs} {o : Og} (ho : M.org x = some o) {t : Hs} : t ∈ teaF R.F x ↔ t ∈ o.teams.map (·.name) := by
  rw [h.teams hn]
  unfold teamsL
  rw [ho]
  exact sortK_mem
theorem Rel.lenT (h : Rel M R) (hn : Nd M) {x : Hs} {o : Og} (ho : M.org x = some o) : (teaF R.F x).length = o.teams.length := by
  rw [h.teams hn]
  unfold teamsL
  rw [ho]
  show (sortK _).length = _
  rw [sortK_length, List.length_map]
theorem role_iff (hn : Nd M) {x : Hs} {o : Og} (ho : M.org x = some o) {u : Hs} : subR M x u = 0 ↔ inRoles o.roles u = false := by
  have hin := (org_in ho).1
  unfold subR
  rw [ho]
  show roleOf o.roles u = 0 ↔ _
  unfold inRoles
  constructor
  · intro h
    refine decide_eq_false fun hm => ?_
    obtain ⟨y, hy, e⟩ := List.mem_map.1 hm
    rw [← e, roleOf_mem (hn.rn o hin) hy] at h
    rcases ((hn.ok o hin).roles y hy).2 with h2 | h2 <;> omega
  · intro h
    have h2 : u ∉ o.roles.map (·.1) := by simpa using h
    show (rGet o.roles u).getD 0 = 0
    rw [rGet_none.2 h2]
    rfl
/-- AddUser -/
theorem Rel.addU (h : Rel M R) (hn : Nd M) (u : Hs) : (rAddU R u).2 = (M.addUser u).1 ∧ Rel (M.addUser u).2 (rAddU R u).1 := by
  unfold rAddU Pm.addUser begins
  by_cases h1 : isName u = true
  · rw [if_neg (by rw [h1]; simp)]
    by_cases h2 : u ∈ M.users
    · rw [if_pos (h.memU.2 h2)]
      simp only [h1, h2]
      exact ⟨rfl, h⟩
    · rw [if_neg (fun e => h2 (h.memU.1 e))]
      have hl : R.U.length = M.users.length := by rw [h.U, sortK_length]
      by_cases h3 : 64 ≤ M.users.length
      · rw [if_pos (by rw [hl]; exact h3)]
        simp only [h1, h2, h3]
        exact ⟨rfl, h⟩
      · rw [if_neg (by rw [hl]; exact h3)]
        simp only [h1, h2, h3]
        refine ⟨rfl, ?_, h.O, h.nd, h.f, ?_, h.nt⟩
        · show withL u R.U = sortK (addK M.users u)
          unfold addK
          rw [if_neg h2]
          refine rise_eq (rise_with _ (by rw [h.U]; exact sortK_rise hn.un)) (sortK_rise ?_) fun y => ?_
          · rw [List.nodup_append]
            exact ⟨hn.un, by simp, fun a ha b hb e => h2 (by simp at hb; rw [← hb, ← e]; exact ha)⟩
          · rw [mem_with, sortK_mem, h.memU]
            simp [or_comm]
        · show [] ∉ addK M.users u
          unfold addK
          rw [if_neg h2]
          simp
          exact ⟨h.nu, fun e => name_ne h1 e⟩
  · have h1' : isName u = false := by simpa using h1
    rw [if_pos h1']
    simp only [h1']
    exact ⟨rfl, h⟩
/-- AddOrg -/
theorem Rel.addO (h : Rel M R) (hn : Nd M) (x u : Hs) : (rAddO R x u).2 = M.addOrgE x u ∧ (M.addOrgE x u ≠ 0 → (rAddO R x u).1 = R) ∧ (M.addOrgE x u = 0 → ∀ b, Rel { M with orgs := M.orgs ++ [newOg x u b] } (rAddO R x u).1) := by
  unfold rAddO Pm.addOrgE begins
  by_cases h1 : isName x = true
  · rw [if_neg (by rw [h1]; simp)]
    by_cases h2 : (M.org x).isSome = true
    · rw [if_pos (h.memO.2 h2)]
      simp [h1, h2]
    · have h2' : (M.org x).isSome = false := by simpa using h2
      have h20 : M.org x = none := by simpa using h2
      rw [if_neg (fun e => h2 (h.memO.1 e))]
      by_cases h3 : u ∈ M.users
      · rw [if_neg (fun e => e (h.memU.2 h3))]
        have hl : R.O.length = M.orgs.length := by rw [h.O]; unfold orgsL; rw [sortK_length, List.length_map]
        by_cases h4 : 8 ≤ M.orgs.length
        · rw [if_pos (by rw [hl]; exact h4)]
          simp [h1, h2', h3, h4]
        · rw [if_neg (by rw [hl]; exact h4)]
          refine ⟨by simp [h1, h2', h3, h4], fun e => absurd (by simp [h1, h2', h3, h4]) e, fun _ b => ?_⟩
          have hxn : x ∉ M.orgs.map (·.name) := by
            intro e
            have := h.memO.1 (by rw [h.O]; exact sortK_mem.2 e)
            exact h2 this
          have hv : ∀ a t c, fV { M with orgs := M.orgs ++ [newOg x u b] } a t c = if a = x ∧ t = [] ∧ c = u then some 2 else fV M a t c := by
            intro a t c
            unfold fV
            by_cases e : a = x
            · subst e
              have e1 : ({ M with orgs := M.orgs ++ [newOg a u b] } : Pm).org a = some (newOg a u b) := by
                unfold Pm.org
                rw [List.find?_append, show M.orgs.find? (fun o => o.name == a) = none from h20]
                simp [newOg]
              rw [e1, h20]
              show oV (newOg a u b) t c = _
              unfold oV newOg
              by_cases e2 : t = []
              · by_cases e3 : c = u
                · subst e2 e3; simp [rGet]
                · have e3' : ¬ u = c := fun e => e3 e.symm
                  simp [e2, e3, e3', rGet]
              · simp [e2, teamOf]
            · rw [if_neg (fun e2 => e e2.1)]
              have e1 : ({ M with orgs := M.orgs ++ [newOg x u b] } : Pm).org a = M.org a := by
                unfold Pm.org
                have e2 : ((newOg x u b).name == a) = false := by
                  show (x == a) = false
                  simpa using fun e2 => e e2.symm
                rw [List.find?_append, List.find?_cons, e2]
                simp
              rw [e1]
          have hf := h.fr.add (x := x) (t := []) (u := u) (r := 2) (by unfold fV; rw [h20]) hv
          refine ⟨h.U, ?_, hf.1, hf.2, h.nu, ?_⟩
          · show withL x R.O = sortK ((M.orgs ++ [newOg x u b]).map (·.name))
            refine rise_eq (rise_with _ (by rw [h.O]; exact sortK_rise hn.on)) (sortK_rise ?_) fun y => ?_
            · rw [List.map_append, List.nodup_append]
              exact ⟨hn.on, by simp, fun a ha c hc e => hxn (by simp [newOg] at hc; rw [← hc, ← e]; exact ha)⟩
            · rw [mem_with, sortK_mem, h.O, List.map_append, List.mem_append]
              unfold orgsL
              rw [sortK_mem]
              simp [newOg, or_comm]
          · intro o ho t ht
            have ho : o ∈ M.orgs ++ [newOg x u b] := ho
            rcases List.mem_append.1 ho with h5 | h5
            · exact h.nt o h5 t ht
            · simp at h5
              subst h5
              cases ht
      · rw [if_pos (fun e => h3 (h.memU.1 e))]
        simp [h1, h2', h3]
  · have h1' : isName x = false := by simpa using h1
    rw [if_pos h1']
    simp [h1']
/-- Join -/
theorem Rel.join (h : Rel M R) (hn : Nd M) (x u : Hs) (r : Int) : (rJoin R x u r).2 = M.joinE x u r ∧ (M.joinE x u r ≠ 0 → (rJoin R x u r).1 = R) ∧ (M.joinE x u r = 0 → ∀ M', OneIs M x (fun o o' => o' = { o with roles := rput o.roles u r }) M' → Rel M' (rJoin R x u r).1) := by
  unfold rJoin Pm.joinE
  cases ho : M.org x with
  | none =>
    rw [if_pos (fun e => by have := h.memO.1 e; rw [ho] at this; cases this)]
    simp
  | some o =>
    rw [if_neg (fun e => e (h.memO.2 (by rw [ho]; rfl)))]
    by_cases h3 : u ∈ M.users
    · rw [if_neg (fun e => e (h.memU.2 h3))]
      by_cases h4 : r ≠ 1 ∧ r ≠ 2
      · rw [if_pos h4]
        simp [h3, h4]
      · rw [if_neg h4, h.last hn ho]
        by_cases h5 : lastOwner o.roles u = true ∧ r = 1
        · rw [if_pos h5]
          simp only [not_true, if_false, h3, h4, if_pos (And.intro h5.2 h5.1)]
          simp
        · rw [if_neg h5]
          have h6 : ¬ (r = 1 ∧ lastOwner o.roles u = true) := fun e => h5 ⟨e.2, e.1⟩
          simp only [not_true, if_false, h3, h4, if_neg h6]
          refine ⟨by simp, by simp, fun _ M' hM => ?_⟩
          obtain ⟨o1, o', e1, rfl, hv, hu, hO, hin, hq⟩ := hM.get hn (fun a b e => by rw [e])
          rw [ho] at e1
          cases e1
          have hf := h.fr.put (x := x) (u := u) (r := r) (v' := fV M') (fun a b c => by
            rw [hv]
            by_cases e : a = x
            · subst e
              rw [if_pos rfl, fV_org ho]
              unfold oV
              by_cases e2 : b = []
              · rw [if_pos e2, if_pos e2]
                show rGet (rput o.roles u r) c = _
                rw [rGet_put]
                simp [e2]
              · rw [if_neg e2, if_neg e2, if_neg (fun e3 => e2 e3.2.1)]
            · rw [if_neg e, if_neg (fun e3 => e e3.1)])
          refine ⟨by rw [hu]; exact h.U, by rw [hO]; exact h.O, hf.1, hf.2, by rw [hu]; exact h.nu, fun q hqi t ht => ?_⟩
          rcases hq q hqi with rfl | hq
          · exact h.nt o hin t ht
          · exact h.nt q hq t ht
    · rw [if_pos (fun e => h3 (h.memU.1 e))]
      simp [h3]
/-- Leave -/
theorem Rel.leave (h : Rel M R) (hn : Nd M) (x u : Hs) : (rLeave R x u).2 = M.leaveE x u ∧ (M.leaveE x u ≠ 0 → (rLeave R x u).1 = R) ∧ (M.leaveE x u = 0 → ∀ M', OneIs M x (fun o o' => o' = o.out u) M' → Rel M' (rLeave R x u).1) := by
  unfold rLeave Pm.leaveE
  rw [h.role hn]
  cases ho : M.org x with
  | none =>
    rw [if_pos (by unfold subR; rw [ho])]
    simp
  | some o =>
    by_cases h3 : inRoles o.roles u = true
    · rw [if_neg (fun e => by rw [(role_iff hn ho).1 e] at h3; cases h3), h.last hn ho]
      by_cases h5 : lastOwner o.roles u = true
      · simp [h3, h5]
      · have h5' : lastOwner o.roles u = false := by simpa using h5
        simp only [h3, h5', if_true]
        refine ⟨by simp, fun e => absurd (by simp) e, fun _ M' hM => ?_⟩
        have hune : u ≠ [] := fun e => hn.noname h (org_in ho).1 (by unfold inRoles at h3; rw [← e]; simpa using h3)
        obtain ⟨o1, o', e1, rfl, hv, hu, hO, hin, hq⟩ := hM.get hn (fun a b e => by rw [e]; rfl)
        rw [ho] at e1
        cases e1
        have hf := h.fr.filt (x := x) (u := u) (v' := fV M') (fun a b c => by
          rw [hv]
          by_cases e : a = x
          · subst e
            rw [if_pos rfl, fV_org ho]
            unfold oV Og.out
            by_cases e2 : b = []
            · simp only [if_pos e2]
              rw [rGet_del]
              simp
            · simp only [if_neg e2]
              rw [teamOf_map]
              cases htm : teamOf o.teams b with
              | none => simp
              | some tm =>
                by_cases e3 : c = u
                · subst e3
                  simp [tout, kout, hune]
                · simp [tout, kout, e3]
          · rw [if_neg e, if_neg (fun e3 => e e3.1)])
        refine ⟨by rw [hu]; exact h.U, by rw [hO]; exact h.O, hf.1, hf.2, by rw [hu]; exact h.nu, fun q hqi t ht => ?_⟩
        rcases hq q hqi with rfl | hq
        · obtain ⟨t', ht', rfl⟩ := List.mem_map.1 (show t ∈ o.teams.map (tout u) from ht)
          exact h.nt o hin t' ht'
        · exact h.nt q hq t ht
    · have h3' : inRoles o.roles u = false := by simpa using h3
      rw [if_pos ((role_iff hn ho).2 h3')]
      simp [h3']
/-- AddTeam -/
theorem Rel.team (h : Rel M R) (hn : Nd M) (x t : Hs) : (rTeam R x t).2 = M.teamE x t ∧ (M.teamE x t ≠ 0 → (rTeam R x t).1 = R) ∧ (M.teamE x t = 0 → ∀ M', OneIs M x (fun o o' => ∃ nb, o' = { o with teams := o.teams ++ [Tm.mk t nb []] }) M' → Rel M' (rTeam R x t).1) := by
  unfold rTeam Pm.teamE
  cases ho : M.org x with
  | none =>
    rw [if_pos (fun e => by have := h.memO.1 e; rw [ho] at this; cases this)]
    simp
  | some o =>
    rw [if_neg (fun e => e (h.memO.2 (by rw [ho]; rfl)))]
    show _ = teamE o.teams t ∧ (teamE o.teams t ≠ 0 → _) ∧ (teamE o.teams t = 0 → _)
    unfold teamE begins
    by_cases h1 : isName t = true
    · rw [if_neg (by rw [h1]; simp)]
      by_cases h2 : t ∈ o.teams.map (·.name)
      · have h2' : isTeam o.teams t = true := by unfold isTeam; simpa using h2
        rw [if_pos ((h.memT hn ho).2 h2)]
        simp [h1, h2']
      · have h2' : isTeam o.teams t = false := by unfold isTeam; simpa using h2
        rw [if_neg (fun e => h2 ((h.memT hn ho).1 e)), h.lenT hn ho]
        by_cases h4 : 8 ≤ o.teams.length
        · rw [if_pos h4]
          simp [h1, h2', h4]
        · rw [if_neg h4]
          refine ⟨by simp [h1, h2', h4], fun e => absurd (by simp [h1, h2', h4]) e, fun _ M' hM => ?_⟩
          obtain ⟨o1, o', e1, ⟨nb, rfl⟩, hv, hu, hO, hin, hq⟩ := hM.get hn (fun a b e => by obtain ⟨_, e⟩ := e; rw [e])
          rw [ho] at e1
          cases e1
          have htn := name_ne h1
          have h20 := teamOf_none.2 h2
          have hf := h.fr.add (x := x) (t := t) (u := []) (r := 0) (v' := fV M') (by rw [fV_org ho]; unfold oV; rw [if_neg htn, h20]) (fun a b c => by
            rw [hv]
            by_cases e : a = x
            · subst e
              rw [if_pos rfl, fV_org ho]
              unfold oV
              by_cases e2 : b = []
              · rw [if_pos e2, if_pos e2, if_neg (fun e3 => htn (e3.2.1.symm.trans e2))]
              · rw [if_neg e2, if_neg e2]
                by_cases e3 : b = t
                · subst e3
                  have e4 : teamOf (o.teams ++ [Tm.mk b nb []]) b = some (Tm.mk b nb []) := by
                    unfold teamOf at h20 ⊢
                    rw [List.find?_append, h20]
                    simp
                  simp only [e4, h20]
                  simp
                · have e4 : teamOf (o.teams ++ [Tm.mk t nb []]) b = teamOf o.teams b := by
                    unfold teamOf
                    rw [List.find?_append, List.find?_cons, show ((Tm.mk t nb []).name == b) = false by show (t == b) = false; simpa using fun e5 => e3 e5.symm]
                    simp
                  simp only [e4]
                  rw [if_neg (fun e5 => e3 e5.2.1)]
            · rw [if_neg e, if_neg (fun e3 => e e3.1)])
          refine ⟨by rw [hu]; exact h.U, by rw [hO]; exact h.O, hf.1, hf.2, by rw [hu]; exact h.nu, fun q hqi s hs => ?_⟩
          rcases hq q hqi with rfl | hq
          · have hs : s ∈ o.teams ++ [Tm.mk t nb []] := hs
            rcases List.mem_append.1 hs with h5 | h5
            · exact h.nt o hin s h5
            · simp at h5
              subst h5
              exact htn
          · exact h.nt q hq s hs
    · have h1' : isName t = false := by simpa using h1
      rw [if_pos h1']
      simp [h1']
/-- Put -/
theorem Rel.put (h : Rel M R) (hn : Nd M) (x t u : Hs) : (rPut R x t u).2 = M.putE x t u ∧ (M.putE x t u ≠ 0 → (rPut R x t u).1 = R) ∧ (M.putE x t u = 0 → ∀ M', OneIs M x (TeamIs t fun b b' => b' = { b with mem := addK b.mem u }) M' → Rel M' (rPut R x t u).1) := by
  unfold rPut Pm.putE
  rw [h.role hn]
  cases ho : M.org x with
  | none =>
    rw [if_pos (fun e => by rw [h.teams hn] at e; unfold teamsL at e; rw [ho] at e; cases e)]
    simp
  | some o =>
    dsimp only
    cases htm : teamOf o.teams t with
    | none =>
      rw [if_pos (fun e => teamOf_none.1 htm ((h.memT hn ho).1 e))]
      simp
    | some tm =>
      have htin := List.mem_of_find?_eq_some htm
      have htnm : tm.name = t := by simpa using List.find?_some htm
      have htn : t ≠ [] := by rw [← htnm]; exact h.nt o (org_in ho).1 tm htin
      rw [if_neg (fun e => e ((h.memT hn ho).2 (List.mem_map.2 ⟨tm, htin, htnm⟩)))]
      by_cases h3 : inRoles o.roles u = true
      · rw [if_neg (fun e => by rw [(role_iff hn ho).1 e] at h3; cases h3)]
        have hune : u ≠ [] := fun e => hn.noname h (org_in ho).1 (by unfold inRoles at h3; rw [← e]; simpa using h3)
        have hfv : fV M x t u = if u ∈ tm.mem then some 0 else none := by
          rw [fV_org ho]
          unfold oV
          simp [htn, htm, hune]
        by_cases h4 : u ∈ tm.mem
        · rw [if_pos h4] at hfv
          obtain ⟨k, e, _⟩ := h.fct_some hfv
          rw [if_pos (by rw [e]; omega)]
          simp [h3, h4]
        · rw [if_neg h4] at hfv
          rw [if_neg (by rw [h.fct_none hfv]; omega)]
          refine ⟨by simp [h3, h4], fun e => absurd (by simp [h3, h4]) e, fun _ M' hM => ?_⟩
          obtain ⟨o1, o', e1, hti, hv, hu, hO, hin, hq⟩ := hM.get hn (fun a b e => by obtain ⟨_, _, _, _, _, _, _, e⟩ := e; rw [e])
          rw [ho] at e1
          cases e1
          obtain ⟨tm1, tm', g1, g2, g3, rfl, g5, g6, g7⟩ := hti.get (hn.tn o hin) (fun a b e => by rw [e])
          rw [htm] at g1
          cases g1
          have hf := h.fr.add (x := x) (t := t) (u := u) (r := 0) (v' := fV M') hfv (fun a b c => by
            rw [hv]
            by_cases e : a = x
            · subst e
              rw [if_pos rfl, fV_org ho]
              unfold oV
              by_cases e2 : b = []
              · rw [if_pos e2, if_pos e2, g5, if_neg (fun e3 => htn (e3.2.1.symm.trans e2))]
              · rw [if_neg e2, if_neg e2, g6]
                by_cases e3 : b = t
                · subst e3
                  rw [if_pos rfl, htm]
                  by_cases e4 : c = u
                  · subst e4
                    simp [addK, h4]
                  · simp [addK, h4, e4]
                · rw [if_neg e3, if_neg (fun e5 => e3 e5.2.1)]
            · rw [if_neg e, if_neg (fun e3 => e e3.1)])
          refine ⟨by rw [hu]; exact h.U, by rw [hO]; exact h.O, hf.1, hf.2, by rw [hu]; exact h.nu, fun q hqi s hs => ?_⟩
          rcases hq q hqi with rfl | hq
          · obtain ⟨s', hs', e⟩ := List.mem_map.1 (g7 s hs)
            rw [← e]
            exact h.nt o hin s' hs'
          · exact h.nt q hq s hs
      · have h3' : inRoles o.roles u = false := by simpa using h3
        rw [if_pos ((role_iff hn ho).2 h3')]
        simp [h3']
/-- Out -/
theorem Rel.out (h : Rel M R) (hn : Nd M) (x t u : Hs) : (rOut R x t u).2 = M.outE x t u ∧ (M.outE x t u ≠ 0 → (rOut R x t u).1 = R) ∧ (M.outE x t u = 0 → ∀ M', OneIs M x (TeamIs t fun b b' => b' = tout u b) M' → Rel M' (rOut R x t u).1) := by
  have hno : fV M x t u = none → rOut R x t u = (R, 111) := fun e => by
    unfold rOut
    rw [if_pos (h.fct_iff.2 e)]
    split
    · rfl
    · split <;> rfl
  unfold Pm.outE
  cases ho : M.org x with
  | none =>
    rw [hno (by unfold fV; rw [ho])]
    simp
  | some o =>
    show _ = Oct.outE o.teams t u ∧ (Oct.outE o.teams t u ≠ 0 → _) ∧ (Oct.outE o.teams t u = 0 → _)
    unfold Oct.outE
    cases htm : teamOf o.teams t with
    | none =>
      by_cases ht : t = []
      · unfold rOut
        rw [if_pos ht]
        simp
      · rw [hno (by rw [fV_org ho]; unfold oV; rw [if_neg ht, htm])]
        simp
    | some tm =>
      have htin := List.mem_of_find?_eq_some htm
      have htnm : tm.name = t := by simpa using List.find?_some htm
      have htn : t ≠ [] := by rw [← htnm]; exact h.nt o (org_in ho).1 tm htin
      by_cases h4 : u ∈ tm.mem
      · have hune : u ≠ [] := fun e => hn.noname h (org_in ho).1 ((hn.ok o (org_in ho).1).mem tm htin _ (by rw [← e]; exact h4))
        have hfv : fV M x t u = some 0 := by
          rw [fV_org ho]
          unfold oV
          simp [htn, htm, h4]
        obtain ⟨k, e, hk⟩ := h.fct_some hfv
        unfold rOut
        rw [if_neg htn, if_neg hune, if_neg (by rw [e]; omega), e, Int.toNat_natCast]
        refine ⟨by simp [h4], fun e => absurd (by simp [h4]) e, fun _ M' hM => ?_⟩
        obtain ⟨o1, o', e1, hti, hv, hu, hO, hin, hq⟩ := hM.get hn (fun a b e => by obtain ⟨_, _, _, _, _, _, _, e⟩ := e; rw [e])
        rw [ho] at e1
        cases e1
        obtain ⟨tm1, tm', g1, g2, g3, rfl, g5, g6, g7⟩ := hti.get (hn.tn o hin) (fun a b e => by rw [e]; rfl)
        rw [htm] at g1
        cases g1
        have hf := h.fr.del (v' := fV M') hk (fun a b c => by
          rw [hv]
          by_cases e : a = x
          · subst e
            rw [if_pos rfl, fV_org ho]
            unfold oV
            by_cases e2 : b = []
            · rw [if_pos e2, if_pos e2, g5, if_neg (fun e3 => htn (e3.2.1.symm.trans e2))]
            · rw [if_neg e2, if_neg e2, g6]
              by_cases e3 : b = t
              · subst e3
                rw [if_pos rfl, htm]
                by_cases e4 : c = u
                · subst e4
                  simp [tout, kout, hune]
                · simp [tout, kout, e4]
              · rw [if_neg e3, if_neg (fun e5 => e3 e5.2.1)]
          · rw [if_neg e, if_neg (fun e3 => e e3.1)])
        refine ⟨by rw [hu]; exact h.U, by rw [hO]; exact h.O, hf.1, hf.2, by rw [hu]; exact h.nu, fun q hqi s hs => ?_⟩
        rcases hq q hqi with rfl | hq
        · obtain ⟨s', hs', e⟩ := List.mem_map.1 (g7 s hs)
          rw [← e]
          exact h.nt o hin s' hs'
        · exact h.nt q hq s hs
      · by_cases hune : u = []
        · unfold rOut
          rw [if_neg htn, if_pos hune]
          simp [h4]
        · rw [hno (by rw [fV_org ho]; unfold oV; simp [htn, htm, h4, hune])]
          simp [h4]
/-- every call: the same answer, and the two still say the same -/
theorem Rel.step (h : Rel M R) (hn : Nd M) (a : Av) (hd : Did M a M') : (rModel R a).2 = doE M a ∧ Rel M' (rModel R a).1 := by
  have key : ∀ (E : Int) (q : Rp × Int) (P : Prop), (q.2 = E ∧ (E ≠ 0 → q.1 = R) ∧ (E = 0 → P → Rel M' q.1)) → ((E ≠ 0 ∧ M' = M) ∨ (E = 0 ∧ P)) → q.2 = E ∧ Rel M' q.1 := by
    rintro E q P ⟨h1, h2, h3⟩ (⟨h4, rfl⟩ | ⟨h4, h5⟩)
    · exact ⟨h1, by rw [h2 h4]; exact h⟩
    · exact ⟨h1, h3 h4 h5⟩
  unfold Did doE DidK at hd
  unfold rModel doE
  by_cases k0 : a.k = 0
  · simp only [if_pos k0] at hd ⊢
    have h1 := h.addU hn a.u
    refine ⟨h1.1, ?_⟩
    rcases hd with ⟨h4, rfl⟩ | ⟨h4, rfl⟩
    · have : (M'.addUser a.u).2 = M' := by
        revert h4
        unfold Pm.addUser
        split
        · exact fun _ => rfl
        · split
          · exact fun _ => rfl
          · exact fun e => absurd rfl e
      rw [this] at h1
      exact h1.2
    · have : (M.addUser a.u).2 = { M with users := addK M.users a.u } := by
        revert h4
        unfold Pm.addUser
        split
        · exact fun e => absurd e (by assumption)
        · split
          · exact fun e => absurd e (by simp)
          · exact fun _ => rfl
      rw [← this]
      exact h1.2
  · simp only [if_neg k0] at hd ⊢
    by_cases k1 : a.k = 1
    · simp only [if_pos k1] at hd ⊢
      have h1 := h.addO hn a.x a.u
      exact key _ _ _ ⟨h1.1, h1.2.1, fun e ⟨b, hb⟩ => by rw [hb]; exact h1.2.2 e b⟩ hd
    · simp only [if_neg k1] at hd ⊢
      by_cases k2 : a.k = 2
      · simp only [if_pos k2] at hd ⊢
        have h1 := h.join hn a.x a.u a.r
        exact key _ _ _ ⟨h1.1, h1.2.1, fun e hb => h1.2.2 e M' hb⟩ hd
      · simp only [if_neg k2] at hd ⊢
        by_cases k3 : a.k = 3
        · simp only [if_pos k3] at hd ⊢
          have h1 := h.leave hn a.x a.u
          exact key _ _ _ ⟨h1.1, h1.2.1, fun e hb => h1.2.2 e M' hb⟩ hd
        · simp only [if_neg k3] at hd ⊢
          by_cases k4 : a.k = 4
          · simp only [if_pos k4] at hd ⊢
            have h1 := h.team hn a.x a.t
            exact key _ _ _ ⟨h1.1, h1.2.1, fun e hb => h1.2.2 e M' hb⟩ hd
          · simp only [if_neg k4] at hd ⊢
            by_cases k5 : a.k = 5
            · simp only [if_pos k5] at hd ⊢
              have h1 := h.put hn a.x a.t a.u
              exact key _ _ _ ⟨h1.1, h1.2.1, fun e hb => h1.2.2 e M' hb⟩ hd
            · simp only [if_neg k5] at hd ⊢
              have h1 := h.out hn a.x a.t a.u
              exact key _ _ _ ⟨h1.1, h1.2.1, fun e hb => h1.2.2 e M' hb⟩ hd
theorem rel_new (b : Nat) : Rel (Pm0 b) ⟨[], [], []⟩ := by
  refine ⟨by simp [Pm0, sortK], by simp [Pm0, orgsL, sortK], by simp, fun g => ?_, by simp [Pm0], by simp [Pm0]⟩
  simp [fV, Pm.org, Pm0]
end
#print axioms Rel.step
end Go.Proofs.Ytfickhhfhdhcbaa.Oct
