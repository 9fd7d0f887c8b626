/-
  Layer 15 (people): AddTeam, Put.
-/
import Derived.Test.YtfickhhfhdhcbaaJoin
namespace Go.Proofs.Ytfickhhfhdhcbaa.Oct
open Go.RowKit

theorem teamsKv_len (l : List Tm) : (teamsKv l).length = l.length := by simp [teamsKv]
def teamE (l : List Tm) (x : Hs) : Int := if begins (isTeam l x) x ≠ 0 then begins (isTeam l x) x else if 8 ≤ l.length then 3 else 0
/-- addTeam: a new team at block nb -/
def TeamP (w : World) (tb : Nat) (l : List Tm) (x : Hs) (w' : World) : Prop :=
  (teamE l x ≠ 0 ∧ Below w.heap.size w w') ∨ (teamE l x = 0 ∧ isTeam l x = false ∧ l.length < 8 ∧ ∃ w1 nb, Below w.heap.size w w1 ∧ w1.grownBy w' (some tb) ∧ MP w' tb (teamsKv (l ++ [Tm.mk x nb []])) ∧ w.heap.size ≤ nb ∧ MP w' nb (unit []))
set_option maxRecDepth 100000 in
theorem addTeam_in {w : World} {tb : Nat} {l : List Tm} (hm : MP w tb (teamsKv l)) (x : Hs) (hx : x.length ≤ 140737488355328) :
    Calls Try.prog 56 #[.map (some tb), hv x] w fun e w' => e = .returned (.int .i64 (teamE l x)) ∧ Hid (TeamP w tb l x w') := by
  have H : Hid (MP w tb (teamsKv l)) := hm
  have HX : Hid (x.length ≤ 140737488355328) := hx
  have HB : Hid (Calls Try.prog 71 #[.map (some tb), hv x] w fun e w' => e = .returned (.int .i64 (begins (isTeam l x) x)) ∧ Below w.heap.size w w') := by
    have := begin_S hm x hx
    rw [khas_teams] at this
    exact this
  obtain ⟨E, hE⟩ : ∃ E, teamE l x = E := ⟨_, rfl⟩
  have HE : Hid (teamE l x = E) := hE
  rw [hE]
  have HJ : Hid ((if begins (isTeam l x) x ≠ 0 then begins (isTeam l x) x else if 8 ≤ l.length then 3 else 0) = E) := hE
  obtain ⟨g, hgg⟩ : ∃ g, begins (isTeam l x) x = g := ⟨_, rfl⟩
  have HG : Hid (begins (isTeam l x) x = g) := hgg
  rw [hgg] at HB HJ
  have hmm := @run_makeMap Try.prog
  clear hm hx hE hgg
  by_cases hg : g = 0
  · subst hg
    by_cases hn : 8 ≤ l.length
    · have e0 : E = 3 := by have := HJ.out; rw [if_neg (by simp), if_pos hn] at this; exact this.symm
      subst e0
      have q1 : (8 : Int) ≤ (l.length : Int) := by omega
      clear hn HJ
      go_enter Try.func56, Try.ntmps56
      go_wp2_with fail
      refine HB.out.mono ?_
      rintro e w3 ⟨rfl, hb3⟩
      have H3 : Hid (MP w3 tb (teamsKv l) ∧ Below w.heap.size w w3) := ⟨H.out.same (hb3.block tb H.out.lt), hb3⟩
      have hlen : (Builtin.len_ #[70] 3 #[.map (some tb)]).run Try.prog w3 = .ok (.int .i64 (l.length : Int)) w3 := by
        have := H3.out.1.len (t := 70) Try.underlying70 3
        rwa [teamsKv_len] at this
      clear hb3
      go_wp2
      go_ret
      exact ⟨rfl, .inl ⟨by rw [HE.out]; omega, H3.out.2⟩⟩
    · have e0 : E = 0 := by have := HJ.out; rw [if_neg (by simp), if_neg hn] at this; exact this.symm
      subst e0
      have q1 : ¬ (8 : Int) ≤ (l.length : Int) := by omega
      have HN : Hid (l.length < 8) := by show _ < _; omega
      clear hn HJ
      go_enter Try.func56, Try.ntmps56
      go_wp2_with fail
      refine HB.out.mono ?_
      rintro e w3 ⟨rfl, hb3⟩
      have H3 : Hid (MP w3 tb (teamsKv l) ∧ Below w.heap.size w w3) := ⟨H.out.same (hb3.block tb H.out.lt), hb3⟩
      have hlen : (Builtin.len_ #[70] 3 #[.map (some tb)]).run Try.prog w3 = .ok (.int .i64 (l.length : Int)) w3 := by
        have := H3.out.1.len (t := 70) Try.underlying70 3
        rwa [teamsKv_len] at this
      obtain ⟨w5, hrun, m1, m2, m3⟩ := (H3.out.1.same (Below.heap_alloc w3 (.map #[] 0) tb H3.out.1.lt)).put (t := 70) (h := x) Try.underlying70 (len_max HX.out) (.map (some w3.heap.size))
      have HF : Hid (TeamP w tb l x w5) := by
        have hb := begins_zero HG.out
        refine .inr ⟨HE.out, hb.1, HN.out, w3.alloc (.map #[] 0), w3.heap.size, H3.out.2.alloc H3.out.2.size _, m2, ?_, H3.out.2.size, (MP.made w3).same (m2.block _ (by simp) (by have := H3.out.1.lt; simp; omega))⟩
        have e : kput (teamsKv l) x (.map (some w3.heap.size)) = teamsKv (l ++ [Tm.mk x w3.heap.size []]) := by
          unfold kput
          rw [khas_teams, hb.1]
          simp [teamsKv]
        rwa [e] at m1
      clear hb3 m1 m2 m3
      go_wp2
      go_ret
      exact ⟨rfl, HF.out⟩
  · have e0 : E = g := by have := HJ.out; rw [if_pos hg] at this; exact this.symm
    subst e0
    have q1 : (E == 0) = false := by simpa using hg
    have q2 : (E != 0) = true := by simpa using hg
    have HNZ : Hid (E ≠ 0) := hg
    clear hg HJ
    go_enter Try.func56, Try.ntmps56
    go_wp2_with fail
    refine HB.out.mono ?_
    rintro e w3 ⟨rfl, hb3⟩
    have H3 : Hid (Below w.heap.size w w3) := hb3
    clear hb3
    go_wp2
    go_ret
    exact ⟨rfl, .inl ⟨by rw [HE.out]; exact HNZ.out, H3.out⟩⟩
#print axioms addTeam_in

def Pm.teamE (M : Pm) (x t : Hs) : Int := match M.org x with
  | none => 111
  | some o => Oct.teamE o.teams t
set_option maxRecDepth 100000 in
theorem addTeam_is {w : World} {p : Nat} {M : Pm} (h : PAt w p M) (x t : Hs) (hx : x.length ≤ 140737488355328) (hl : t.length ≤ 140737488355328) : Calls Try.prog 28 #[.pointer (some ⟨p, 0, none⟩), hv x, hv t] w fun e w' => e = .returned (.int .i64 (M.teamE x t)) ∧ ∃ M', PAfter w p M M' w' ∧ Hid ((M.teamE x t ≠ 0 ∧ M' = M) ∨ (M.teamE x t = 0 ∧ OneIs M x (fun o o' => ∃ nb, o' = { o with teams := o.teams ++ [Tm.mk t nb []] }) M')) := by
  have H : Hid (PAt w p M) := h
  have HX : Hid (x.length ≤ 140737488355328) := hx
  have HL : Hid (t.length ≤ 140737488355328) := hl
  obtain ⟨E, hE⟩ : ∃ E, M.teamE x t = E := ⟨_, rfl⟩
  have HE : Hid (M.teamE x t = E) := hE
  rw [hE]
  clear h hx hl hE
  cases ho : M.org x with
  | none =>
    have e0 : E = 111 := by have := HE.out; unfold Pm.teamE at this; rw [ho] at this; exact this.symm
    subst e0
    have HO : Hid (M.org x = none) := ho
    clear ho
    go_enter Try.func28, Try.ntmps28
    go_wp2_with fail
    refine (find_is H.out x HX.out).mono ?_
    rintro e w2 ⟨rfl, rfl⟩
    rw [HO.out]
    unfold foundOf
    simp only [Option.isSome_none, Bool.false_eq_true, if_false]
    go_wp2
    go_ret
    exact ⟨rfl, M, PAfter.same H.out (Below.refl _ _), .inl ⟨by omega, rfl⟩⟩
  | some o =>
    have HO : Hid (M.org x = some o ∧ Oct.teamE o.teams t = E) := ⟨ho, by have := HE.out; unfold Pm.teamE at this; rw [ho] at this; exact this⟩
    obtain ⟨A, B, hm, hA⟩ : ∃ A B, o ∈ M.orgs ∧ M.orgs = A ++ o :: B := by
      obtain ⟨h1, h2, A, B, h3, _⟩ := H.out.split ho
      exact ⟨A, B, h1, h3⟩
    have HA : Hid (o ∈ M.orgs ∧ M.orgs = A ++ o :: B) := ⟨hm, hA⟩
    obtain ⟨ok, hok⟩ : ∃ ok, o.blk = ok := ⟨_, rfl⟩
    have HOK : Hid (o.blk = ok) := hok
    have d0 : w.cell? ⟨ok, 0, none⟩ = some (.map (some o.tb)) := by rw [← hok]; exact (H.out.oblk hm).cell rfl
    clear ho hm hA hok
    go_enter Try.func28, Try.ntmps28
    go_wp2_with fail
    refine (find_is H.out x HX.out).mono ?_
    rintro e w2 ⟨rfl, rfl⟩
    rw [HO.out.1]
    unfold foundOf
    simp only [Option.isSome_some, if_true]
    rw [HOK.out]
    go_wp2_with fail
    refine (addTeam_in (H.out.oteams HA.out.1) t HL.out).mono ?_
    rintro e w3 ⟨rfl, hT⟩
    rw [HO.out.2]
    have HF : Hid (∃ M', PAfter w p M M' w3 ∧ Hid ((E ≠ 0 ∧ M' = M) ∨ (E = 0 ∧ OneIs M x (fun o o' => ∃ nb, o' = { o with teams := o.teams ++ [Tm.mk t nb []] }) M'))) := by
      rcases hT.out with ⟨h1, h2⟩ | ⟨h1, h2, h3, w1, nb, k1, k2, k3, k4, k5⟩
      · exact ⟨M, PAfter.same H.out h2, .inl ⟨by rw [← HO.out.2]; exact h1, rfl⟩⟩
      · have k := H.out.ok o HA.out.1
        refine ⟨_, H.out.moreOrg HA.out.2 (o' := { o with teams := o.teams ++ [Tm.mk t nb []] }) rfl rfl k1 (P := [(o.blk, .cells 73 [.map (some o.tb), .map (some o.rb)])]) (Q := (o.rb, .kv (rolesKv o.roles)) :: o.teams.map tmHp) (b := o.tb) (nb := nb) (c := .kv (teamsKv o.teams)) (c' := .kv (teamsKv (o.teams ++ [Tm.mk t nb []]))) (c2 := .kv (unit [])) rfl (by simp [Og.hp, tmHp]) k2 k3 k4 k5 ⟨by show (o.teams ++ [_]).length ≤ 8; rw [List.length_append]; exact h3, k.roles, k.owner, fun y hy j hj => ?_⟩, .inr ⟨by rw [← HO.out.2]; exact h1, A, o, B, _, HO.out.1, HA.out.2, ⟨nb, rfl⟩, rfl⟩⟩
        rcases List.mem_append.1 hy with hy | hy
        · exact k.mem y hy j hj
        · obtain rfl : y = Tm.mk t nb [] := by simpa using hy
          cases hj
    clear hT d0
    go_wp2
    go_ret
    exact ⟨rfl, HF.out⟩
#print axioms addTeam_is
end Go.Proofs.Ytfickhhfhdhcbaa.Oct
