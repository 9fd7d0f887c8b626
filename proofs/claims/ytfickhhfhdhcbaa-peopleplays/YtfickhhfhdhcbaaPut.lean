/-
  Layer 15 (people): Put.
-/
import Derived.Test.YtfickhhfhdhcbaaTeam
namespace Go.Proofs.Ytfickhhfhdhcbaa.Oct
open Go.RowKit

def teamOf (l : List Tm) (t : Hs) : Option Tm := l.find? (fun r => r.name == t)
theorem look_team {w : World} {tb : Nat} {l : List Tm} (hm : MP w tb (teamsKv l)) {t : Hs} (hl : t.length ≤ 140737488355328) {tm : Tm} (ht : teamOf l t = some tm) : (Instr.lookup 70 (.map (some tb)) (hv t) false).run Try.prog w = .ok (.map (some tm.blk)) w := by
  have := hm.look (t := 70) (h := t) Try.underlying70 (len_max hl) (zero48 w)
  rw [kget_teams, show l.find? (fun r => r.name == t) = some tm from ht] at this
  exact this
theorem teamOf_isTeam {l : List Tm} {t : Hs} : isTeam l t = (teamOf l t).isSome := by
  rw [← khas_teams]
  unfold khas
  rw [kget_teams]
  unfold teamOf
  cases l.find? (fun r => r.name == t) <;> rfl
def PutP (w : World) (tm : Tm) (u : Hs) (w' : World) : Prop := (u ∈ tm.mem ∧ Below w.heap.size w w') ∨ (u ∉ tm.mem ∧ ∃ w1, Below w.heap.size w w1 ∧ w1.grownBy w' (some tm.blk) ∧ MP w' tm.blk (unit (addK tm.mem u)))
set_option maxRecDepth 100000 in
theorem put_in {w : World} {tb : Nat} {l : List Tm} (hm : MP w tb (teamsKv l)) (t u : Hs) (hl : t.length ≤ 140737488355328) (hu : u.length ≤ 140737488355328) {tm : Tm} (ht : teamOf l t = some tm) (hs : MP w tm.blk (unit tm.mem)) :
    Calls Try.prog 58 #[.map (some tb), hv t, hv u] w fun e w' => e = .returned (.int .i64 (if decide (u ∈ tm.mem) then 110 else 0)) ∧ Hid (PutP w tm u w') := by
  have H : Hid (MP w tb (teamsKv l) ∧ MP w tm.blk (unit tm.mem) ∧ t.length ≤ 140737488355328 ∧ u.length ≤ 140737488355328 ∧ teamOf l t = some tm) := ⟨hm, hs, hl, hu, ht⟩
  have hlk := look_team hm hl ht
  obtain ⟨b, hb⟩ : ∃ b, tm.blk = b := ⟨_, rfl⟩
  have HB : Hid (tm.blk = b) := hb
  rw [hb] at hlk
  obtain ⟨s, hsv⟩ : ∃ s, hv t = s := ⟨_, rfl⟩
  have HS : Hid (hv t = s) := hsv
  rw [hsv] at hlk ⊢
  obtain ⟨c, hc⟩ : ∃ c, decide (u ∈ tm.mem) = c := ⟨_, rfl⟩
  have HC : Hid (decide (u ∈ tm.mem) = c) := hc
  rw [hc]
  clear hm hl hu ht hs hb hsv hc
  cases c with
  | true =>
    simp only [if_true]
    go_enter Try.func58, Try.ntmps58
    go_wp2_with fail
    rw [← HB.out]
    refine (has_is H.out.2.1 u H.out.2.2.2.1).mono ?_
    rintro e w2 ⟨rfl, hb2⟩
    have H2 : Hid (Below w.heap.size w w2) := hb2
    rw [HC.out]
    clear hb2 hlk
    go_wp2
    go_ret
    exact ⟨rfl, .inl ⟨by have := HC.out; simpa using this, H2.out⟩⟩
  | false =>
    simp only [Bool.false_eq_true, if_false]
    go_enter Try.func58, Try.ntmps58
    go_wp2_with fail
    rw [← HB.out]
    refine (has_is H.out.2.1 u H.out.2.2.2.1).mono ?_
    rintro e w2 ⟨rfl, hb2⟩
    have H2 : Hid (Below w.heap.size w w2 ∧ MP w2 tm.blk (unit tm.mem)) := ⟨hb2, H.out.2.1.same (hb2.block _ H.out.2.1.lt)⟩
    have hlk2 := look_team (H.out.1.same (hb2.block _ H.out.1.lt)) H.out.2.2.1 H.out.2.2.2.2
    rw [HS.out] at hlk2
    rw [HC.out]
    clear hb2 hlk
    go_wp2_with fail
    refine (add_is H2.out.2 u H.out.2.2.2.1).mono ?_
    rintro e w3 ⟨rfl, h1, h2, h3⟩
    have H3 : Hid (PutP w tm u w3) := .inr ⟨by have := HC.out; simpa using this, w2, H2.out.1, h2, h1⟩
    clear h1 h2 h3 hlk2
    go_wp2
    go_ret
    exact ⟨rfl, H3.out⟩
#print axioms put_in

def Pm.putE (M : Pm) (x t u : Hs) : Int := match M.org x with
  | none => 111
  | some o => match teamOf o.teams t with
    | none => 111
    | some tm => if inRoles o.roles u then (if decide (u ∈ tm.mem) then 110 else 0) else 111
/-- a team of an organisation is changed -/
def TeamIs (t : Hs) (f : Tm → Tm → Prop) (o o' : Og) : Prop := ∃ S tm T tm', teamOf o.teams t = some tm ∧ o.teams = S ++ tm :: T ∧ f tm tm' ∧ o' = { o with teams := S ++ tm' :: T }
set_option maxRecDepth 100000 in
theorem put_is {w : World} {p : Nat} {M : Pm} (h : PAt w p M) (x t u : Hs) (hx : x.length ≤ 140737488355328) (hl : t.length ≤ 140737488355328) (hu : u.length ≤ 140737488355328) {o : Og} (ho : M.org x = some o) {tm : Tm} (ht : teamOf o.teams t = some tm) (hi : inRoles o.roles u = true) :
    Calls Try.prog 29 #[.pointer (some ⟨p, 0, none⟩), hv x, hv t, hv u] w fun e w' => e = .returned (.int .i64 (if decide (u ∈ tm.mem) then 110 else 0)) ∧ ∃ M', PAfter w p M M' w' ∧ Hid ((u ∈ tm.mem ∧ M' = M) ∨ (u ∉ tm.mem ∧ OneIs M x (TeamIs t fun a a' => a' = { a with mem := addK a.mem u }) M')) := by
  have H : Hid (PAt w p M ∧ x.length ≤ 140737488355328 ∧ t.length ≤ 140737488355328 ∧ u.length ≤ 140737488355328) := ⟨h, hx, hl, hu⟩
  obtain ⟨A, B, hm, hA⟩ : ∃ A B, o ∈ M.orgs ∧ M.orgs = A ++ o :: B := by
    obtain ⟨h1, h2, A, B, h3, _⟩ := h.split ho
    exact ⟨A, B, h1, h3⟩
  have htm := List.mem_of_find?_eq_some ht
  obtain ⟨S, T, hST⟩ := List.append_of_mem htm
  have HO : Hid (M.org x = some o ∧ teamOf o.teams t = some tm ∧ inRoles o.roles u = true ∧ o ∈ M.orgs ∧ M.orgs = A ++ o :: B ∧ tm ∈ o.teams ∧ o.teams = S ++ tm :: T) := ⟨ho, ht, hi, hm, hA, htm, hST⟩
  obtain ⟨ok, hok⟩ : ∃ ok, o.blk = ok := ⟨_, rfl⟩
  have HOK : Hid (o.blk = ok) := hok
  have d0 : w.cell? ⟨ok, 0, none⟩ = some (.map (some o.tb)) := by rw [← hok]; exact (h.oblk hm).cell rfl
  obtain ⟨E, hE⟩ : ∃ E : Int, (if decide (u ∈ tm.mem) then 110 else 0) = E := ⟨_, rfl⟩
  have HE : Hid ((if decide (u ∈ tm.mem) then 110 else 0) = E) := hE
  rw [hE]
  clear h hx hl hu ho ht hi hm hA htm hST hok hE
  go_enter Try.func29, Try.ntmps29
  go_wp2_with fail
  refine (find_is H.out.1 x H.out.2.1).mono ?_
  rintro e w2 ⟨rfl, rfl⟩
  rw [HO.out.1]
  unfold foundOf
  simp only [Option.isSome_some, if_true]
  rw [HOK.out]
  go_wp2_with fail
  refine (isTeam_is (H.out.1.oteams HO.out.2.2.2.1) t H.out.2.2.1).mono ?_
  rintro e w3 ⟨rfl, rfl⟩
  rw [teamOf_isTeam, HO.out.2.1]
  simp only [Option.isSome_some]
  go_wp2_with fail
  rw [← HOK.out]
  refine (member_is (H.out.1.oblk HO.out.2.2.2.1) (H.out.1.oroles HO.out.2.2.2.1) u H.out.2.2.2).mono ?_
  rintro e w4 ⟨rfl, rfl⟩
  rw [HO.out.2.2.1, HOK.out]
  go_wp2_with fail
  refine (put_in (H.out.1.oteams HO.out.2.2.2.1) t u H.out.2.2.1 H.out.2.2.2 HO.out.2.1 (H.out.1.oteam HO.out.2.2.2.1 HO.out.2.2.2.2.2.1)).mono ?_
  rintro e w5 ⟨rfl, hP⟩
  rw [HE.out]
  have HF : Hid (∃ M', PAfter w p M M' w5 ∧ Hid ((u ∈ tm.mem ∧ M' = M) ∨ (u ∉ tm.mem ∧ OneIs M x (TeamIs t fun a a' => a' = { a with mem := addK a.mem u }) M'))) := by
    rcases hP.out with ⟨h1, h2⟩ | ⟨h1, w1, h2, h3, h4⟩
    · exact ⟨M, PAfter.same H.out.1 h2, .inl ⟨h1, rfl⟩⟩
    · have hA1 := H.out.1.below h2
      have k := hA1.ok o HO.out.2.2.2.1
      have hmem : u ∈ o.roles.map (·.1) := by have := HO.out.2.2.1; simpa [inRoles] using this
      have hST := HO.out.2.2.2.2.2.2
      refine ⟨_, PAfter.first h2 (hA1.turnOrg HO.out.2.2.2.2.1 (o' := { o with teams := S ++ { tm with mem := addK tm.mem u } :: T }) rfl rfl (P := (o.blk, .cells 73 [.map (some o.tb), .map (some o.rb)]) :: (o.tb, .kv (teamsKv o.teams)) :: (o.rb, .kv (rolesKv o.roles)) :: S.map tmHp) (Q := T.map tmHp) (b := tm.blk) (c := .kv (unit tm.mem)) (c' := .kv (unit (addK tm.mem u))) ?_ ?_ h3 h4 ⟨?_, k.roles, k.owner, fun y hy j hj => ?_⟩), .inr ⟨h1, A, o, B, _, HO.out.1, HO.out.2.2.2.2.1, ⟨S, tm, T, _, HO.out.2.1, hST, rfl, rfl⟩, rfl⟩⟩
      · unfold Og.hp
        rw [hST]
        simp [tmHp]
      · unfold Og.hp
        have e : teamsKv (S ++ { tm with mem := addK tm.mem u } :: T) = teamsKv o.teams := by rw [hST]; simp [teamsKv]
        rw [← e]
        simp [tmHp]
      · have := k.teams
        rw [hST] at this
        simpa using this
      · have hk := k.mem
        rw [hST] at hk
        rcases List.mem_append.1 hy with hy | hy
        · exact hk y (List.mem_append.2 (.inl hy)) j hj
        · rcases List.mem_cons.1 hy with rfl | hy
          · have hj2 : j ∈ addK tm.mem u := hj
            unfold addK at hj2
            split at hj2
            · exact hk tm (by simp) j hj2
            · rcases List.mem_append.1 hj2 with hj2 | hj2
              · exact hk tm (by simp) j hj2
              · obtain rfl : j = u := by simpa using hj2
                exact hmem
          · exact hk y (List.mem_append.2 (.inr (List.mem_cons_of_mem _ hy))) j hj
  clear hP d0
  go_wp2
  go_ret
  exact ⟨rfl, HF.out⟩
#print axioms put_is
end Go.Proofs.Ytfickhhfhdhcbaa.Oct
