/-
  Layer 15 (people): Leave, Out, Put whole.
-/
import Derived.Test.YtfickhhfhdhcbaaLeu
namespace Go.Proofs.Ytfickhhfhdhcbaa.Oct
open Go.RowKit
set_option linter.unusedSimpArgs false
set_option linter.unusedVariables false

theorem PAt.oapart {w : World} {p : Nat} {M : Pm} {o : Og} (h : PAt w p M) (ho : o ∈ M.orgs) : (o.blk :: o.tb :: o.rb :: o.teams.map (·.blk)).Nodup := by
  obtain ⟨A, B, hA⟩ := List.append_of_mem ho
  have hap := h.hp.apart
  rw [Pm.hp_split hA, List.map_append, List.map_append] at hap
  obtain ⟨_, n2, _⟩ := List.nodup_append.1 hap
  obtain ⟨m1, _, _⟩ := List.nodup_append.1 n2
  rwa [Og.hp_blks] at m1
theorem PAt.rnodup {w : World} {p : Nat} {M : Pm} {o : Og} (h : PAt w p M) (ho : o ∈ M.orgs) : (o.roles.map (·.1)).Nodup := by
  have := (h.oroles ho).nodup
  rwa [rolesKv_keys] at this
def Pm.leaveE (M : Pm) (x u : Hs) : Int := match M.org x with
  | none => 111
  | some o => if inRoles o.roles u then (if lastOwner o.roles u then 151 else 0) else 111
set_option maxRecDepth 100000 in
set_option maxHeartbeats 1000000 in
theorem leave_is {w : World} {p : Nat} {M : Pm} (h : PAt w p M) (x u : Hs) (hx : x.length ≤ 140737488355328) (hl : u.length ≤ 140737488355328) :
    Calls Try.prog 26 #[.pointer (some ⟨p, 0, none⟩), hv x, hv u] w fun e w' => e = .returned (.int .i64 (M.leaveE x u)) ∧ ∃ M', PAfter w p M M' w' ∧ Hid ((M.leaveE x u ≠ 0 ∧ M' = M) ∨ (M.leaveE x u = 0 ∧ OneIs M x (fun o o' => o' = o.out u) M')) := by
  have H : Hid (PAt w p M) := h
  have HX : Hid (x.length ≤ 140737488355328) := hx
  have HL : Hid (u.length ≤ 140737488355328) := hl
  obtain ⟨ro, hro⟩ : ∃ ro, M.org x = ro := ⟨_, rfl⟩
  have HO : Hid (M.org x = ro) := hro
  cases ro with
  | none =>
    have hE : M.leaveE x u = 111 := by unfold Pm.leaveE; rw [hro]
    rw [hE]
    clear h hx hl hro hE
    go_enter Try.func26, Try.ntmps26
    go_wp2_with fail
    refine (find_is H.out x HX.out).mono ?_
    rintro e w2 ⟨rfl, rfl⟩
    rw [HO.out]
    unfold foundOf
    simp only [Option.isSome_none, Bool.false_eq_true, if_false]
    go_wp2
    go_ret
    exact ⟨rfl, M, PAfter.same H.out (Below.refl _ _), .inl ⟨by decide, rfl⟩⟩
  | some o =>
    obtain ⟨hm, hnx, A, B, hA, _⟩ := h.split hro
    by_cases hi : inRoles o.roles u = true
    · by_cases hlo : lastOwner o.roles u = true
      · have hE : M.leaveE x u = 151 := by unfold Pm.leaveE; rw [hro]; simp [hi, hlo]
        rw [hE]
        refine (leave_last h x u hx hl hro hi hlo).mono ?_
        rintro e w' ⟨rfl, h1⟩
        exact ⟨rfl, M, h1, .inl ⟨by decide, rfl⟩⟩
      · have hlo' : lastOwner o.roles u = false := by simpa using hlo
        have hE : M.leaveE x u = 0 := by unfold Pm.leaveE; rw [hro]; simp [hi, hlo']
        rw [hE]
        have HM : Hid (inRoles o.roles u = true ∧ lastOwner o.roles u = false ∧ o ∈ M.orgs ∧ M.orgs = A ++ o :: B) := ⟨hi, hlo', hm, hA⟩
        obtain ⟨ok, hok⟩ : ∃ ok, o.blk = ok := ⟨_, rfl⟩
        have HOK : Hid (o.blk = ok) := hok
        obtain ⟨rb, hrb⟩ : ∃ rb, o.rb = rb := ⟨_, rfl⟩
        obtain ⟨tb, htb⟩ : ∃ tb, o.tb = tb := ⟨_, rfl⟩
        have HRB : Hid (o.rb = rb ∧ o.tb = tb) := ⟨hrb, htb⟩
        obtain ⟨su, hsu⟩ : ∃ s, hv u = s := ⟨_, rfl⟩
        have HSU : Hid (hv u = su) := hsu
        clear h hx hl hro hE hm hnx hA hi hlo hlo' hok hrb htb hsu
        go_enter Try.func26, Try.ntmps26
        go_wp2_with fail
        refine (find_is H.out x HX.out).mono ?_
        rintro e w2 ⟨rfl, rfl⟩
        rw [HO.out]
        unfold foundOf
        simp only [Option.isSome_some, if_true]
        rw [HOK.out]
        go_wp2_with fail
        rw [← HOK.out]
        refine (member_is (H.out.oblk HM.out.2.2.1) (H.out.oroles HM.out.2.2.1) u HL.out).mono ?_
        rintro e w3 ⟨rfl, rfl⟩
        rw [HM.out.1, HOK.out]
        go_wp2_with fail
        rw [← HOK.out]
        refine (lastOwner_is (H.out.oblk HM.out.2.2.1) (H.out.oroles HM.out.2.2.1) (by have := H.out.few HM.out.2.2.1; omega) u HL.out).mono ?_
        rintro e w5 ⟨rfl, hb5⟩
        have H5 : Hid (Below w.heap.size w w5 ∧ PAt w5 p M) := ⟨hb5, H.out.below hb5⟩
        rw [HM.out.2.1, HOK.out]
        have hnd := H5.out.2.oapart HM.out.2.2.1
        obtain ⟨w6, hdel, hd1, hd2, hd3⟩ := (H5.out.2.oroles HM.out.2.2.1).del (t := 71) (h := u) Try.underlying71 (len_max HL.out) 0
        rw [rdel_kv] at hd1
        rw [HRB.out.1, HSU.out] at hdel
        have c1 : w5.cell? ⟨ok, 1, none⟩ = some (.map (some rb)) := by rw [← HOK.out, ← HRB.out.1]; exact (H5.out.2.oblk HM.out.2.2.1).cell rfl
        have k6 : ∀ b, b ≠ o.rb → b < w5.heap.size → w6.heap[b]? = w5.heap[b]? := fun b hb hl' => hd2.block b hl' (fun e => hb (by cases e; rfl))
        have hb6 : Blk w6 o.blk 73 [.map (some o.tb), .map (some o.rb)] := (k6 o.blk (fun e => by rw [List.nodup_cons] at hnd; exact hnd.1 (by rw [e]; simp)) (H5.out.2.oblk HM.out.2.2.1).lt).trans (H5.out.2.oblk HM.out.2.2.1)
        have c0 : w6.cell? ⟨ok, 0, none⟩ = some (.map (some tb)) := by rw [← HOK.out, ← HRB.out.2]; exact hb6.cell rfl
        obtain ⟨_, hnd2⟩ := List.nodup_cons.1 hnd
        obtain ⟨n1, hnd3⟩ := List.nodup_cons.1 hnd2
        obtain ⟨n2, hnd4⟩ := List.nodup_cons.1 hnd3
        have hntb : o.tb ≠ o.rb := fun e => n1 (by rw [e]; simp)
        have HT := outTeams_is (w := w6) (tb := o.tb) (l := o.teams) ((H5.out.2.oteams HM.out.2.2.1).same (k6 _ hntb (H5.out.2.oteams HM.out.2.2.1).lt)) (fun t ht => (H5.out.2.oteam HM.out.2.2.1 ht).same (k6 _ (fun e => n2 (by rw [← e]; exact List.mem_map.2 ⟨t, ht, rfl⟩)) (H5.out.2.oteam HM.out.2.2.1 ht).lt)) (List.nodup_cons.2 ⟨fun e => n1 (List.mem_cons_of_mem _ e), hnd4⟩) u HL.out
        rw [HRB.out.2, HSU.out] at HT
        have HD : Hid (MP w6 o.rb (rolesKv (rdel o.roles u)) ∧ w5.grownBy w6 (some o.rb) ∧ o.rb ∉ o.teams.map (·.blk)) := ⟨hd1, hd2, n2⟩
        rw [HSU.out]
        clear hb5 hnd hd1 hd2 hd3 k6 hb6 hnd2 n1 hnd3 n2 hnd4 hntb
        go_wp2_with fail
        refine HT.mono ?_
        rintro e w7 ⟨rfl, hk7, hm7⟩
        have HF : Hid (PAfter w p M { M with orgs := A ++ o.out u :: B } w7) := by
          refine PAfter.first H5.out.1 (H5.out.2.turnAll (o' := o.out u) HM.out.2.2.2 rfl rfl rfl rfl (teamsKv_tout _ _) (blks_tout _ _) ?_ ?_ ?_ ((H5.out.2.ok o HM.out.2.2.1).out (H5.out.2.rnodup HM.out.2.2.1) HM.out.2.1))
          · exact (Keep.grown (S := fun k => k = o.rb ∨ k ∈ o.teams.map (·.blk)) HD.out.2.1 (.inl rfl)).trans hk7 (fun j hj _ => .inr hj)
          · exact HD.out.1.same (hk7.block _ HD.out.1.lt HD.out.2.2)
          · intro t ht
            obtain ⟨t', ht', rfl⟩ := List.mem_map.1 ht
            exact hm7 t' ht'
        clear HT hk7 hm7 c0 c1 hdel
        go_wp2
        go_ret
        exact ⟨rfl, _, HF.out, .inr ⟨by trivial, A, o, B, _, HO.out, HM.out.2.2.2, rfl, rfl⟩⟩
    · have hi' : inRoles o.roles u = false := by simpa using hi
      have hE : M.leaveE x u = 111 := by unfold Pm.leaveE; rw [hro]; simp [hi']
      rw [hE]
      have HM : Hid (inRoles o.roles u = false ∧ o ∈ M.orgs) := ⟨hi', hm⟩
      obtain ⟨ok, hok⟩ : ∃ ok, o.blk = ok := ⟨_, rfl⟩
      have HOK : Hid (o.blk = ok) := hok
      clear h hx hl hro hE hm hnx hA hi hi' hok
      go_enter Try.func26, Try.ntmps26
      go_wp2_with fail
      refine (find_is H.out x HX.out).mono ?_
      rintro e w2 ⟨rfl, rfl⟩
      rw [HO.out]
      unfold foundOf
      simp only [Option.isSome_some, if_true]
      rw [HOK.out]
      go_wp2_with fail
      rw [← HOK.out]
      refine (member_is (H.out.oblk HM.out.2) (H.out.oroles HM.out.2) u HL.out).mono ?_
      rintro e w3 ⟨rfl, rfl⟩
      rw [HM.out.1, HOK.out]
      go_wp2
      go_ret
      exact ⟨rfl, M, PAfter.same H.out (Below.refl _ _), .inl ⟨by decide, rfl⟩⟩
#print axioms leave_is
set_option maxRecDepth 100000 in
theorem has_nil (w : World) (h : Hs) (hl : h.length ≤ 140737488355328) : Calls Try.prog 51 #[.map none, hv h] w fun e w' => e = .returned (.bool false) ∧ Below w.heap.size w w' := by
  have hlk := look_nil (t := 48) (w := w) (h := h) Try.underlying48 (len_max hl) true (zero63 w)
  simp only [lkv, Option.map_none, Option.getD_none, Option.isSome_none, if_true] at hlk
  generalize hv h = x at hlk ⊢
  go_enter Try.func51, Try.ntmps51
  go_wp2
  go_ret
  exact ⟨rfl, (Below.refl _ w).alloc (Nat.le_refl _) _⟩
def outE (l : List Tm) (t u : Hs) : Int := match teamOf l t with
  | none => 111
  | some tm => if decide (u ∈ tm.mem) then 0 else 111
/-- what outOfTeam leaves -/
def OutP (w : World) (l : List Tm) (t u : Hs) (w' : World) : Prop := (outE l t u ≠ 0 ∧ Below w.heap.size w w') ∨ (outE l t u = 0 ∧ ∃ tm w1, teamOf l t = some tm ∧ Below w.heap.size w w1 ∧ w1.grownBy w' (some tm.blk) ∧ MP w' tm.blk (unit (kout tm.mem u)))
set_option maxRecDepth 100000 in
theorem out_in {w : World} {tb : Nat} {l : List Tm} (hm : MP w tb (teamsKv l)) (t u : Hs) (hl : t.length ≤ 140737488355328) (hu : u.length ≤ 140737488355328) (hs : ∀ t ∈ l, MP w t.blk (unit t.mem)) :
    Calls Try.prog 59 #[.map (some tb), hv t, hv u] w fun e w' => e = .returned (.int .i64 (outE l t u)) ∧ Hid (OutP w l t u w') := by
  obtain ⟨st, hst⟩ : ∃ s, hv t = s := ⟨_, rfl⟩
  have HS : Hid (hv t = st) := hst
  cases ht : teamOf l t with
  | none =>
    have hlk := hm.look (t := 70) (h := t) Try.underlying70 (len_max hl) (zero48 w)
    rw [show (kget (teamsKv l) t).getD (.map none) = .map none by rw [kget_teams]; unfold teamOf at ht; rw [ht]; rfl, hst] at hlk
    have HN := has_nil w u hu
    have hE : outE l t u = 111 := by unfold outE; rw [ht]
    have HE : Hid (outE l t u = 111) := hE
    rw [hE, hst]
    clear hm hl hu hs hst ht hE
    go_enter Try.func59, Try.ntmps59
    go_wp2_with fail
    refine HN.mono ?_
    rintro e w2 ⟨rfl, hb2⟩
    have HB : Hid (Below w.heap.size w w2) := hb2
    clear HN hb2 hlk
    go_wp2
    go_ret
    exact ⟨rfl, .inl ⟨by rw [HE.out]; decide, HB.out⟩⟩
  | some tm =>
    have htm := List.mem_of_find?_eq_some ht
    have hlk := look_team hm hl ht
    obtain ⟨b, hb⟩ : ∃ b, tm.blk = b := ⟨_, rfl⟩
    have HB : Hid (tm.blk = b ∧ u.length ≤ 140737488355328 ∧ teamOf l t = some tm ∧ MP w tm.blk (unit tm.mem) ∧ MP w tb (teamsKv l) ∧ t.length ≤ 140737488355328) := ⟨hb, hu, ht, hs tm htm, hm, hl⟩
    have HN := has_is (hs tm htm) u hu
    rw [hst, hb] at hlk
    rw [hb] at HN
    by_cases hc : u ∈ tm.mem
    · have hE : outE l t u = 0 := by unfold outE; rw [ht]; simp [hc]
      have HE : Hid (outE l t u = 0) := hE
      rw [decide_eq_true hc] at HN
      obtain ⟨su, hsu⟩ : ∃ s, hv u = s := ⟨_, rfl⟩
      have HSU : Hid (hv u = su) := hsu
      rw [hE, hst]
      rw [hsu] at HN ⊢
      clear hm hl hu hs hst ht hE hb htm hc hsu
      go_enter Try.func59, Try.ntmps59
      go_wp2_with fail
      refine HN.mono ?_
      rintro e w2 ⟨rfl, hb2⟩
      have hm2 : MP w2 tm.blk (unit tm.mem) := HB.out.2.2.2.1.same (hb2.block _ HB.out.2.2.2.1.lt)
      obtain ⟨w4, hdel, hd1, hd2, hd3⟩ := hm2.del (t := 48) (h := u) Try.underlying48 (len_max HB.out.2.1) 0
      rw [unit_del] at hd1
      rw [HB.out.1, HSU.out] at hdel
      have hlk2 := look_team (HB.out.2.2.2.2.1.same (hb2.block _ HB.out.2.2.2.2.1.lt)) HB.out.2.2.2.2.2 HB.out.2.2.1
      rw [HS.out, HB.out.1] at hlk2
      have HF : Hid (OutP w l t u w4) := .inr ⟨HE.out, tm, w2, HB.out.2.2.1, hb2, hd2, hd1⟩
      clear HN hb2 hlk hm2 hd1 hd2 hd3
      go_wp2
      go_ret
      exact ⟨rfl, HF.out⟩
    · have hE : outE l t u = 111 := by unfold outE; rw [ht]; simp [hc]
      have HE : Hid (outE l t u = 111) := hE
      rw [decide_eq_false hc] at HN
      rw [hE, hst]
      clear hm hl hu hs hst ht hE hb htm hc
      go_enter Try.func59, Try.ntmps59
      go_wp2_with fail
      refine HN.mono ?_
      rintro e w2 ⟨rfl, hb2⟩
      have HF : Hid (OutP w l t u w2) := .inl ⟨by rw [HE.out]; decide, hb2⟩
      clear HN hb2 hlk
      go_wp2
      go_ret
      exact ⟨rfl, HF.out⟩
#print axioms out_in
def Pm.outE (M : Pm) (x t u : Hs) : Int := match M.org x with
  | none => 111
  | some o => Oct.outE o.teams t u
set_option maxRecDepth 100000 in
theorem out_is {w : World} {p : Nat} {M : Pm} (h : PAt w p M) (x t u : Hs) (hx : x.length ≤ 140737488355328) (hl : t.length ≤ 140737488355328) (hu : u.length ≤ 140737488355328) :
    Calls Try.prog 30 #[.pointer (some ⟨p, 0, none⟩), hv x, hv t, hv u] w fun e w' => e = .returned (.int .i64 (M.outE x t u)) ∧ ∃ M', PAfter w p M M' w' ∧ Hid ((M.outE x t u ≠ 0 ∧ M' = M) ∨ (M.outE x t u = 0 ∧ OneIs M x (TeamIs t fun a a' => a' = tout u a) M')) := by
  have H : Hid (PAt w p M ∧ x.length ≤ 140737488355328 ∧ t.length ≤ 140737488355328 ∧ u.length ≤ 140737488355328) := ⟨h, hx, hl, hu⟩
  obtain ⟨ro, hro⟩ : ∃ ro, M.org x = ro := ⟨_, rfl⟩
  have HO : Hid (M.org x = ro) := hro
  cases ro with
  | none =>
    have hE : M.outE x t u = 111 := by unfold Pm.outE; rw [hro]
    rw [hE]
    clear h hx hl hu hro hE
    go_enter Try.func30, Try.ntmps30
    go_wp2_with fail
    refine (find_is H.out.1 x H.out.2.1).mono ?_
    rintro e w2 ⟨rfl, rfl⟩
    rw [HO.out]
    unfold foundOf
    simp only [Option.isSome_none, Bool.false_eq_true, if_false]
    go_wp2
    go_ret
    exact ⟨rfl, M, PAfter.same H.out.1 (Below.refl _ _), .inl ⟨by decide, rfl⟩⟩
  | some o =>
    obtain ⟨hm, hnx, A, B, hA, _⟩ := h.split hro
    have hE : M.outE x t u = Oct.outE o.teams t u := by unfold Pm.outE; rw [hro]
    have HM : Hid (o ∈ M.orgs ∧ M.orgs = A ++ o :: B ∧ M.outE x t u = Oct.outE o.teams t u) := ⟨hm, hA, hE⟩
    obtain ⟨E, hEE⟩ : ∃ E, Oct.outE o.teams t u = E := ⟨_, rfl⟩
    have HEE : Hid (Oct.outE o.teams t u = E) := hEE
    rw [hE, hEE]
    obtain ⟨ok, hok⟩ : ∃ ok, o.blk = ok := ⟨_, rfl⟩
    have HOK : Hid (o.blk = ok) := hok
    obtain ⟨tb, htb⟩ : ∃ tb, o.tb = tb := ⟨_, rfl⟩
    have d0 : w.cell? ⟨ok, 0, none⟩ = some (.map (some tb)) := by rw [← hok, ← htb]; exact (h.oblk hm).cell rfl
    have HT := out_in (h.oteams hm) t u hl hu (fun t' ht' => h.oteam hm ht')
    rw [htb, hEE] at HT
    clear h hx hl hu hro hE hm hnx hA hok htb hEE
    go_enter Try.func30, Try.ntmps30
    go_wp2_with fail
    refine (find_is H.out.1 x H.out.2.1).mono ?_
    rintro e w2 ⟨rfl, rfl⟩
    rw [HO.out]
    unfold foundOf
    simp only [Option.isSome_some, if_true]
    rw [HOK.out]
    go_wp2_with fail
    refine HT.mono ?_
    rintro e w5 ⟨rfl, hP⟩
    have HF : Hid (∃ M', PAfter w p M M' w5 ∧ Hid ((E ≠ 0 ∧ M' = M) ∨ (E = 0 ∧ OneIs M x (TeamIs t fun a a' => a' = tout u a) M'))) := by
      rcases hP.out with ⟨h1, h2⟩ | ⟨h1, tm, w1, ht, h2, h3, h4⟩
      · rw [HEE.out] at h1
        exact ⟨M, PAfter.same H.out.1 h2, .inl ⟨h1, rfl⟩⟩
      · rw [HEE.out] at h1
        have hA1 := H.out.1.below h2
        have k := hA1.ok o HM.out.1
        have htm := List.mem_of_find?_eq_some ht
        obtain ⟨S, T, hST⟩ := List.append_of_mem htm
        refine ⟨_, PAfter.first h2 (hA1.turnOrg HM.out.2.1 (o' := { o with teams := S ++ tout u tm :: T }) rfl rfl (P := (o.blk, .cells 73 [.map (some o.tb), .map (some o.rb)]) :: (o.tb, .kv (teamsKv o.teams)) :: (o.rb, .kv (rolesKv o.roles)) :: S.map tmHp) (Q := T.map tmHp) (b := tm.blk) (c := .kv (unit tm.mem)) (c' := .kv (unit (kout tm.mem u))) ?_ ?_ h3 h4 ⟨?_, k.roles, k.owner, fun y hy j hj => ?_⟩), .inr ⟨h1, A, o, B, _, HO.out, HM.out.2.1, ⟨S, tm, T, _, ht, hST, rfl, rfl⟩, rfl⟩⟩
        · unfold Og.hp
          rw [hST]
          simp [tmHp]
        · unfold Og.hp
          have e : teamsKv (S ++ tout u tm :: T) = teamsKv o.teams := by rw [hST]; simp [teamsKv, tout]
          rw [← e]
          simp [tmHp, tout]
        · have := k.teams
          rw [hST] at this
          simpa using this
        · have hk := k.mem
          rw [hST] at hk
          rcases List.mem_append.1 hy with hy | hy
          · exact hk y (List.mem_append.2 (.inl hy)) j hj
          · rcases List.mem_cons.1 hy with rfl | hy
            · have hj2 : j ∈ kout tm.mem u := hj
              exact hk tm (by simp) j (List.mem_filter.1 hj2).1
            · exact hk y (List.mem_append.2 (.inr (List.mem_cons_of_mem _ hy))) j hj
    clear HT hP d0
    go_wp2
    go_ret
    exact ⟨rfl, HF.out⟩
#print axioms out_is
set_option maxRecDepth 100000 in
theorem put_all {w : World} {p : Nat} {M : Pm} (h : PAt w p M) (x t u : Hs) (hx : x.length ≤ 140737488355328) (hl : t.length ≤ 140737488355328) (hu : u.length ≤ 140737488355328) :
    Calls Try.prog 29 #[.pointer (some ⟨p, 0, none⟩), hv x, hv t, hv u] w fun e w' => e = .returned (.int .i64 (M.putE x t u)) ∧ ∃ M', PAfter w p M M' w' ∧ Hid ((M.putE x t u ≠ 0 ∧ M' = M) ∨ (M.putE x t u = 0 ∧ OneIs M x (TeamIs t fun a a' => a' = { a with mem := addK a.mem u }) M')) := by
  have H : Hid (PAt w p M ∧ x.length ≤ 140737488355328 ∧ t.length ≤ 140737488355328 ∧ u.length ≤ 140737488355328) := ⟨h, hx, hl, hu⟩
  obtain ⟨ro, hro⟩ : ∃ ro, M.org x = ro := ⟨_, rfl⟩
  have HO : Hid (M.org x = ro) := hro
  cases ro with
  | none =>
    have hE : M.putE x t u = 111 := by unfold Pm.putE; rw [hro]
    rw [hE]
    clear h hx hl hu hro hE
    go_enter Try.func29, Try.ntmps29
    go_wp2_with fail
    refine (find_is H.out.1 x H.out.2.1).mono ?_
    rintro e w2 ⟨rfl, rfl⟩
    rw [HO.out]
    unfold foundOf
    simp only [Option.isSome_none, Bool.false_eq_true, if_false]
    go_wp2
    go_ret
    exact ⟨rfl, M, PAfter.same H.out.1 (Below.refl _ _), .inl ⟨by decide, rfl⟩⟩
  | some o =>
    obtain ⟨hm, hnx, A, B, hA, _⟩ := h.split hro
    cases ht : teamOf o.teams t with
    | none =>
      have hE : M.putE x t u = 111 := by unfold Pm.putE; rw [hro]; simp only [ht]
      rw [hE]
      have HM : Hid (o ∈ M.orgs ∧ teamOf o.teams t = none) := ⟨hm, ht⟩
      obtain ⟨ok, hok⟩ : ∃ ok, o.blk = ok := ⟨_, rfl⟩
      have HOK : Hid (o.blk = ok) := hok
      have d0 : w.cell? ⟨ok, 0, none⟩ = some (.map (some o.tb)) := by rw [← hok]; exact (h.oblk hm).cell rfl
      clear h hx hl hu hro hE hm hnx hA hok ht
      go_enter Try.func29, Try.ntmps29
      go_wp2_with fail
      refine (find_is H.out.1 x H.out.2.1).mono ?_
      rintro e w2 ⟨rfl, rfl⟩
      rw [HO.out]
      unfold foundOf
      simp only [Option.isSome_some, if_true]
      rw [HOK.out]
      go_wp2_with fail
      refine (isTeam_is (H.out.1.oteams HM.out.1) t H.out.2.2.1).mono ?_
      rintro e w3 ⟨rfl, rfl⟩
      rw [teamOf_isTeam, HM.out.2]
      simp only [Option.isSome_none]
      go_wp2
      go_ret
      exact ⟨rfl, M, PAfter.same H.out.1 (Below.refl _ _), .inl ⟨by decide, rfl⟩⟩
    | some tm =>
      by_cases hi : inRoles o.roles u = true
      · have hE : M.putE x t u = if decide (u ∈ tm.mem) then 110 else 0 := by unfold Pm.putE; rw [hro]; simp only [ht, hi, if_true]
        rw [hE]
        refine (put_is h x t u hx hl hu hro ht hi).mono ?_
        rintro e w' ⟨rfl, M', h1, h2⟩
        refine ⟨rfl, M', h1, ?_⟩
        rcases h2.out with ⟨a, b⟩ | ⟨a, b⟩
        · exact .inl ⟨by simp [a], b⟩
        · exact .inr ⟨by simp [a], b⟩
      · have hi' : inRoles o.roles u = false := by simpa using hi
        have hE : M.putE x t u = 111 := by unfold Pm.putE; rw [hro]; simp only [ht, hi']; rfl
        rw [hE]
        have HM : Hid (o ∈ M.orgs ∧ teamOf o.teams t = some tm ∧ inRoles o.roles u = false) := ⟨hm, ht, hi'⟩
        obtain ⟨ok, hok⟩ : ∃ ok, o.blk = ok := ⟨_, rfl⟩
        have HOK : Hid (o.blk = ok) := hok
        have d0 : w.cell? ⟨ok, 0, none⟩ = some (.map (some o.tb)) := by rw [← hok]; exact (h.oblk hm).cell rfl
        clear h hx hl hu hro hE hm hnx hA hok ht hi hi'
        go_enter Try.func29, Try.ntmps29
        go_wp2_with fail
        refine (find_is H.out.1 x H.out.2.1).mono ?_
        rintro e w2 ⟨rfl, rfl⟩
        rw [HO.out]
        unfold foundOf
        simp only [Option.isSome_some, if_true]
        rw [HOK.out]
        go_wp2_with fail
        refine (isTeam_is (H.out.1.oteams HM.out.1) t H.out.2.2.1).mono ?_
        rintro e w3 ⟨rfl, rfl⟩
        rw [teamOf_isTeam, HM.out.2.1]
        simp only [Option.isSome_some]
        go_wp2_with fail
        rw [← HOK.out]
        refine (member_is (H.out.1.oblk HM.out.1) (H.out.1.oroles HM.out.1) u H.out.2.2.2).mono ?_
        rintro e w4 ⟨rfl, rfl⟩
        rw [HM.out.2.2, HOK.out]
        go_wp2
        go_ret
        exact ⟨rfl, M, PAfter.same H.out.1 (Below.refl _ _), .inl ⟨by decide, rfl⟩⟩
#print axioms put_all
end Go.Proofs.Ytfickhhfhdhcbaa.Oct
