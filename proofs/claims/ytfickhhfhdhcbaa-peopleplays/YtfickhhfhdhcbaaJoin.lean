/-
  Layer 15 (people): Join; Leave of the last owner.
-/
import Derived.Test.YtfickhhfhdhcbaaJoinPure
namespace Go.Proofs.Ytfickhhfhdhcbaa.Oct
open Go.RowKit

set_option maxRecDepth 100000 in
set_option maxHeartbeats 1000000 in
theorem join_is {w : World} {p : Nat} {M : Pm} (h : PAt w p M) (x u : Hs) (r : Int) (hx : x.length ≤ 140737488355328) (hl : u.length ≤ 140737488355328) : Calls Try.prog 27 #[.pointer (some ⟨p, 0, none⟩), hv x, hv u, .int .i64 r] w fun e w' => e = .returned (.int .i64 (M.joinE x u r)) ∧ ∃ M', PAfter w p M M' w' ∧ Hid ((M.joinE x u r ≠ 0 ∧ M' = M) ∨ (M.joinE x u r = 0 ∧ OneIs M x (fun o o' => o' = { o with roles := rput o.roles u r }) M')) := by
  have H : Hid (PAt w p M) := h
  have HX : Hid (x.length ≤ 140737488355328) := hx
  have HL : Hid (u.length ≤ 140737488355328) := hl
  have c0 : w.cell? ⟨p, 0, none⟩ = some (.map (some M.ub)) := h.blk.cell rfl
  obtain ⟨ub, hub⟩ : ∃ ub, M.ub = ub := ⟨_, rfl⟩
  have HUB : Hid (M.ub = ub) := hub
  rw [hub] at c0
  obtain ⟨E, hE⟩ : ∃ E, M.joinE x u r = E := ⟨_, rfl⟩
  have HE : Hid (M.joinE x u r = E) := hE
  rw [hE]
  clear h hx hl hub hE
  cases ho : M.org x with
  | none =>
    have e0 : E = 111 := by have := HE.out; unfold Pm.joinE at this; rw [ho] at this; exact this.symm
    subst e0
    have HO : Hid (M.org x = none) := ho
    clear ho
    go_enter Try.func27, Try.ntmps27
    go_wp2_with fail
    refine (find_is H.out x HX.out).mono ?_
    rintro e w2 ⟨rfl, rfl⟩
    rw [HO.out]
    unfold foundOf
    simp only [Option.isSome_none, Bool.false_eq_true, if_false]
    go_wp2
    go_ret
    exact ⟨rfl, M, PAfter.same H.out (Below.refl _ _), .inl ⟨by omega, rfl⟩⟩
  | some o =>
    have HO : Hid (M.org x = some o) := ho
    obtain ⟨A, B, hm, hn, hA⟩ : ∃ A B, o ∈ M.orgs ∧ o.name = x ∧ M.orgs = A ++ o :: B := by
      obtain ⟨h1, h2, A, B, h3, _⟩ := H.out.split ho
      exact ⟨A, B, h1, h2, h3⟩
    have HA : Hid (o ∈ M.orgs ∧ M.orgs = A ++ o :: B) := ⟨hm, hA⟩
    have hJ := HE.out
    unfold Pm.joinE at hJ
    rw [ho] at hJ
    dsimp only at hJ
    have HJ : Hid ((if ¬ u ∈ M.users then 111 else if r ≠ 1 ∧ r ≠ 2 then 2 else if r = 1 ∧ lastOwner o.roles u = true then 151 else 0) = E) := hJ
    obtain ⟨ok, hok⟩ : ∃ ok, o.blk = ok := ⟨_, rfl⟩
    have HOK : Hid (o.blk = ok) := hok
    clear ho hm hn hA hJ hok
    by_cases hu : u ∈ M.users
    · have HD : Hid (decide (u ∈ M.users) = true ∧ u ∈ M.users) := ⟨by simpa using hu, hu⟩
      have hJ2 := HJ.out
      rw [if_neg (by simpa using hu)] at hJ2
      by_cases hr : r ≠ 1 ∧ r ≠ 2
      · rw [if_pos hr] at hJ2
        subst hJ2
        have q1 : (r != 1) = true := by simpa using hr.1
        have q2 : (r != 2) = true := by simpa using hr.2
        have q3 : (r == 1) = false := by simpa using hr.1
        have q4 : (r == 2) = false := by simpa using hr.2
        clear hu hr HJ
        go_enter Try.func27, Try.ntmps27
        go_wp2_with fail
        refine (find_is H.out x HX.out).mono ?_
        rintro e w2 ⟨rfl, rfl⟩
        rw [HO.out]
        unfold foundOf
        simp only [Option.isSome_some, if_true]
        rw [HOK.out]
        go_wp2_with fail
        rw [← HUB.out]
        refine (has_is H.out.us u HL.out).mono ?_
        rintro e w4 ⟨rfl, hb4⟩
        have H4 : Hid (PAt w4 p M ∧ Below w.heap.size w w4) := ⟨H.out.below hb4, hb4⟩
        rw [HD.out.1]
        clear hb4 c0
        go_wp2
        go_ret
        exact ⟨rfl, M, PAfter.same H.out H4.out.2, .inl ⟨by omega, rfl⟩⟩
      · rw [if_neg hr] at hJ2
        have HRR : Hid (r = 1 ∨ r = 2) := by show _ ∨ _; omega
        have HJ3 : Hid ((if r = 1 ∧ lastOwner o.roles u = true then 151 else 0) = E) := hJ2
        clear hu hJ2 HJ
        by_cases h1 : r = 1
        · subst h1
          cases hlo : lastOwner o.roles u with
          | true =>
            have e0 : E = 151 := by have := HJ3.out; rw [if_pos ⟨rfl, hlo⟩] at this; exact this.symm
            subst e0
            have HLO : Hid (lastOwner o.roles u = true) := hlo
            clear hr hlo HJ3
            go_enter Try.func27, Try.ntmps27
            go_wp2_with fail
            refine (find_is H.out x HX.out).mono ?_
            rintro e w2 ⟨rfl, rfl⟩
            rw [HO.out]
            unfold foundOf
            simp only [Option.isSome_some, if_true]
            rw [HOK.out]
            go_wp2_with fail
            rw [← HUB.out]
            refine (has_is H.out.us u HL.out).mono ?_
            rintro e w4 ⟨rfl, hb4⟩
            have H4 : Hid (PAt w4 p M ∧ Below w.heap.size w w4) := ⟨H.out.below hb4, hb4⟩
            rw [HD.out.1]
            clear hb4 c0
            go_wp2_with fail
            rw [← HOK.out]
            refine (lastOwner_is (H4.out.1.oblk HA.out.1) (H4.out.1.oroles HA.out.1) (by have := H4.out.1.few HA.out.1; omega) u HL.out).mono ?_
            rintro e w5 ⟨rfl, hb5⟩
            have H5 : Hid (Below w.heap.size w w5) := H4.out.2.trans (hb5.mono H4.out.2.size)
            rw [HLO.out]
            clear hb5
            go_wp2
            go_ret
            exact ⟨rfl, M, PAfter.same H.out H5.out, .inl ⟨by omega, rfl⟩⟩
          | false =>
            have e0 : E = 0 := by have := HJ3.out; rw [if_neg (by simp [hlo])] at this; exact this.symm
            subst e0
            have HLO : Hid (lastOwner o.roles u = false) := hlo
            clear hr hlo HJ3
            go_enter Try.func27, Try.ntmps27
            go_wp2_with fail
            refine (find_is H.out x HX.out).mono ?_
            rintro e w2 ⟨rfl, rfl⟩
            rw [HO.out]
            unfold foundOf
            simp only [Option.isSome_some, if_true]
            rw [HOK.out]
            go_wp2_with fail
            rw [← HUB.out]
            refine (has_is H.out.us u HL.out).mono ?_
            rintro e w4 ⟨rfl, hb4⟩
            have H4 : Hid (PAt w4 p M ∧ Below w.heap.size w w4) := ⟨H.out.below hb4, hb4⟩
            rw [HD.out.1]
            clear hb4 c0
            go_wp2_with fail
            rw [← HOK.out]
            refine (lastOwner_is (H4.out.1.oblk HA.out.1) (H4.out.1.oroles HA.out.1) (by have := H4.out.1.few HA.out.1; omega) u HL.out).mono ?_
            rintro e w5 ⟨rfl, hb5⟩
            have H5 : Hid (PAt w5 p M ∧ Below w.heap.size w w5) := ⟨H4.out.1.below hb5, H4.out.2.trans (hb5.mono H4.out.2.size)⟩
            rw [HLO.out]
            clear hb5
            have d1 : w5.cell? ⟨o.blk, 1, none⟩ = some (.map (some o.rb)) := (H5.out.1.oblk HA.out.1).cell rfl
            obtain ⟨w6, hrun, m1, m2, m3⟩ := (H5.out.1.oroles HA.out.1).put (t := 71) (h := u) Try.underlying71 (len_max HL.out) (.int .i64 1)
            rw [rput_kv] at m1
            have HF : Hid (PAfter w p M { M with orgs := A ++ { o with roles := rput o.roles u 1 } :: B } w6) := by
              have k := H5.out.1.ok o HA.out.1
              refine PAfter.first H5.out.2 (H5.out.1.turnOrg HA.out.2 (o' := { o with roles := rput o.roles u 1 }) rfl rfl (P := [(o.blk, .cells 73 [.map (some o.tb), .map (some o.rb)]), (o.tb, .kv (teamsKv o.teams))]) (Q := o.teams.map tmHp) (b := o.rb) (c := .kv (rolesKv o.roles)) (c' := .kv (rolesKv (rput o.roles u 1))) rfl rfl m2 m1 ⟨k.teams, fun y hy => ?_, ?_, fun t ht j hj => rput_keys _ _ _ _ (k.mem t ht j hj)⟩)
              · rcases rput_mem hy with rfl | hy
                · exact ⟨HD.out.2, by simp⟩
                · exact k.roles y hy
              · obtain ⟨y, hy, e1, e2⟩ := owner_left (by have := (H5.out.1.oroles HA.out.1).nodup; rwa [rolesKv_keys] at this) (H5.out.1.ok o HA.out.1).owner HLO.out
                exact ⟨y, rput_other hy e2, e1⟩
            clear m1 m2 m3
            go_wp2
            go_ret
            exact ⟨rfl, _, HF.out, .inr ⟨trivial, A, o, B, _, HO.out, HA.out.2, rfl, rfl⟩⟩
        · obtain rfl : r = 2 := by have := HRR.out; omega
          have e0 : E = 0 := by have := HJ3.out; rw [if_neg (by simp)] at this; exact this.symm
          subst e0
          clear hr h1 HJ3
          go_enter Try.func27, Try.ntmps27
          go_wp2_with fail
          refine (find_is H.out x HX.out).mono ?_
          rintro e w2 ⟨rfl, rfl⟩
          rw [HO.out]
          unfold foundOf
          simp only [Option.isSome_some, if_true]
          rw [HOK.out]
          go_wp2_with fail
          rw [← HUB.out]
          refine (has_is H.out.us u HL.out).mono ?_
          rintro e w4 ⟨rfl, hb4⟩
          have H4 : Hid (PAt w4 p M ∧ Below w.heap.size w w4) := ⟨H.out.below hb4, hb4⟩
          rw [HD.out.1]
          clear hb4 c0
          obtain ⟨w5, hw5⟩ : ∃ w5, w4 = w5 := ⟨_, rfl⟩
          subst hw5
          have H5 : Hid (PAt w4 p M ∧ Below w.heap.size w w4) := H4.out
          have ok2 : o.blk = o.blk := rfl
          rw [← HOK.out]
          have d1 : w4.cell? ⟨o.blk, 1, none⟩ = some (.map (some o.rb)) := (H5.out.1.oblk HA.out.1).cell rfl
          obtain ⟨w6, hrun, m1, m2, m3⟩ := (H5.out.1.oroles HA.out.1).put (t := 71) (h := u) Try.underlying71 (len_max HL.out) (.int .i64 2)
          rw [rput_kv] at m1
          have HF : Hid (PAfter w p M { M with orgs := A ++ { o with roles := rput o.roles u 2 } :: B } w6) := by
            have k := H5.out.1.ok o HA.out.1
            refine PAfter.first H5.out.2 (H5.out.1.turnOrg HA.out.2 (o' := { o with roles := rput o.roles u 2 }) rfl rfl (P := [(o.blk, .cells 73 [.map (some o.tb), .map (some o.rb)]), (o.tb, .kv (teamsKv o.teams))]) (Q := o.teams.map tmHp) (b := o.rb) (c := .kv (rolesKv o.roles)) (c' := .kv (rolesKv (rput o.roles u 2))) rfl rfl m2 m1 ⟨k.teams, fun y hy => ?_, ?_, fun t ht j hj => rput_keys _ _ _ _ (k.mem t ht j hj)⟩)
            · rcases rput_mem hy with rfl | hy
              · exact ⟨HD.out.2, by simp⟩
              · exact k.roles y hy
            · exact ⟨(u, 2), rput_new _ _ _, rfl⟩
          clear m1 m2 m3
          go_wp2
          go_ret
          exact ⟨rfl, _, HF.out, .inr ⟨trivial, A, o, B, _, HO.out, HA.out.2, rfl, rfl⟩⟩
    · have HD : Hid (decide (u ∈ M.users) = false) := by simpa [Hid] using hu
      have e0 : E = 111 := by have := HJ.out; rw [if_pos hu] at this; exact this.symm
      subst e0
      clear hu HJ
      go_enter Try.func27, Try.ntmps27
      go_wp2_with fail
      refine (find_is H.out x HX.out).mono ?_
      rintro e w2 ⟨rfl, rfl⟩
      rw [HO.out]
      unfold foundOf
      simp only [Option.isSome_some, if_true]
      rw [HOK.out]
      go_wp2_with fail
      rw [← HUB.out]
      refine (has_is H.out.us u HL.out).mono ?_
      rintro e w4 ⟨rfl, hb4⟩
      have H4 : Hid (PAt w4 p M ∧ Below w.heap.size w w4) := ⟨H.out.below hb4, hb4⟩
      rw [HD.out]
      clear hb4 c0
      go_wp2
      go_ret
      exact ⟨rfl, M, PAfter.same H.out H4.out.2, .inl ⟨by omega, rfl⟩⟩
#print axioms join_is

set_option maxRecDepth 100000 in
theorem leave_last {w : World} {p : Nat} {M : Pm} (h : PAt w p M) (x u : Hs) (hx : x.length ≤ 140737488355328) (hl : u.length ≤ 140737488355328) {o : Og} (ho : M.org x = some o) (hi : inRoles o.roles u = true) (hlo : lastOwner o.roles u = true) :
    Calls Try.prog 26 #[.pointer (some ⟨p, 0, none⟩), hv x, hv u] w fun e w' => e = .returned (.int .i64 151) ∧ PAfter w p M M w' := by
  have H : Hid (PAt w p M) := h
  have HX : Hid (x.length ≤ 140737488355328) := hx
  have HL : Hid (u.length ≤ 140737488355328) := hl
  have HO : Hid (M.org x = some o ∧ inRoles o.roles u = true ∧ lastOwner o.roles u = true ∧ o ∈ M.orgs) := ⟨ho, hi, hlo, (h.split ho).1⟩
  obtain ⟨ok, hok⟩ : ∃ ok, o.blk = ok := ⟨_, rfl⟩
  have HOK : Hid (o.blk = ok) := hok
  clear h hx hl ho hi hlo hok
  go_enter Try.func26, Try.ntmps26
  go_wp2_with fail
  refine (find_is H.out x HX.out).mono ?_
  rintro e w2 ⟨rfl, rfl⟩
  rw [HO.out.1]
  unfold foundOf
  simp only [Option.isSome_some, if_true]
  rw [HOK.out]
  go_wp2_with fail
  rw [← HOK.out]
  refine (member_is (H.out.oblk HO.out.2.2.2) (H.out.oroles HO.out.2.2.2) u HL.out).mono ?_
  rintro e w3 ⟨rfl, rfl⟩
  rw [HO.out.2.1, HOK.out]
  go_wp2_with fail
  rw [← HOK.out]
  refine (lastOwner_is (H.out.oblk HO.out.2.2.2) (H.out.oroles HO.out.2.2.2) (by have := H.out.few HO.out.2.2.2; omega) u HL.out).mono ?_
  rintro e w5 ⟨rfl, hb5⟩
  have H5 : Hid (Below w.heap.size w w5) := hb5
  rw [HO.out.2.2.1]
  clear hb5
  go_wp2
  go_ret
  exact ⟨rfl, PAfter.same H.out H5.out⟩
#print axioms leave_last
end Go.Proofs.Ytfickhhfhdhcbaa.Oct
