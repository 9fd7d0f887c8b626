/-
  Layer 24 (reply): the law ReplyBack.
-/
import Derived.Test.YtkpepfeiimphpaaDoorBck
namespace Go.Proofs.YtkpepfeiimphpaaDoor.Oct
open Go.RowKit
set_option linter.unusedSimpArgs false
set_option linter.unusedVariables false

set_option maxRecDepth 100000 in
set_option maxHeartbeats 2000000 in
theorem back_law (st : Int) (ty bo : BA) (cl : Bool) (d : BA) (w : World) (hp : PT w) (hm : MX w) (hx : SX w) (hty : ty.size ≤ 140737488355328) (hbo : bo.size ≤ 140737488355328) (hd : d.size ≤ 140737488355328) : Calls Tryd.prog 5 #[.agg #[iv st, .string ty, .string bo, .bool cl], .string d] w fun e w' => e = .returned (.bool true) ∧ Below w.heap.size w w' := by
  obtain ⟨b, hb⟩ : ∃ b, w.heap.size = b := ⟨_, rfl⟩
  obtain ⟨A, hA⟩ : ∃ A, w.alloc (.cells #[iv st, .string ty, .string bo, .bool cl] 23) = A := ⟨_, rfl⟩
  have hB : Below w.heap.size w A := by rw [← hA]; exact below_al _ _
  have h2 : Blk A b 23 (rpc st ty bo cl) := by rw [← hA, ← hb]; exact Blk.new w _ _
  have HA : Hid (KB w A [(b, rpc st ty bo cl)]) := ⟨hB, fun p hp => by obtain rfl := List.mem_singleton.1 hp; exact ⟨h2, by omega⟩⟩
  have HP : Hid (PT w ∧ MX w ∧ SX w) := ⟨hp, hm, hx⟩
  have c1 : A.cell? ⟨b, 1, none⟩ = some (.string ty) := h2.cell rfl
  have c2 : A.cell? ⟨b, 2, none⟩ = some (.string bo) := h2.cell rfl
  obtain ⟨n, hn⟩ : ∃ n, bo.size = n := ⟨_, rfl⟩
  obtain ⟨m, hm2⟩ : ∃ n, ty.size = n := ⟨_, rfl⟩
  obtain ⟨k, hk⟩ : ∃ n, d.size = n := ⟨_, rfl⟩
  have HNM : Hid (bo.size = n ∧ ty.size = m ∧ d.size = k) := ⟨hn, hm2, hk⟩
  have qn : (n : Int) ≤ 140737488355328 := by omega
  have qm : (m : Int) ≤ 140737488355328 := by omega
  have qk : (k : Int) ≤ 140737488355328 := by omega
  clear hp hm hx hty hbo hd hB h2
  have BIG : (70000 : Int) < (n : Int) ∨ (70000 : Int) < (m : Int) ∨ (10000 : Int) < (k : Int) → Calls Tryd.prog 5 #[.agg #[iv st, .string ty, .string bo, .bool cl], .string d] w fun e w' => e = .returned (.bool true) ∧ Below w.heap.size w w' := by
    intro hbig
    have HLV := lives_is A (HP.out.1.below HA.out.1)
    by_cases h1 : (70000 : Int) < (n : Int)
    · clear hbig
      go_enter Tryd.func5, Tryd.ntmps5
      go_wp2_with fail
      refine HLV.mono ?_
      rintro e V ⟨rfl, hbV⟩
      have HV : Hid (Below w.heap.size w V) := below_tr HA.out.1 hbV
      clear HLV hbV hA hb
      go_wp2
      go_ret
      exact ⟨rfl, HV.out⟩
    · have q1 : (n : Int) ≤ 70000 := by omega
      by_cases h2 : (70000 : Int) < (m : Int)
      · clear hbig h1
        go_enter Tryd.func5, Tryd.ntmps5
        go_wp2_with fail
        refine HLV.mono ?_
        rintro e V ⟨rfl, hbV⟩
        have HV : Hid (Below w.heap.size w V) := below_tr HA.out.1 hbV
        clear HLV hbV hA hb
        go_wp2
        go_ret
        exact ⟨rfl, HV.out⟩
      · have q2 : (m : Int) ≤ 70000 := by omega
        have h3 : (10000 : Int) < (k : Int) := (hbig.resolve_left h1).resolve_left h2
        clear hbig h1 h2
        go_enter Tryd.func5, Tryd.ntmps5
        go_wp2_with fail
        refine HLV.mono ?_
        rintro e V ⟨rfl, hbV⟩
        have HV : Hid (Below w.heap.size w V) := below_tr HA.out.1 hbV
        clear HLV hbV hA hb
        go_wp2
        go_ret
        exact ⟨rfl, HV.out⟩
  by_cases h1 : (70000 : Int) < (n : Int)
  · exact BIG (.inl h1)
  by_cases h2 : (70000 : Int) < (m : Int)
  · exact BIG (.inr (.inl h2))
  by_cases h3 : (10000 : Int) < (k : Int)
  · exact BIG (.inr (.inr h3))
  clear BIG
  have q1 : (n : Int) ≤ 70000 := by omega
  have q2 : (m : Int) ≤ 70000 := by omega
  have q3 : (k : Int) ≤ 10000 := by omega
  have HS : Hid (ty.size ≤ 70000 ∧ bo.size ≤ 70000 ∧ d.size ≤ 10000) := ⟨by rw [hm2]; omega, by rw [hn]; omega, by rw [hk]; omega⟩
  clear h1 h2 h3
  go_enter Tryd.func5, Tryd.ntmps5
  go_wp2_with (with_reducible change wpList _ _ _ ({ dst := some 32, op := _, type := _, pos := _, after := _, guard := _ } :: _) _ _; refine Hid.out ?_)
  show wpList _ _ _ _ _ _
  refine wpList_load_row rfl 23 (.tmp 2) rfl b rfl 23 (rpc st ty bo cl).toArray (0, 0) _ ((HA.out.2 (b, rpc st ty bo cl) (by simp)).1) Tryd.underlying23 rfl size23 ?_
  simp only [Act.put, List.setIfInBounds_toArray, List.set_cons_zero, List.set_cons_succ]
  go_wp2_with fail
  refine (print_w st ty bo cl A (HP.out.1.below HA.out.1) (Nat.le_trans HS.out.1 (by decide)) (Nat.le_trans HS.out.2.1 (by decide))).mono ?_
  rintro e W1 ⟨s, rfl, hs, hbW⟩
  have H1 : Hid (KB w W1 [(b, rpc st ty bo cl)]) := HA.out.below hbW
  obtain ⟨p, hp⟩ : ∃ p, prL st ty bo cl = p := ⟨_, rfl⟩
  have HPR : Hid (prL st ty bo cl = p ∧ s.data.toList = p.1) := ⟨hp, by rw [← hp]; exact hs.out⟩
  rw [hp]
  clear hp hs hbW HA hA hb c1 c2
  rcases prL_bad st ty bo cl with h0 | ⟨h0, h1⟩
  rotate_left
  · rw [HPR.out.1] at h0 h1
    have hs0 : s = ⟨#[]⟩ := ba_ext (by rw [HPR.out.2, h0])
    subst hs0
    have HLV := lives_is W1 (HP.out.1.below H1.out.1)
    clear h0
    rcases h1 with h1 | h1 <;> (
      rw [h1]
      go_wp2_with fail
      refine HLV.mono ?_
      rintro e V ⟨rfl, hbV⟩
      have HV : Hid (Below w.heap.size w V) := below_tr H1.out.1 hbV
      clear HLV hbV
      go_wp2
      go_ret
      exact ⟨rfl, HV.out⟩)
  have HZ := prL_sz h0
  rw [HPR.out.1] at h0 HZ
  have H0 : Hid (p.2 = 0 ∧ p.1.length ≤ bo.size + 4000 ∧ 0 < p.1.length ∧ bo.size ≤ 65536) := ⟨h0, HZ⟩
  rw [h0]
  clear h0 HZ
  have hss : s.size ≤ 80000 := by
    show s.data.toList.length ≤ _
    rw [HPR.out.2]
    have := H0.out
    omega
  have qd : d.size ≤ 10000 := HS.out.2.2
  obtain ⟨sd, hsd⟩ : ∃ x, s ++ d = x := ⟨_, rfl⟩
  have HSD : Hid (sd.data.toList = p.1 ++ d.data.toList ∧ sd.size ≤ 140000) := by
    have e1 : sd.data.toList = p.1 ++ d.data.toList := by rw [← hsd, ← HPR.out.2]; simp [ByteArray.data_append]
    refine ⟨e1, ?_⟩
    show sd.data.toList.length ≤ _
    rw [e1, List.length_append]
    have h3 : d.data.toList.length = d.size := rfl
    have := H0.out
    omega
  have HSS : Hid (s.size ≤ 80000 ∧ s.size = p.1.length) := ⟨hss, by show s.data.toList.length = _; rw [HPR.out.2]⟩
  go_wp2_with fail
  clear hsd hss qd
  refine (read_is sd HSD.out.2 W1 (HP.out.1.below H1.out.1) (HP.out.2.1.below H1.out.1) (HP.out.2.2.below H1.out.1)).mono ?_
  rintro e W2 ⟨hr, hbW⟩
  obtain rfl := rd_is (st := st) (ty := ty) (bo := bo) (cl := cl) hr (by rw [HPR.out.1]; exact H0.out.1) (by rw [HSD.out.1, HPR.out.1]; exact aftB_app _ _)
  have H2 : Hid (KB w W2 [(b, rpc st ty bo cl)]) := H1.out.below hbW
  rw [HPR.out.1, ← HSS.out.2]
  clear hr hbW H1
  go_wp2_with (with_reducible change wpList _ _ _ ({ dst := none, op := Op.store 23 _ _, type := _, pos := _, after := _, guard := _ } :: _) _ _; refine Hid.out ?_)
  show wpList _ _ _ _ _ _
  refine wpList_store_blk rfl 23 (.tmp 7) (.tmp 56) rfl W2.heap.size 0 23 _ (rpc st ty bo cl) rfl rfl (Blk.new W2 _ _) (by show 4 ≤ 4; exact Nat.le_refl _) size23 (rpc_one _ _ _ _) ?_
  intro W3 hx hg
  obtain ⟨b3, hb3⟩ : ∃ b, W2.heap.size = b := ⟨_, rfl⟩
  have H3 : Hid (KB w W3 _) := H2.out.push hx hg
  rw [hb3] at H3 ⊢
  clear hx hg H2 hb3
  go_wp2_with fail
  refine (read_is d (Nat.le_trans HS.out.2.2 (by decide)) W3 (HP.out.1.below H3.out.1) (HP.out.2.1.below H3.out.1) (HP.out.2.2.below H3.out.1)).mono ?_
  rintro e W4 ⟨hr, hbW⟩
  have H4 : Hid (KB w W4 [(b3, rpc st ty bo cl), (b, rpc st ty bo cl)]) := H3.out.below hbW
  clear hbW H3
  have qs : s.size ≤ 80000 := HSS.out.1
  rcases hr with ⟨st', ty', bo', cl', rfl, a1, a2⟩ | ⟨rfl, _⟩
  · have HE : Hid ((prL st' ty' bo' cl').2 = 0 ∧ aftB d.data.toList (prL st' ty' bo' cl').1 = true) := ⟨a1, a2⟩
    clear a1 a2
    go_wp2_with (with_reducible change wpList _ _ _ ({ dst := none, op := Op.store 23 _ _, type := _, pos := _, after := _, guard := _ } :: _) _ _; refine Hid.out ?_)
    show wpList _ _ _ _ _ _
    refine wpList_store_blk rfl 23 (.tmp 10) (.tmp 62) rfl W4.heap.size 0 23 _ (rpc st' ty' bo' cl') rfl rfl (Blk.new W4 _ _) (by show 4 ≤ 4; exact Nat.le_refl _) size23 (rpc_one _ _ _ _) ?_
    intro W5 hx hg
    obtain ⟨b5, hb5⟩ : ∃ b, W4.heap.size = b := ⟨_, rfl⟩
    have H5 : Hid (KB w W5 _) := H4.out.push hx hg
    rw [hb5] at H5 ⊢
    clear hx hg H4 hb5
    go_wp2_with (with_reducible change wpList _ _ _ ({ dst := some 68, op := _, type := _, pos := _, after := _, guard := _ } :: _) _ _; refine Hid.out ?_)
    show wpList _ _ _ _ _ _
    refine wpList_load_row rfl 23 (.tmp 10) rfl b5 rfl 23 (rpc st' ty' bo' cl').toArray (0, 0) _ ((H5.out.2 (b5, rpc st' ty' bo' cl') (by simp)).1) Tryd.underlying23 rfl size23 ?_
    simp only [Act.put, List.setIfInBounds_toArray, List.set_cons_zero, List.set_cons_succ]
    obtain ⟨p', hp'⟩ : ∃ p, prL st' ty' bo' cl' = p := ⟨_, rfl⟩
    have HSZ : Hid (ty'.size ≤ 70000 ∧ bo'.size ≤ 70000) := by
      refine ⟨?_, by have := (prL_sz HE.out.1).2.2; omega⟩
      have h := HE.out.1
      unfold prL at h
      by_cases c1 : st' < 100 ∨ 999 < st' ∨ typB ty'.data.toList = false
      · rw [if_pos c1] at h; exact absurd h (by decide)
      · cases h : typB ty'.data.toList with
        | false => exact absurd (.inr (.inr h)) c1
        | true => unfold typB at h; simp only [Bool.and_eq_true, decide_eq_true_eq] at h; have := h.1.1.1; have h3 : ty'.data.toList.length = ty'.size := rfl; omega
    go_wp2_with fail
    refine (print_w st' ty' bo' cl' W5 (HP.out.1.below H5.out.1) (Nat.le_trans HSZ.out.1 (by decide)) (Nat.le_trans HSZ.out.2 (by decide))).mono ?_
    rintro e W6 ⟨t, rfl, ht, hbW⟩
    have H6 : Hid (KB w W6 [(b5, rpc st' ty' bo' cl'), (b3, rpc st ty bo cl), (b, rpc st ty bo cl)]) := H5.out.below hbW
    have HT : Hid (t.data.toList = p'.1 ∧ p'.2 = 0 ∧ aftB d.data.toList p'.1 = true) := by rw [← hp']; exact ⟨ht.out, HE.out⟩
    rw [hp', HT.out.2.1]
    clear ht hbW H5 HE
    obtain ⟨z, hz⟩ : ∃ z, p'.1.length = z := ⟨_, rfl⟩
    have HZ : Hid (p'.1.length = z) := hz
    rw [hz]
    clear hz hp'
    have q5 : (z : Int) ≤ (k : Int) := by
      have := HT.out.2.2
      unfold aftB at this
      rw [List.isPrefixOf_iff_prefix] at this
      have h1 := this.length_le
      have h3 : d.data.toList.length = d.size := rfl
      have h4 := HZ.out
      omega
    have hcm : (t.toList == (d.extract 0 z).toList) = true := by
      rw [toList_d, ext_to, HT.out.1]
      have := HT.out.2.2
      unfold aftB at this
      rw [List.isPrefixOf_iff_prefix] at this
      obtain ⟨r, hr⟩ := this
      rw [← hr, ← HZ.out]
      simp
    have HLV := lives_is W6 (HP.out.1.below H6.out.1)
    go_wp2_with (with_reducible change wpList _ _ _ ({ dst := some 81, op := _, type := _, pos := _, after := _, guard := _ } :: _) _ _; refine Hid.out ?_)
    show wpList _ _ _ _ _ _
    refine wpList_load_row rfl 23 (.tmp 7) rfl b3 rfl 23 (rpc st ty bo cl).toArray (0, 0) _ ((H6.out.2 (b3, rpc st ty bo cl) (by simp)).1) Tryd.underlying23 rfl size23 ?_
    simp only [Act.put, List.setIfInBounds_toArray, List.set_cons_zero, List.set_cons_succ]
    go_wp2_with (with_reducible change wpList _ _ _ ({ dst := some 82, op := _, type := _, pos := _, after := _, guard := _ } :: _) _ _; refine Hid.out ?_)
    show wpList _ _ _ _ _ _
    refine wpList_load_row rfl 23 (.tmp 2) rfl b rfl 23 (rpc st ty bo cl).toArray (0, 0) _ ((H6.out.2 (b, rpc st ty bo cl) (by simp)).1) Tryd.underlying23 rfl size23 ?_
    simp only [Act.put, List.setIfInBounds_toArray, List.set_cons_zero, List.set_cons_succ]
    go_wp2_with fail
    refine HLV.mono ?_
    rintro e V ⟨rfl, hbV⟩
    have HV : Hid (Below w.heap.size w V) := below_tr H6.out.1 hbV
    clear HLV hbV
    go_wp2
    go_ret
    exact ⟨rfl, HV.out⟩
  · 
    go_wp2_with (with_reducible change wpList _ _ _ ({ dst := none, op := Op.store 23 _ _, type := _, pos := _, after := _, guard := _ } :: _) _ _; refine Hid.out ?_)
    show wpList _ _ _ _ _ _
    refine wpList_store_blk rfl 23 (.tmp 10) (.tmp 62) rfl W4.heap.size 0 23 _ (rpc 0 e0 e0 false) rfl rfl (Blk.new W4 _ _) (by show 4 ≤ 4; exact Nat.le_refl _) size23 (rpc_one _ _ _ _) ?_
    intro W5 hx hg
    obtain ⟨b5, hb5⟩ : ∃ b, W4.heap.size = b := ⟨_, rfl⟩
    have H5 : Hid (KB w W5 _) := H4.out.push hx hg
    rw [hb5] at H5 ⊢
    clear hx hg H4 hb5
    have HLV := lives_is W5 (HP.out.1.below H5.out.1)
    go_wp2_with (with_reducible change wpList _ _ _ ({ dst := some 81, op := _, type := _, pos := _, after := _, guard := _ } :: _) _ _; refine Hid.out ?_)
    show wpList _ _ _ _ _ _
    refine wpList_load_row rfl 23 (.tmp 7) rfl b3 rfl 23 (rpc st ty bo cl).toArray (0, 0) _ ((H5.out.2 (b3, rpc st ty bo cl) (by simp)).1) Tryd.underlying23 rfl size23 ?_
    simp only [Act.put, List.setIfInBounds_toArray, List.set_cons_zero, List.set_cons_succ]
    go_wp2_with (with_reducible change wpList _ _ _ ({ dst := some 82, op := _, type := _, pos := _, after := _, guard := _ } :: _) _ _; refine Hid.out ?_)
    show wpList _ _ _ _ _ _
    refine wpList_load_row rfl 23 (.tmp 2) rfl b rfl 23 (rpc st ty bo cl).toArray (0, 0) _ ((H5.out.2 (b, rpc st ty bo cl) (by simp)).1) Tryd.underlying23 rfl size23 ?_
    simp only [Act.put, List.setIfInBounds_toArray, List.set_cons_zero, List.set_cons_succ]
    go_wp2_with fail
    refine HLV.mono ?_
    rintro e V ⟨rfl, hbV⟩
    have HV : Hid (Below w.heap.size w V) := below_tr H5.out.1 hbV
    clear HLV hbV
    go_wp2
    go_ret
    exact ⟨rfl, HV.out⟩
#print axioms back_law
end Go.Proofs.YtkpepfeiimphpaaDoor.Oct
