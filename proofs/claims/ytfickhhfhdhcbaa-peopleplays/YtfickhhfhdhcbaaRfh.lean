/-
  Layer 15 (people): the document's people: AddTeam, Put.
-/
import Derived.Test.YtfickhhfhdhcbaaRfg
namespace Go.Proofs.Ytfickhhfhdhcbaa.Oct
open Go.RowKit
set_option linter.unusedSimpArgs false
set_option linter.unusedVariables false

set_option maxRecDepth 100000 in
set_option maxHeartbeats 4000000 in
theorem rteam_is {w : World} {uv ov fv : Value} {R : Rp} (h : RPt w uv ov fv R) (hF : R.F.length ≤ 990) (o : Hs) (t : Hs) (ht0 : t.length ≤ 140737488355328) : Calls Try.prog 35 #[.agg #[uv, ov, fv], hv o, hv t] w (Ro w (rTeam R o t)) := by
  obtain ⟨m, hm⟩ : ∃ m, R.F.length = m := ⟨_, rfl⟩
  obtain ⟨nu, hnu⟩ : ∃ m, R.U.length = m := ⟨_, rfl⟩
  obtain ⟨no, hno⟩ : ∃ m, R.O.length = m := ⟨_, rfl⟩
  obtain ⟨ua, uc, rfl, _⟩ := h.u
  obtain ⟨oa, oc, rfl, _⟩ := h.o
  obtain ⟨a, c, rfl, _⟩ := h.f
  rw [hm, hnu, hno] at h ⊢
  obtain ⟨so, hso, hlo, hqo⟩ := bs_is o
  obtain ⟨st, hst, hlt, hqt⟩ := bs_is t
  have HS : Hid (so.toList = o ∧ hv o = .string so ∧ st.toList = t ∧ hv t = .string st ∧ True) := ⟨hlo, hso, hlt, hst, trivial⟩
  have hz30 := zero30
  obtain ⟨b, hb⟩ : ∃ b, w.heap.size = b := ⟨_, rfl⟩
  obtain ⟨A, hA⟩ : ∃ A, (w.alloc (.cells #[.slice ua nu uc, .slice oa no oc, .slice a m c] 30)).alloc (.cells #[.slice none 0 0, .slice none 0 0, .slice none 0 0] 30) = A := ⟨_, rfl⟩
  have hB : Below w.heap.size w A := by rw [← hA]; exact ((Below.refl _ w).alloc (Nat.le_refl _) _).alloc (by simp) _
  have h2 : Blk A b 30 [.slice ua nu uc, .slice oa no oc, .slice a m c] := by rw [← hA, ← hb]; exact (Blk.new w _ _).alloc _
  have h4 : Blk A (b + 1) 30 [.slice none 0 0, .slice none 0 0, .slice none 0 0] := by
    rw [← hA, ← hb]
    have := Blk.new (w.alloc (.cells #[.slice ua nu uc, .slice oa no oc, .slice a m c] 30)) #[.slice none 0 0, .slice none 0 0, .slice none 0 0] 30
    rwa [World.size_alloc] at this
  have HA0 : Hid (RPt w (.slice ua nu uc) (.slice oa no oc) (.slice a m c) R) := h
  have HA : Hid (Below w.heap.size w A ∧ Blk A b 30 [.slice ua nu uc, .slice oa no oc, .slice a m c] ∧ RPt A (.slice ua nu uc) (.slice oa no oc) (.slice a m c) R ∧ Blk A (b + 1) 30 [.slice none 0 0, .slice none 0 0, .slice none 0 0]) := ⟨hB, h2, h.below hB, h4⟩
  have HN : Hid (R.F.length = m ∧ R.U.length = nu ∧ R.O.length = no ∧ m ≤ 990 ∧ w.heap.size = b) := ⟨hm, hnu, hno, by omega, hb⟩
  have qu : (nu : Int) ≤ 1000 := by have := h.nu; omega
  have qo : (no : Int) ≤ 1000 := by have := h.no; omega
  have qm : (m : Int) ≤ 990 := by omega
  rw [hso, hst]
  clear h hF hm hnu hno hB h2 h4 hlo hqo hlt hqt
  go_enter Try.func35, Try.ntmps35
  obtain ⟨q, hq⟩ : ∃ q, rTeam R o t = q := ⟨_, rfl⟩
  have HQ : Hid (rTeam R o t = q) := hq
  rw [hq]
  clear hq
  obtain ⟨L, hL⟩ : ∃ L, teaF R.F o = L := ⟨_, rfl⟩
  obtain ⟨ln, hln⟩ : ∃ n, L.length = n := ⟨_, rfl⟩
  have HLN : Hid (teaF R.F o = L ∧ L.length = ln ∧ ln ≤ 990) := ⟨hL, hln, by have h1 := teaF_len R.F o; have h2 := HN.out; rw [hL] at h1; omega⟩
  have ql : (ln : Int) ≤ 990 := by have := HLN.out.2.2; omega
  by_cases ho : o ∈ R.O
  · have HCV1 := rhas_b HA.out.2.2.1.o HA.out.2.2.1.no o true (decide_eq_true ho)
    rw [hso] at HCV1
    have c0A : A.cell? ⟨b, 0, none⟩ = some (.slice ua nu uc) := HA.out.2.1.cell rfl
    have c1A : A.cell? ⟨b, 1, none⟩ = some (.slice oa no oc) := HA.out.2.1.cell rfl
    have c2A : A.cell? ⟨b, 2, none⟩ = some (.slice a m c) := HA.out.2.1.cell rfl
    go_wp2_with fail
    refine HCV1.mono ?_
    rintro e V1 ⟨rfl, hbV1⟩
    have HV1 : Hid (Below w.heap.size w V1 ∧ Blk V1 b 30 [.slice ua nu uc, .slice oa no oc, .slice a m c] ∧ RPt V1 (.slice ua nu uc) (.slice oa no oc) (.slice a m c) R ∧ Blk V1 (b + 1) 30 [.slice none 0 0, .slice none 0 0, .slice none 0 0]) := ⟨below_tr HA.out.1 hbV1, HA.out.2.1.below hbV1 HA.out.2.1.lt, HA.out.2.2.1.below hbV1, HA.out.2.2.2.below hbV1 HA.out.2.2.2.lt⟩
    clear c0A c1A c2A
    clear HCV1
    clear hA hb
    by_cases h1 : isName t = true
    · have HCV2 := rname_is t ht0 V1
      rw [hst, h1] at HCV2
      have c0V1 : V1.cell? ⟨b, 0, none⟩ = some (.slice ua nu uc) := HV1.out.2.1.cell rfl
      have c1V1 : V1.cell? ⟨b, 1, none⟩ = some (.slice oa no oc) := HV1.out.2.1.cell rfl
      have c2V1 : V1.cell? ⟨b, 2, none⟩ = some (.slice a m c) := HV1.out.2.1.cell rfl
      go_wp2_with fail
      refine HCV2.mono ?_
      rintro e V2 ⟨rfl, hbV2⟩
      have HV2 : Hid (Below w.heap.size w V2 ∧ Blk V2 b 30 [.slice ua nu uc, .slice oa no oc, .slice a m c] ∧ RPt V2 (.slice ua nu uc) (.slice oa no oc) (.slice a m c) R ∧ Blk V2 (b + 1) 30 [.slice none 0 0, .slice none 0 0, .slice none 0 0]) := ⟨below_tr HV1.out.1 hbV2, HV1.out.2.1.below hbV2 HV1.out.2.1.lt, HV1.out.2.2.1.below hbV2, HV1.out.2.2.2.below hbV2 HV1.out.2.2.2.lt⟩
      clear c0V1 c1V1 c2V1
      clear HCV2
      have HC1 := rteams_is HV2.out.2.2.1 (by have := HN.out; omega) o
      rw [hso, hL, hln] at HC1
      go_wp2_with (with_reducible change wpList _ _ _ ({ dst := some 18, op := _, type := _, pos := _, after := _, guard := _ } :: _) _ _; refine Hid.out ?_)
      show wpList _ _ _ _ _ _
      refine wpList_load_row rfl 30 (.tmp 3) rfl b rfl 30 #[.slice ua nu uc, .slice oa no oc, .slice a m c] (0, 0) _ HV2.out.2.1 Try.underlying30 rfl size30 ?_
      simp only [Act.put, List.setIfInBounds_toArray, List.set_cons_zero, List.set_cons_succ]
      go_wp2_with fail
      refine HC1.mono ?_
      rintro e V3 ⟨v1, rfl, hs1, hb1⟩
      have hs1' := hs1
      obtain ⟨la1, lc1, hv1, _⟩ := hs1
      subst hv1
      have HV3 : Hid (Below w.heap.size w V3 ∧ Blk V3 b 30 [.slice ua nu uc, .slice oa no oc, .slice a m c] ∧ RPt V3 (.slice ua nu uc) (.slice oa no oc) (.slice a m c) R ∧ Blk V3 (b + 1) 30 [.slice none 0 0, .slice none 0 0, .slice none 0 0]) := ⟨below_tr HV2.out.1 hb1, HV2.out.2.1.below hb1 HV2.out.2.1.lt, HV2.out.2.2.1.below hb1, HV2.out.2.2.2.below hb1 HV2.out.2.2.2.lt⟩
      have HT1 : Hid (SV V3 (.slice la1 ln lc1) ln 1 (L.map hv)) := hs1'
      clear HC1 hs1' hb1
      by_cases ht : t ∈ L
      · have HCV4 := rhas_b HT1.out (by have := HLN.out; omega) t true (decide_eq_true ht)
        rw [hst] at HCV4
        have c0V3 : V3.cell? ⟨b, 0, none⟩ = some (.slice ua nu uc) := HV3.out.2.1.cell rfl
        have c1V3 : V3.cell? ⟨b, 1, none⟩ = some (.slice oa no oc) := HV3.out.2.1.cell rfl
        have c2V3 : V3.cell? ⟨b, 2, none⟩ = some (.slice a m c) := HV3.out.2.1.cell rfl
        go_wp2_with fail
        refine HCV4.mono ?_
        rintro e V4 ⟨rfl, hbV4⟩
        have HV4 : Hid (Below w.heap.size w V4 ∧ Blk V4 b 30 [.slice ua nu uc, .slice oa no oc, .slice a m c] ∧ RPt V4 (.slice ua nu uc) (.slice oa no oc) (.slice a m c) R ∧ Blk V4 (b + 1) 30 [.slice none 0 0, .slice none 0 0, .slice none 0 0]) := ⟨below_tr HV3.out.1 hbV4, HV3.out.2.1.below hbV4 HV3.out.2.1.lt, HV3.out.2.2.1.below hbV4, HV3.out.2.2.2.below hbV4 HV3.out.2.2.2.lt⟩
        clear c0V3 c1V3 c2V3
        clear HCV4
        have HF : Hid (q = (R, 110)) := by show _ = _; rw [← HQ.out]; unfold rTeam; rw [if_neg (fun h => h ho), if_neg (by rw [h1]; simp), if_pos (by rw [HLN.out.1]; exact ht)]
        clear h1 ho ht hL hln
        go_wp2_with (with_reducible change wpList _ _ _ ({ dst := some 23, op := _, type := _, pos := _, after := _, guard := _ } :: _) _ _; refine Hid.out ?_)
        show wpList _ _ _ _ _ _
        refine wpList_load_row rfl 30 (.tmp 3) rfl b rfl 30 #[.slice ua nu uc, .slice oa no oc, .slice a m c] (0, 0) _ HV4.out.2.1 Try.underlying30 rfl size30 ?_
        simp only [Act.put, List.setIfInBounds_toArray, List.set_cons_zero, List.set_cons_succ]
        go_wp2_with (with_reducible change wpList _ _ _ ({ dst := none, op := Op.store 30 _ _, type := _, pos := _, after := _, guard := _ } :: _) _ _; refine Hid.out ?_)
        show wpList _ _ _ _ _ _
        refine wpList_store_blk rfl 30 (.tmp 6) (.tmp 23) rfl (b + 1) 0 30 [.slice none 0 0, .slice none 0 0, .slice none 0 0] [.slice ua nu uc, .slice oa no oc, .slice a m c] rfl rfl HV4.out.2.2.2 (by simp) size30 (three HV4.out.2.2.1) ?_
        intro Ve hbe hge
        have HE : Hid (Blk Ve (b + 1) 30 [.slice ua nu uc, .slice oa no oc, .slice a m c] ∧ RPt Ve (.slice ua nu uc) (.slice oa no oc) (.slice a m c) R ∧ Below w.heap.size w Ve) := by
          have hn := HN.out.2.2.2.2
          have hbw : Below w.heap.size w Ve := HV4.out.1.grown hge.out HV4.out.1.size (fun j hj => by cases hj; omega)
          exact ⟨by simpa using hbe.out, rp_other HV4.out.2.2.1 HV4.out.2.2.2 hge.out, hbw⟩
        clear hbe hge
        go_wp2_with fail
        refine rret30u rfl rfl rfl rfl HE.out.1 ?_
        exact ⟨_, _, _, by rw [HF.out]; rfl, by rw [HF.out]; exact HE.out.2⟩
      · have HCV4 := rhas_b HT1.out (by have := HLN.out; omega) t false (decide_eq_false ht)
        rw [hst] at HCV4
        have c0V3 : V3.cell? ⟨b, 0, none⟩ = some (.slice ua nu uc) := HV3.out.2.1.cell rfl
        have c1V3 : V3.cell? ⟨b, 1, none⟩ = some (.slice oa no oc) := HV3.out.2.1.cell rfl
        have c2V3 : V3.cell? ⟨b, 2, none⟩ = some (.slice a m c) := HV3.out.2.1.cell rfl
        go_wp2_with fail
        refine HCV4.mono ?_
        rintro e V4 ⟨rfl, hbV4⟩
        have HV4 : Hid (Below w.heap.size w V4 ∧ Blk V4 b 30 [.slice ua nu uc, .slice oa no oc, .slice a m c] ∧ RPt V4 (.slice ua nu uc) (.slice oa no oc) (.slice a m c) R ∧ Blk V4 (b + 1) 30 [.slice none 0 0, .slice none 0 0, .slice none 0 0]) := ⟨below_tr HV3.out.1 hbV4, HV3.out.2.1.below hbV4 HV3.out.2.1.lt, HV3.out.2.2.1.below hbV4, HV3.out.2.2.2.below hbV4 HV3.out.2.2.2.lt⟩
        clear c0V3 c1V3 c2V3
        clear HCV4
        have HC2 := rteams_is HV4.out.2.2.1 (by have := HN.out; omega) o
        rw [hso, hL, hln] at HC2
        go_wp2_with (with_reducible change wpList _ _ _ ({ dst := some 24, op := _, type := _, pos := _, after := _, guard := _ } :: _) _ _; refine Hid.out ?_)
        show wpList _ _ _ _ _ _
        refine wpList_load_row rfl 30 (.tmp 3) rfl b rfl 30 #[.slice ua nu uc, .slice oa no oc, .slice a m c] (0, 0) _ HV4.out.2.1 Try.underlying30 rfl size30 ?_
        simp only [Act.put, List.setIfInBounds_toArray, List.set_cons_zero, List.set_cons_succ]
        go_wp2_with fail
        refine HC2.mono ?_
        rintro e V5 ⟨v2, rfl, hs2, hb2⟩
        have hs2' := hs2
        obtain ⟨la2, lc2, hv2, _⟩ := hs2
        subst hv2
        have HV5 : Hid (Below w.heap.size w V5 ∧ Blk V5 b 30 [.slice ua nu uc, .slice oa no oc, .slice a m c] ∧ RPt V5 (.slice ua nu uc) (.slice oa no oc) (.slice a m c) R ∧ Blk V5 (b + 1) 30 [.slice none 0 0, .slice none 0 0, .slice none 0 0]) := ⟨below_tr HV4.out.1 hb2, HV4.out.2.1.below hb2 HV4.out.2.1.lt, HV4.out.2.2.1.below hb2, HV4.out.2.2.2.below hb2 HV4.out.2.2.2.lt⟩
        have HT2 : Hid (SV V5 (.slice la2 ln lc2) ln 1 (L.map hv)) := hs2'
        clear HC2 hs2' hb2
        by_cases h8 : 8 ≤ ln
        · have q1 : (8 : Int) ≤ (ln : Int) := by omega
          have HF : Hid (q = (R, 3)) := by show _ = _; rw [← HQ.out]; unfold rTeam; rw [if_neg (fun h => h ho), if_neg (by rw [h1]; simp), if_neg (by rw [HLN.out.1]; exact ht), if_pos (by rw [HLN.out.1, HLN.out.2.1]; exact h8)]
          clear h1 ho h8 ht hL hln
          go_wp2_with (with_reducible change wpList _ _ _ ({ dst := some 29, op := _, type := _, pos := _, after := _, guard := _ } :: _) _ _; refine Hid.out ?_)
          show wpList _ _ _ _ _ _
          refine wpList_load_row rfl 30 (.tmp 3) rfl b rfl 30 #[.slice ua nu uc, .slice oa no oc, .slice a m c] (0, 0) _ HV5.out.2.1 Try.underlying30 rfl size30 ?_
          simp only [Act.put, List.setIfInBounds_toArray, List.set_cons_zero, List.set_cons_succ]
          go_wp2_with (with_reducible change wpList _ _ _ ({ dst := none, op := Op.store 30 _ _, type := _, pos := _, after := _, guard := _ } :: _) _ _; refine Hid.out ?_)
          show wpList _ _ _ _ _ _
          refine wpList_store_blk rfl 30 (.tmp 6) (.tmp 29) rfl (b + 1) 0 30 [.slice none 0 0, .slice none 0 0, .slice none 0 0] [.slice ua nu uc, .slice oa no oc, .slice a m c] rfl rfl HV5.out.2.2.2 (by simp) size30 (three HV5.out.2.2.1) ?_
          intro Ve hbe hge
          have HE : Hid (Blk Ve (b + 1) 30 [.slice ua nu uc, .slice oa no oc, .slice a m c] ∧ RPt Ve (.slice ua nu uc) (.slice oa no oc) (.slice a m c) R ∧ Below w.heap.size w Ve) := by
            have hn := HN.out.2.2.2.2
            have hbw : Below w.heap.size w Ve := HV5.out.1.grown hge.out HV5.out.1.size (fun j hj => by cases hj; omega)
            exact ⟨by simpa using hbe.out, rp_other HV5.out.2.2.1 HV5.out.2.2.2 hge.out, hbw⟩
          clear hbe hge
          go_wp2_with fail
          refine rret30u rfl rfl rfl rfl HE.out.1 ?_
          exact ⟨_, _, _, by rw [HF.out]; rfl, by rw [HF.out]; exact HE.out.2⟩
        · have q1 : (ln : Int) < 8 := by omega
          have HF : Hid (q = ({ R with F := R.F ++ [⟨o, t, [], 0⟩] }, 0)) := by show _ = _; rw [← HQ.out]; unfold rTeam; rw [if_neg (fun h => h ho), if_neg (by rw [h1]; simp), if_neg (by rw [HLN.out.1]; exact ht), if_neg (by rw [HLN.out.1, HLN.out.2.1]; exact h8)]
          clear h1 ho h8 ht hL hln
          go_wp2_with (with_reducible change wpList _ _ _ ({ dst := some 30, op := _, type := _, pos := _, after := _, guard := _ } :: _) _ _; refine Hid.out ?_)
          show wpList _ _ _ _ _ _
          refine wpList_load_row rfl 30 (.tmp 3) rfl b rfl 30 #[.slice ua nu uc, .slice oa no oc, .slice a m c] (0, 0) _ HV5.out.2.1 Try.underlying30 rfl size30 ?_
          simp only [Act.put, List.setIfInBounds_toArray, List.set_cons_zero, List.set_cons_succ]
          have HC := rwith_is HV5.out.2.2.1 ⟨o, t, [], 0⟩ (by show R.F.length + 1 ≤ _; have := HN.out; omega)
          have HC2 : Calls Try.prog 62 #[.agg #[.slice ua nu uc, .slice oa no oc, .slice a m c], .agg #[hv o, hv t, hv [], iv 0]] V5 _ := HC
          rw [hso, hst, show hv [] = .string ⟨#[]⟩ from rfl] at HC2
          clear HC
          go_wp2_with fail
          refine HC2.mono ?_
          rintro e V6 ⟨fv2, rfl, hr2, hbf⟩
          have HV6 : Hid (Below w.heap.size w V6 ∧ True ∧ RPt V6 (.slice ua nu uc) (.slice oa no oc) fv2 { R with F := R.F ++ [⟨o, t, [], 0⟩] } ∧ Blk V6 (b + 1) 30 [.slice none 0 0, .slice none 0 0, .slice none 0 0]) := ⟨below_tr HV5.out.1 hbf, trivial, hr2, HV5.out.2.2.2.below hbf HV5.out.2.2.2.lt⟩
          clear HC2 hr2 hbf
          go_wp2_with (with_reducible change wpList _ _ _ ({ dst := none, op := Op.store 30 _ _, type := _, pos := _, after := _, guard := _ } :: _) _ _; refine Hid.out ?_)
          show wpList _ _ _ _ _ _
          refine wpList_store_blk rfl 30 (.tmp 6) (.tmp 34) rfl (b + 1) 0 30 [.slice none 0 0, .slice none 0 0, .slice none 0 0] [.slice ua nu uc, .slice oa no oc, fv2] rfl rfl HV6.out.2.2.2 (by simp) size30 (three HV6.out.2.2.1) ?_
          intro Ve hbe hge
          have HE : Hid (Blk Ve (b + 1) 30 [.slice ua nu uc, .slice oa no oc, fv2] ∧ RPt Ve (.slice ua nu uc) (.slice oa no oc) (fv2) { R with F := R.F ++ [⟨o, t, [], 0⟩] } ∧ Below w.heap.size w Ve) := by
            have hn := HN.out.2.2.2.2
            have hbw : Below w.heap.size w Ve := HV6.out.1.grown hge.out HV6.out.1.size (fun j hj => by cases hj; omega)
            exact ⟨by simpa using hbe.out, rp_other HV6.out.2.2.1 HV6.out.2.2.2 hge.out, hbw⟩
          clear hbe hge
          go_wp2_with fail
          refine rret30u rfl rfl rfl rfl HE.out.1 ?_
          exact ⟨_, _, _, by rw [HF.out]; rfl, by rw [HF.out]; exact HE.out.2⟩
    · have h2 : isName t = false := by simpa using h1
      have HCV2 := rname_is t ht0 V1
      rw [hst, h2] at HCV2
      have c0V1 : V1.cell? ⟨b, 0, none⟩ = some (.slice ua nu uc) := HV1.out.2.1.cell rfl
      have c1V1 : V1.cell? ⟨b, 1, none⟩ = some (.slice oa no oc) := HV1.out.2.1.cell rfl
      have c2V1 : V1.cell? ⟨b, 2, none⟩ = some (.slice a m c) := HV1.out.2.1.cell rfl
      go_wp2_with fail
      refine HCV2.mono ?_
      rintro e V2 ⟨rfl, hbV2⟩
      have HV2 : Hid (Below w.heap.size w V2 ∧ Blk V2 b 30 [.slice ua nu uc, .slice oa no oc, .slice a m c] ∧ RPt V2 (.slice ua nu uc) (.slice oa no oc) (.slice a m c) R ∧ Blk V2 (b + 1) 30 [.slice none 0 0, .slice none 0 0, .slice none 0 0]) := ⟨below_tr HV1.out.1 hbV2, HV1.out.2.1.below hbV2 HV1.out.2.1.lt, HV1.out.2.2.1.below hbV2, HV1.out.2.2.2.below hbV2 HV1.out.2.2.2.lt⟩
      clear c0V1 c1V1 c2V1
      clear HCV2
      have HF : Hid (q = (R, 150)) := by show _ = _; rw [← HQ.out]; unfold rTeam; rw [if_neg (fun h => h ho), if_pos h2]
      clear h1 h2 ho hL hln
      go_wp2_with (with_reducible change wpList _ _ _ ({ dst := some 17, op := _, type := _, pos := _, after := _, guard := _ } :: _) _ _; refine Hid.out ?_)
      show wpList _ _ _ _ _ _
      refine wpList_load_row rfl 30 (.tmp 3) rfl b rfl 30 #[.slice ua nu uc, .slice oa no oc, .slice a m c] (0, 0) _ HV2.out.2.1 Try.underlying30 rfl size30 ?_
      simp only [Act.put, List.setIfInBounds_toArray, List.set_cons_zero, List.set_cons_succ]
      go_wp2_with (with_reducible change wpList _ _ _ ({ dst := none, op := Op.store 30 _ _, type := _, pos := _, after := _, guard := _ } :: _) _ _; refine Hid.out ?_)
      show wpList _ _ _ _ _ _
      refine wpList_store_blk rfl 30 (.tmp 6) (.tmp 17) rfl (b + 1) 0 30 [.slice none 0 0, .slice none 0 0, .slice none 0 0] [.slice ua nu uc, .slice oa no oc, .slice a m c] rfl rfl HV2.out.2.2.2 (by simp) size30 (three HV2.out.2.2.1) ?_
      intro Ve hbe hge
      have HE : Hid (Blk Ve (b + 1) 30 [.slice ua nu uc, .slice oa no oc, .slice a m c] ∧ RPt Ve (.slice ua nu uc) (.slice oa no oc) (.slice a m c) R ∧ Below w.heap.size w Ve) := by
        have hn := HN.out.2.2.2.2
        have hbw : Below w.heap.size w Ve := HV2.out.1.grown hge.out HV2.out.1.size (fun j hj => by cases hj; omega)
        exact ⟨by simpa using hbe.out, rp_other HV2.out.2.2.1 HV2.out.2.2.2 hge.out, hbw⟩
      clear hbe hge
      go_wp2_with fail
      refine rret30u rfl rfl rfl rfl HE.out.1 ?_
      exact ⟨_, _, _, by rw [HF.out]; rfl, by rw [HF.out]; exact HE.out.2⟩
  · have HCV1 := rhas_b HA.out.2.2.1.o HA.out.2.2.1.no o false (decide_eq_false ho)
    rw [hso] at HCV1
    have c0A : A.cell? ⟨b, 0, none⟩ = some (.slice ua nu uc) := HA.out.2.1.cell rfl
    have c1A : A.cell? ⟨b, 1, none⟩ = some (.slice oa no oc) := HA.out.2.1.cell rfl
    have c2A : A.cell? ⟨b, 2, none⟩ = some (.slice a m c) := HA.out.2.1.cell rfl
    go_wp2_with fail
    refine HCV1.mono ?_
    rintro e V1 ⟨rfl, hbV1⟩
    have HV1 : Hid (Below w.heap.size w V1 ∧ Blk V1 b 30 [.slice ua nu uc, .slice oa no oc, .slice a m c] ∧ RPt V1 (.slice ua nu uc) (.slice oa no oc) (.slice a m c) R ∧ Blk V1 (b + 1) 30 [.slice none 0 0, .slice none 0 0, .slice none 0 0]) := ⟨below_tr HA.out.1 hbV1, HA.out.2.1.below hbV1 HA.out.2.1.lt, HA.out.2.2.1.below hbV1, HA.out.2.2.2.below hbV1 HA.out.2.2.2.lt⟩
    clear c0A c1A c2A
    clear HCV1
    clear hA hb
    have HF : Hid (q = (R, 111)) := by show _ = _; rw [← HQ.out]; unfold rTeam; rw [if_pos ho]
    clear ho hL hln
    go_wp2_with (with_reducible change wpList _ _ _ ({ dst := some 13, op := _, type := _, pos := _, after := _, guard := _ } :: _) _ _; refine Hid.out ?_)
    show wpList _ _ _ _ _ _
    refine wpList_load_row rfl 30 (.tmp 3) rfl b rfl 30 #[.slice ua nu uc, .slice oa no oc, .slice a m c] (0, 0) _ HV1.out.2.1 Try.underlying30 rfl size30 ?_
    simp only [Act.put, List.setIfInBounds_toArray, List.set_cons_zero, List.set_cons_succ]
    go_wp2_with (with_reducible change wpList _ _ _ ({ dst := none, op := Op.store 30 _ _, type := _, pos := _, after := _, guard := _ } :: _) _ _; refine Hid.out ?_)
    show wpList _ _ _ _ _ _
    refine wpList_store_blk rfl 30 (.tmp 6) (.tmp 13) rfl (b + 1) 0 30 [.slice none 0 0, .slice none 0 0, .slice none 0 0] [.slice ua nu uc, .slice oa no oc, .slice a m c] rfl rfl HV1.out.2.2.2 (by simp) size30 (three HV1.out.2.2.1) ?_
    intro Ve hbe hge
    have HE : Hid (Blk Ve (b + 1) 30 [.slice ua nu uc, .slice oa no oc, .slice a m c] ∧ RPt Ve (.slice ua nu uc) (.slice oa no oc) (.slice a m c) R ∧ Below w.heap.size w Ve) := by
      have hn := HN.out.2.2.2.2
      have hbw : Below w.heap.size w Ve := HV1.out.1.grown hge.out HV1.out.1.size (fun j hj => by cases hj; omega)
      exact ⟨by simpa using hbe.out, rp_other HV1.out.2.2.1 HV1.out.2.2.2 hge.out, hbw⟩
    clear hbe hge
    go_wp2_with fail
    refine rret30u rfl rfl rfl rfl HE.out.1 ?_
    exact ⟨_, _, _, by rw [HF.out]; rfl, by rw [HF.out]; exact HE.out.2⟩
#print axioms rteam_is
set_option maxRecDepth 100000 in
set_option maxHeartbeats 4000000 in
theorem rput_is {w : World} {uv ov fv : Value} {R : Rp} (h : RPt w uv ov fv R) (hF : R.F.length ≤ 990) (o : Hs) (t : Hs) (u : Hs) : Calls Try.prog 36 #[.agg #[uv, ov, fv], hv o, hv t, hv u] w (Ro w (rPut R o t u)) := by
  obtain ⟨m, hm⟩ : ∃ m, R.F.length = m := ⟨_, rfl⟩
  obtain ⟨nu, hnu⟩ : ∃ m, R.U.length = m := ⟨_, rfl⟩
  obtain ⟨no, hno⟩ : ∃ m, R.O.length = m := ⟨_, rfl⟩
  obtain ⟨ua, uc, rfl, _⟩ := h.u
  obtain ⟨oa, oc, rfl, _⟩ := h.o
  obtain ⟨a, c, rfl, _⟩ := h.f
  rw [hm, hnu, hno] at h ⊢
  obtain ⟨so, hso, hlo, hqo⟩ := bs_is o
  obtain ⟨st, hst, hlt, hqt⟩ := bs_is t
  obtain ⟨su, hsu, hlu, hqu⟩ := bs_is u
  have HS : Hid (so.toList = o ∧ hv o = .string so ∧ st.toList = t ∧ hv t = .string st ∧ su.toList = u ∧ hv u = .string su ∧ True) := ⟨hlo, hso, hlt, hst, hlu, hsu, trivial⟩
  have hz30 := zero30
  obtain ⟨b, hb⟩ : ∃ b, w.heap.size = b := ⟨_, rfl⟩
  obtain ⟨A, hA⟩ : ∃ A, (w.alloc (.cells #[.slice ua nu uc, .slice oa no oc, .slice a m c] 30)).alloc (.cells #[.slice none 0 0, .slice none 0 0, .slice none 0 0] 30) = A := ⟨_, rfl⟩
  have hB : Below w.heap.size w A := by rw [← hA]; exact ((Below.refl _ w).alloc (Nat.le_refl _) _).alloc (by simp) _
  have h2 : Blk A b 30 [.slice ua nu uc, .slice oa no oc, .slice a m c] := by rw [← hA, ← hb]; exact (Blk.new w _ _).alloc _
  have h4 : Blk A (b + 1) 30 [.slice none 0 0, .slice none 0 0, .slice none 0 0] := by
    rw [← hA, ← hb]
    have := Blk.new (w.alloc (.cells #[.slice ua nu uc, .slice oa no oc, .slice a m c] 30)) #[.slice none 0 0, .slice none 0 0, .slice none 0 0] 30
    rwa [World.size_alloc] at this
  have HA0 : Hid (RPt w (.slice ua nu uc) (.slice oa no oc) (.slice a m c) R) := h
  have HA : Hid (Below w.heap.size w A ∧ Blk A b 30 [.slice ua nu uc, .slice oa no oc, .slice a m c] ∧ RPt A (.slice ua nu uc) (.slice oa no oc) (.slice a m c) R ∧ Blk A (b + 1) 30 [.slice none 0 0, .slice none 0 0, .slice none 0 0]) := ⟨hB, h2, h.below hB, h4⟩
  have HN : Hid (R.F.length = m ∧ R.U.length = nu ∧ R.O.length = no ∧ m ≤ 990 ∧ w.heap.size = b) := ⟨hm, hnu, hno, by omega, hb⟩
  have qu : (nu : Int) ≤ 1000 := by have := h.nu; omega
  have qo : (no : Int) ≤ 1000 := by have := h.no; omega
  have qm : (m : Int) ≤ 990 := by omega
  rw [hso, hst, hsu]
  clear h hF hm hnu hno hB h2 h4 hlo hqo hlt hqt hlu hqu
  go_enter Try.func36, Try.ntmps36
  obtain ⟨q, hq⟩ : ∃ q, rPut R o t u = q := ⟨_, rfl⟩
  have HQ : Hid (rPut R o t u = q) := hq
  rw [hq]
  clear hq
  obtain ⟨L, hL⟩ : ∃ L, teaF R.F o = L := ⟨_, rfl⟩
  obtain ⟨ln, hln⟩ : ∃ n, L.length = n := ⟨_, rfl⟩
  have HLN : Hid (teaF R.F o = L ∧ L.length = ln ∧ ln ≤ 990) := ⟨hL, hln, by have h1 := teaF_len R.F o; have h2 := HN.out; rw [hL] at h1; omega⟩
  have ql : (ln : Int) ≤ 990 := by have := HLN.out.2.2; omega
  obtain ⟨k, hk⟩ : ∃ k, fct R.F o t u = k := ⟨_, rfl⟩
  have HK : Hid (fct R.F o t u = k) := hk
  obtain ⟨r, hr0⟩ : ∃ k, roleF R.F o u = k := ⟨_, rfl⟩
  have HR0 : Hid (roleF R.F o u = r) := hr0
  have HC1 := rteams_is HA.out.2.2.1 (by have := HN.out; omega) o
  rw [hso, hL, hln] at HC1
  go_wp2_with (with_reducible change wpList _ _ _ ({ dst := some 10, op := _, type := _, pos := _, after := _, guard := _ } :: _) _ _; refine Hid.out ?_)
  show wpList _ _ _ _ _ _
  refine wpList_load_row rfl 30 (.tmp 4) rfl b rfl 30 #[.slice ua nu uc, .slice oa no oc, .slice a m c] (0, 0) _ HA.out.2.1 Try.underlying30 rfl size30 ?_
  simp only [Act.put, List.setIfInBounds_toArray, List.set_cons_zero, List.set_cons_succ]
  go_wp2_with fail
  refine HC1.mono ?_
  rintro e V1 ⟨v1, rfl, hs1, hb1⟩
  have hs1' := hs1
  obtain ⟨la1, lc1, hv1, _⟩ := hs1
  subst hv1
  have HV1 : Hid (Below w.heap.size w V1 ∧ Blk V1 b 30 [.slice ua nu uc, .slice oa no oc, .slice a m c] ∧ RPt V1 (.slice ua nu uc) (.slice oa no oc) (.slice a m c) R ∧ Blk V1 (b + 1) 30 [.slice none 0 0, .slice none 0 0, .slice none 0 0]) := ⟨below_tr HA.out.1 hb1, HA.out.2.1.below hb1 HA.out.2.1.lt, HA.out.2.2.1.below hb1, HA.out.2.2.2.below hb1 HA.out.2.2.2.lt⟩
  have HT1 : Hid (SV V1 (.slice la1 ln lc1) ln 1 (L.map hv)) := hs1'
  clear HC1 hs1' hb1
  clear hA hb
  by_cases ht : t ∈ L
  · have HCV2 := rhas_b HT1.out (by have := HLN.out; omega) t true (decide_eq_true ht)
    rw [hst] at HCV2
    have c0V1 : V1.cell? ⟨b, 0, none⟩ = some (.slice ua nu uc) := HV1.out.2.1.cell rfl
    have c1V1 : V1.cell? ⟨b, 1, none⟩ = some (.slice oa no oc) := HV1.out.2.1.cell rfl
    have c2V1 : V1.cell? ⟨b, 2, none⟩ = some (.slice a m c) := HV1.out.2.1.cell rfl
    go_wp2_with fail
    refine HCV2.mono ?_
    rintro e V2 ⟨rfl, hbV2⟩
    have HV2 : Hid (Below w.heap.size w V2 ∧ Blk V2 b 30 [.slice ua nu uc, .slice oa no oc, .slice a m c] ∧ RPt V2 (.slice ua nu uc) (.slice oa no oc) (.slice a m c) R ∧ Blk V2 (b + 1) 30 [.slice none 0 0, .slice none 0 0, .slice none 0 0]) := ⟨below_tr HV1.out.1 hbV2, HV1.out.2.1.below hbV2 HV1.out.2.1.lt, HV1.out.2.2.1.below hbV2, HV1.out.2.2.2.below hbV2 HV1.out.2.2.2.lt⟩
    clear c0V1 c1V1 c2V1
    clear HCV2
    have HC := rrole_is HV2.out.2.2.1 o u
    rw [hso, hsu, hr0] at HC
    go_wp2_with (with_reducible change wpList _ _ _ ({ dst := some 17, op := _, type := _, pos := _, after := _, guard := _ } :: _) _ _; refine Hid.out ?_)
    show wpList _ _ _ _ _ _
    refine wpList_load_want rfl 30 (.tmp 4) rfl b 0 rfl [.slice ua nu uc, .slice oa no oc, .slice a m c] _ (by have := HV2.out.2.1.range 0 3; simpa using this) Try.underlying30 rfl size30 ?_
    simp only [Act.put, List.setIfInBounds_toArray, List.set_cons_zero, List.set_cons_succ]
    go_wp2_with fail
    refine HC.mono ?_
    rintro e V3 ⟨rfl, hb3⟩
    have HV3 : Hid (Below w.heap.size w V3 ∧ Blk V3 b 30 [.slice ua nu uc, .slice oa no oc, .slice a m c] ∧ RPt V3 (.slice ua nu uc) (.slice oa no oc) (.slice a m c) R ∧ Blk V3 (b + 1) 30 [.slice none 0 0, .slice none 0 0, .slice none 0 0]) := ⟨below_tr HV2.out.1 hb3, HV2.out.2.1.below hb3 HV2.out.2.1.lt, HV2.out.2.2.1.below hb3, HV2.out.2.2.2.below hb3 HV2.out.2.2.2.lt⟩
    clear HC hb3 hr0
    by_cases hr : r = 0
    · have b2 : (r == 0) = true := by simp [hr]
      have HF : Hid (q = (R, 111)) := by show _ = _; rw [← HQ.out]; unfold rPut; rw [if_neg (fun h => h (by rw [HLN.out.1]; exact ht)), if_pos (by rw [HR0.out]; exact hr)]
      clear hr ht hL hln hk
      go_wp2_with (with_reducible change wpList _ _ _ ({ dst := some 23, op := _, type := _, pos := _, after := _, guard := _ } :: _) _ _; refine Hid.out ?_)
      show wpList _ _ _ _ _ _
      refine wpList_load_row rfl 30 (.tmp 4) rfl b rfl 30 #[.slice ua nu uc, .slice oa no oc, .slice a m c] (0, 0) _ HV3.out.2.1 Try.underlying30 rfl size30 ?_
      simp only [Act.put, List.setIfInBounds_toArray, List.set_cons_zero, List.set_cons_succ]
      go_wp2_with (with_reducible change wpList _ _ _ ({ dst := none, op := Op.store 30 _ _, type := _, pos := _, after := _, guard := _ } :: _) _ _; refine Hid.out ?_)
      show wpList _ _ _ _ _ _
      refine wpList_store_blk rfl 30 (.tmp 8) (.tmp 23) rfl (b + 1) 0 30 [.slice none 0 0, .slice none 0 0, .slice none 0 0] [.slice ua nu uc, .slice oa no oc, .slice a m c] rfl rfl HV3.out.2.2.2 (by simp) size30 (three HV3.out.2.2.1) ?_
      intro Ve hbe hge
      have HE : Hid (Blk Ve (b + 1) 30 [.slice ua nu uc, .slice oa no oc, .slice a m c] ∧ RPt Ve (.slice ua nu uc) (.slice oa no oc) (.slice a m c) R ∧ Below w.heap.size w Ve) := by
        have hn := HN.out.2.2.2.2
        have hbw : Below w.heap.size w Ve := HV3.out.1.grown hge.out HV3.out.1.size (fun j hj => by cases hj; omega)
        exact ⟨by simpa using hbe.out, rp_other HV3.out.2.2.1 HV3.out.2.2.2 hge.out, hbw⟩
      clear hbe hge
      go_wp2_with fail
      refine rret30u rfl rfl rfl rfl HE.out.1 ?_
      exact ⟨_, _, _, by rw [HF.out]; rfl, by rw [HF.out]; exact HE.out.2⟩
    · have b2 : (r == 0) = false := by simpa using hr
      have HC := rfact_is HV3.out.2.2.1 o t u
      rw [hso, hst, hsu, hk] at HC
      go_wp2_with (with_reducible change wpList _ _ _ ({ dst := some 24, op := _, type := _, pos := _, after := _, guard := _ } :: _) _ _; refine Hid.out ?_)
      show wpList _ _ _ _ _ _
      refine wpList_load_row rfl 30 (.tmp 4) rfl b rfl 30 #[.slice ua nu uc, .slice oa no oc, .slice a m c] (0, 0) _ HV3.out.2.1 Try.underlying30 rfl size30 ?_
      simp only [Act.put, List.setIfInBounds_toArray, List.set_cons_zero, List.set_cons_succ]
      go_wp2_with fail
      refine HC.mono ?_
      rintro e V4 ⟨rfl, hb4⟩
      have HV4 : Hid (Below w.heap.size w V4 ∧ Blk V4 b 30 [.slice ua nu uc, .slice oa no oc, .slice a m c] ∧ RPt V4 (.slice ua nu uc) (.slice oa no oc) (.slice a m c) R ∧ Blk V4 (b + 1) 30 [.slice none 0 0, .slice none 0 0, .slice none 0 0]) := ⟨below_tr HV3.out.1 hb4, HV3.out.2.1.below hb4 HV3.out.2.1.lt, HV3.out.2.2.1.below hb4, HV3.out.2.2.2.below hb4 HV3.out.2.2.2.lt⟩
      clear HC hb4 hk
      by_cases h0 : 0 ≤ k
      · have HF : Hid (q = (R, 110)) := by show _ = _; rw [← HQ.out]; unfold rPut; rw [if_neg (fun h => h (by rw [HLN.out.1]; exact ht)), if_neg (by rw [HR0.out]; exact hr), if_pos (by rw [HK.out]; exact h0)]
        clear hr ht hL hln
        go_wp2_with (with_reducible change wpList _ _ _ ({ dst := some 30, op := _, type := _, pos := _, after := _, guard := _ } :: _) _ _; refine Hid.out ?_)
        show wpList _ _ _ _ _ _
        refine wpList_load_row rfl 30 (.tmp 4) rfl b rfl 30 #[.slice ua nu uc, .slice oa no oc, .slice a m c] (0, 0) _ HV4.out.2.1 Try.underlying30 rfl size30 ?_
        simp only [Act.put, List.setIfInBounds_toArray, List.set_cons_zero, List.set_cons_succ]
        go_wp2_with (with_reducible change wpList _ _ _ ({ dst := none, op := Op.store 30 _ _, type := _, pos := _, after := _, guard := _ } :: _) _ _; refine Hid.out ?_)
        show wpList _ _ _ _ _ _
        refine wpList_store_blk rfl 30 (.tmp 8) (.tmp 30) rfl (b + 1) 0 30 [.slice none 0 0, .slice none 0 0, .slice none 0 0] [.slice ua nu uc, .slice oa no oc, .slice a m c] rfl rfl HV4.out.2.2.2 (by simp) size30 (three HV4.out.2.2.1) ?_
        intro Ve hbe hge
        have HE : Hid (Blk Ve (b + 1) 30 [.slice ua nu uc, .slice oa no oc, .slice a m c] ∧ RPt Ve (.slice ua nu uc) (.slice oa no oc) (.slice a m c) R ∧ Below w.heap.size w Ve) := by
          have hn := HN.out.2.2.2.2
          have hbw : Below w.heap.size w Ve := HV4.out.1.grown hge.out HV4.out.1.size (fun j hj => by cases hj; omega)
          exact ⟨by simpa using hbe.out, rp_other HV4.out.2.2.1 HV4.out.2.2.2 hge.out, hbw⟩
        clear hbe hge
        go_wp2_with fail
        refine rret30u rfl rfl rfl rfl HE.out.1 ?_
        exact ⟨_, _, _, by rw [HF.out]; rfl, by rw [HF.out]; exact HE.out.2⟩
      · have h9 : k < 0 := by omega
        have HF : Hid (q = ({ R with F := R.F ++ [⟨o, t, u, 0⟩] }, 0)) := by show _ = _; rw [← HQ.out]; unfold rPut; rw [if_neg (fun h => h (by rw [HLN.out.1]; exact ht)), if_neg (by rw [HR0.out]; exact hr), if_neg (by rw [HK.out]; exact h0)]
        clear hr ht hL hln h0
        go_wp2_with (with_reducible change wpList _ _ _ ({ dst := some 31, op := _, type := _, pos := _, after := _, guard := _ } :: _) _ _; refine Hid.out ?_)
        show wpList _ _ _ _ _ _
        refine wpList_load_row rfl 30 (.tmp 4) rfl b rfl 30 #[.slice ua nu uc, .slice oa no oc, .slice a m c] (0, 0) _ HV4.out.2.1 Try.underlying30 rfl size30 ?_
        simp only [Act.put, List.setIfInBounds_toArray, List.set_cons_zero, List.set_cons_succ]
        have HC := rwith_is HV4.out.2.2.1 ⟨o, t, u, 0⟩ (by show R.F.length + 1 ≤ _; have := HN.out; omega)
        have HC2 : Calls Try.prog 62 #[.agg #[.slice ua nu uc, .slice oa no oc, .slice a m c], .agg #[hv o, hv t, hv u, iv 0]] V4 _ := HC
        rw [hso, hst, hsu] at HC2
        clear HC
        go_wp2_with fail
        refine HC2.mono ?_
        rintro e V5 ⟨fv2, rfl, hr2, hbf⟩
        have HV5 : Hid (Below w.heap.size w V5 ∧ True ∧ RPt V5 (.slice ua nu uc) (.slice oa no oc) fv2 { R with F := R.F ++ [⟨o, t, u, 0⟩] } ∧ Blk V5 (b + 1) 30 [.slice none 0 0, .slice none 0 0, .slice none 0 0]) := ⟨below_tr HV4.out.1 hbf, trivial, hr2, HV4.out.2.2.2.below hbf HV4.out.2.2.2.lt⟩
        clear HC2 hr2 hbf
        go_wp2_with (with_reducible change wpList _ _ _ ({ dst := none, op := Op.store 30 _ _, type := _, pos := _, after := _, guard := _ } :: _) _ _; refine Hid.out ?_)
        show wpList _ _ _ _ _ _
        refine wpList_store_blk rfl 30 (.tmp 8) (.tmp 36) rfl (b + 1) 0 30 [.slice none 0 0, .slice none 0 0, .slice none 0 0] [.slice ua nu uc, .slice oa no oc, fv2] rfl rfl HV5.out.2.2.2 (by simp) size30 (three HV5.out.2.2.1) ?_
        intro Ve hbe hge
        have HE : Hid (Blk Ve (b + 1) 30 [.slice ua nu uc, .slice oa no oc, fv2] ∧ RPt Ve (.slice ua nu uc) (.slice oa no oc) (fv2) { R with F := R.F ++ [⟨o, t, u, 0⟩] } ∧ Below w.heap.size w Ve) := by
          have hn := HN.out.2.2.2.2
          have hbw : Below w.heap.size w Ve := HV5.out.1.grown hge.out HV5.out.1.size (fun j hj => by cases hj; omega)
          exact ⟨by simpa using hbe.out, rp_other HV5.out.2.2.1 HV5.out.2.2.2 hge.out, hbw⟩
        clear hbe hge
        go_wp2_with fail
        refine rret30u rfl rfl rfl rfl HE.out.1 ?_
        exact ⟨_, _, _, by rw [HF.out]; rfl, by rw [HF.out]; exact HE.out.2⟩
  · have HCV2 := rhas_b HT1.out (by have := HLN.out; omega) t false (decide_eq_false ht)
    rw [hst] at HCV2
    have c0V1 : V1.cell? ⟨b, 0, none⟩ = some (.slice ua nu uc) := HV1.out.2.1.cell rfl
    have c1V1 : V1.cell? ⟨b, 1, none⟩ = some (.slice oa no oc) := HV1.out.2.1.cell rfl
    have c2V1 : V1.cell? ⟨b, 2, none⟩ = some (.slice a m c) := HV1.out.2.1.cell rfl
    go_wp2_with fail
    refine HCV2.mono ?_
    rintro e V2 ⟨rfl, hbV2⟩
    have HV2 : Hid (Below w.heap.size w V2 ∧ Blk V2 b 30 [.slice ua nu uc, .slice oa no oc, .slice a m c] ∧ RPt V2 (.slice ua nu uc) (.slice oa no oc) (.slice a m c) R ∧ Blk V2 (b + 1) 30 [.slice none 0 0, .slice none 0 0, .slice none 0 0]) := ⟨below_tr HV1.out.1 hbV2, HV1.out.2.1.below hbV2 HV1.out.2.1.lt, HV1.out.2.2.1.below hbV2, HV1.out.2.2.2.below hbV2 HV1.out.2.2.2.lt⟩
    clear c0V1 c1V1 c2V1
    clear HCV2
    have HF : Hid (q = (R, 111)) := by show _ = _; rw [← HQ.out]; unfold rPut; rw [if_pos (by rw [HLN.out.1]; exact ht)]
    clear ht hL hln hk hr0
    go_wp2_with (with_reducible change wpList _ _ _ ({ dst := some 23, op := _, type := _, pos := _, after := _, guard := _ } :: _) _ _; refine Hid.out ?_)
    show wpList _ _ _ _ _ _
    refine wpList_load_row rfl 30 (.tmp 4) rfl b rfl 30 #[.slice ua nu uc, .slice oa no oc, .slice a m c] (0, 0) _ HV2.out.2.1 Try.underlying30 rfl size30 ?_
    simp only [Act.put, List.setIfInBounds_toArray, List.set_cons_zero, List.set_cons_succ]
    go_wp2_with (with_reducible change wpList _ _ _ ({ dst := none, op := Op.store 30 _ _, type := _, pos := _, after := _, guard := _ } :: _) _ _; refine Hid.out ?_)
    show wpList _ _ _ _ _ _
    refine wpList_store_blk rfl 30 (.tmp 8) (.tmp 23) rfl (b + 1) 0 30 [.slice none 0 0, .slice none 0 0, .slice none 0 0] [.slice ua nu uc, .slice oa no oc, .slice a m c] rfl rfl HV2.out.2.2.2 (by simp) size30 (three HV2.out.2.2.1) ?_
    intro Ve hbe hge
    have HE : Hid (Blk Ve (b + 1) 30 [.slice ua nu uc, .slice oa no oc, .slice a m c] ∧ RPt Ve (.slice ua nu uc) (.slice oa no oc) (.slice a m c) R ∧ Below w.heap.size w Ve) := by
      have hn := HN.out.2.2.2.2
      have hbw : Below w.heap.size w Ve := HV2.out.1.grown hge.out HV2.out.1.size (fun j hj => by cases hj; omega)
      exact ⟨by simpa using hbe.out, rp_other HV2.out.2.2.1 HV2.out.2.2.2 hge.out, hbw⟩
    clear hbe hge
    go_wp2_with fail
    refine rret30u rfl rfl rfl rfl HE.out.1 ?_
    exact ⟨_, _, _, by rw [HF.out]; rfl, by rw [HF.out]; exact HE.out.2⟩
#print axioms rput_is
end Go.Proofs.Ytfickhhfhdhcbaa.Oct
