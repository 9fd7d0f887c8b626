/-
  Layer 15 (people): the document's people: AddOrg, AddTeam, Out.
-/
import Derived.Test.YtfickhhfhdhcbaaRff
namespace Go.Proofs.Ytfickhhfhdhcbaa.Oct
open Go.RowKit
set_option linter.unusedSimpArgs false
set_option linter.unusedVariables false

set_option maxRecDepth 100000 in
set_option maxHeartbeats 4000000 in
theorem raddO_is {w : World} {uv ov fv : Value} {R : Rp} (h : RPt w uv ov fv R) (hF : R.F.length ≤ 990) (o : Hs) (u : Hs) (ho0 : o.length ≤ 140737488355328) : Calls Try.prog 32 #[.agg #[uv, ov, fv], hv o, hv u] w (Ro w (rAddO R o u)) := by
  obtain ⟨m, hm⟩ : ∃ m, R.F.length = m := ⟨_, rfl⟩
  obtain ⟨nu, hnu⟩ : ∃ m, R.U.length = m := ⟨_, rfl⟩
  obtain ⟨no, hno⟩ : ∃ m, R.O.length = m := ⟨_, rfl⟩
  obtain ⟨ua, uc, rfl, _⟩ := h.u
  obtain ⟨oa, oc, rfl, _⟩ := h.o
  obtain ⟨a, c, rfl, _⟩ := h.f
  rw [hm, hnu, hno] at h ⊢
  obtain ⟨so, hso, hlo, hqo⟩ := bs_is o
  obtain ⟨su, hsu, hlu, hqu⟩ := bs_is u
  have HS : Hid (so.toList = o ∧ hv o = .string so ∧ su.toList = u ∧ hv u = .string su ∧ True) := ⟨hlo, hso, hlu, hsu, trivial⟩
  have hz30 := zero30
  obtain ⟨b, hb⟩ : ∃ b, w.heap.size = b := ⟨_, rfl⟩
  obtain ⟨A, hA⟩ : ∃ A, (w.alloc (.cells #[.slice ua nu uc, .slice oa no oc, .slice a m c] 30)).alloc (.cells #[.slice none 0 0, .slice none 0 0, .slice none 0 0] 30) = A := ⟨_, rfl⟩
  have hB : Below w.heap.size w A := by rw [← hA]; exact ((Below.refl _ w).alloc (Nat.le_refl _) _).alloc (by simp) _
  have h2 : Blk A b 30 [.slice ua nu uc, .slice oa no oc, .slice a m c] := by rw [← hA, ← hb]; exact (Blk.new w _ _).alloc _
  have h4 : Blk A (b + 1) 30 [.slice none 0 0, .slice none 0 0, .slice none 0 0] := by
    rw [← hA, ← hb]
    have := Blk.new (w.alloc (.cells #[.slice ua nu uc, .slice oa no oc, .slice a m c] 30)) #[.slice none 0 0, .slice none 0 0, .slice none 0 0] 30
    rwa [World.size_alloc] at this
  have HA0 : Hid (RPt w (.slice ua nu uc) (.slice oa no oc) (.slice a m c) R) := h
  have HA : Hid (Below w.heap.size w A ∧ Blk A b 30 [.slice ua nu uc, .slice oa no oc, .slice a m c] ∧ RPt A (.slice ua nu uc) (.slice oa no oc) (.slice a m c) R ∧ Blk A (b + 1) 30 [.slice none 0 0, .slice none 0 0, .slice none 0 0]) := ⟨hB, h2, h.below hB, h4⟩
  have HN : Hid (R.F.length = m ∧ R.U.length = nu ∧ R.O.length = no ∧ m ≤ 990 ∧ w.heap.size = b) := ⟨hm, hnu, hno, by omega, hb⟩
  have qu : (nu : Int) ≤ 1000 := by have := h.nu; omega
  have qo : (no : Int) ≤ 1000 := by have := h.no; omega
  have qm : (m : Int) ≤ 990 := by omega
  rw [hso, hsu]
  clear h hF hm hnu hno hB h2 h4 hlo hqo hlu hqu
  go_enter Try.func32, Try.ntmps32
  obtain ⟨q, hq⟩ : ∃ q, rAddO R o u = q := ⟨_, rfl⟩
  have HQ : Hid (rAddO R o u = q) := hq
  rw [hq]
  clear hq
  by_cases h1 : isName o = true
  · have HCV1 := rname_is o ho0 A
    rw [hso, h1] at HCV1
    have c0A : A.cell? ⟨b, 0, none⟩ = some (.slice ua nu uc) := HA.out.2.1.cell rfl
    have c1A : A.cell? ⟨b, 1, none⟩ = some (.slice oa no oc) := HA.out.2.1.cell rfl
    have c2A : A.cell? ⟨b, 2, none⟩ = some (.slice a m c) := HA.out.2.1.cell rfl
    go_wp2_with fail
    refine HCV1.mono ?_
    rintro e V1 ⟨rfl, hbV1⟩
    have HV1 : Hid (Below w.heap.size w V1 ∧ Blk V1 b 30 [.slice ua nu uc, .slice oa no oc, .slice a m c] ∧ RPt V1 (.slice ua nu uc) (.slice oa no oc) (.slice a m c) R ∧ Blk V1 (b + 1) 30 [.slice none 0 0, .slice none 0 0, .slice none 0 0]) := ⟨below_tr HA.out.1 hbV1, HA.out.2.1.below hbV1 HA.out.2.1.lt, HA.out.2.2.1.below hbV1, HA.out.2.2.2.below hbV1 HA.out.2.2.2.lt⟩
    clear hA hb
    clear c0A c1A c2A
    clear HCV1
    by_cases ho : o ∈ R.O
    · have HCV2 := rhas_b HV1.out.2.2.1.o HV1.out.2.2.1.no o true (decide_eq_true ho)
      rw [hso] at HCV2
      have c0V1 : V1.cell? ⟨b, 0, none⟩ = some (.slice ua nu uc) := HV1.out.2.1.cell rfl
      have c1V1 : V1.cell? ⟨b, 1, none⟩ = some (.slice oa no oc) := HV1.out.2.1.cell rfl
      have c2V1 : V1.cell? ⟨b, 2, none⟩ = some (.slice a m c) := HV1.out.2.1.cell rfl
      go_wp2_with fail
      refine HCV2.mono ?_
      rintro e V2 ⟨rfl, hbV2⟩
      have HV2 : Hid (Below w.heap.size w V2 ∧ Blk V2 b 30 [.slice ua nu uc, .slice oa no oc, .slice a m c] ∧ RPt V2 (.slice ua nu uc) (.slice oa no oc) (.slice a m c) R ∧ Blk V2 (b + 1) 30 [.slice none 0 0, .slice none 0 0, .slice none 0 0]) := ⟨below_tr HV1.out.1 hbV2, HV1.out.2.1.below hbV2 HV1.out.2.1.lt, HV1.out.2.2.1.below hbV2, HV1.out.2.2.2.below hbV2 HV1.out.2.2.2.lt⟩
      clear c0V1 c1V1 c2V1
      clear HCV2
      have HF : Hid (q = (R, 110)) := by show _ = _; rw [← HQ.out]; unfold rAddO; rw [if_neg (by rw [h1]; simp), if_pos ho]
      clear h1 ho
      go_wp2_with (with_reducible change wpList _ _ _ ({ dst := some 16, op := _, type := _, pos := _, after := _, guard := _ } :: _) _ _; refine Hid.out ?_)
      show wpList _ _ _ _ _ _
      refine wpList_load_row rfl 30 (.tmp 3) rfl b rfl 30 #[.slice ua nu uc, .slice oa no oc, .slice a m c] (0, 0) _ HV2.out.2.1 Try.underlying30 rfl size30 ?_
      simp only [Act.put, List.setIfInBounds_toArray, List.set_cons_zero, List.set_cons_succ]
      go_wp2_with (with_reducible change wpList _ _ _ ({ dst := none, op := Op.store 30 _ _, type := _, pos := _, after := _, guard := _ } :: _) _ _; refine Hid.out ?_)
      show wpList _ _ _ _ _ _
      refine wpList_store_blk rfl 30 (.tmp 6) (.tmp 16) rfl (b + 1) 0 30 [.slice none 0 0, .slice none 0 0, .slice none 0 0] [.slice ua nu uc, .slice oa no oc, .slice a m c] rfl rfl HV2.out.2.2.2 (by simp) size30 (three HV2.out.2.2.1) ?_
      intro Ve hbe hge
      have HE : Hid (Blk Ve (b + 1) 30 [.slice ua nu uc, .slice oa no oc, .slice a m c] ∧ RPt Ve (.slice ua nu uc) (.slice oa no oc) (.slice a m c) R ∧ Below w.heap.size w Ve) := by
        have hn := HN.out.2.2.2.2
        have hbw : Below w.heap.size w Ve := HV2.out.1.grown hge.out HV2.out.1.size (fun j hj => by cases hj; omega)
        exact ⟨by simpa using hbe.out, rp_other HV2.out.2.2.1 HV2.out.2.2.2 hge.out, hbw⟩
      clear hbe hge
      go_wp2_with fail
      refine rret30u rfl rfl rfl rfl HE.out.1 ?_
      exact ⟨_, _, _, by rw [HF.out]; rfl, by rw [HF.out]; exact HE.out.2⟩
    · have HCV2 := rhas_b HV1.out.2.2.1.o HV1.out.2.2.1.no o false (decide_eq_false ho)
      rw [hso] at HCV2
      have c0V1 : V1.cell? ⟨b, 0, none⟩ = some (.slice ua nu uc) := HV1.out.2.1.cell rfl
      have c1V1 : V1.cell? ⟨b, 1, none⟩ = some (.slice oa no oc) := HV1.out.2.1.cell rfl
      have c2V1 : V1.cell? ⟨b, 2, none⟩ = some (.slice a m c) := HV1.out.2.1.cell rfl
      go_wp2_with fail
      refine HCV2.mono ?_
      rintro e V2 ⟨rfl, hbV2⟩
      have HV2 : Hid (Below w.heap.size w V2 ∧ Blk V2 b 30 [.slice ua nu uc, .slice oa no oc, .slice a m c] ∧ RPt V2 (.slice ua nu uc) (.slice oa no oc) (.slice a m c) R ∧ Blk V2 (b + 1) 30 [.slice none 0 0, .slice none 0 0, .slice none 0 0]) := ⟨below_tr HV1.out.1 hbV2, HV1.out.2.1.below hbV2 HV1.out.2.1.lt, HV1.out.2.2.1.below hbV2, HV1.out.2.2.2.below hbV2 HV1.out.2.2.2.lt⟩
      clear c0V1 c1V1 c2V1
      clear HCV2
      by_cases hm : u ∈ R.U
      · have HCV3 := rhas_b HV2.out.2.2.1.u HV2.out.2.2.1.nu u true (decide_eq_true hm)
        rw [hsu] at HCV3
        have c0V2 : V2.cell? ⟨b, 0, none⟩ = some (.slice ua nu uc) := HV2.out.2.1.cell rfl
        have c1V2 : V2.cell? ⟨b, 1, none⟩ = some (.slice oa no oc) := HV2.out.2.1.cell rfl
        have c2V2 : V2.cell? ⟨b, 2, none⟩ = some (.slice a m c) := HV2.out.2.1.cell rfl
        go_wp2_with fail
        refine HCV3.mono ?_
        rintro e V3 ⟨rfl, hbV3⟩
        have HV3 : Hid (Below w.heap.size w V3 ∧ Blk V3 b 30 [.slice ua nu uc, .slice oa no oc, .slice a m c] ∧ RPt V3 (.slice ua nu uc) (.slice oa no oc) (.slice a m c) R ∧ Blk V3 (b + 1) 30 [.slice none 0 0, .slice none 0 0, .slice none 0 0]) := ⟨below_tr HV2.out.1 hbV3, HV2.out.2.1.below hbV3 HV2.out.2.1.lt, HV2.out.2.2.1.below hbV3, HV2.out.2.2.2.below hbV3 HV2.out.2.2.2.lt⟩
        clear c0V2 c1V2 c2V2
        clear HCV3
        by_cases h8 : 8 ≤ no
        · have q1 : (8 : Int) ≤ (no : Int) := by omega
          have HF : Hid (q = (R, 3)) := by show _ = _; rw [← HQ.out]; unfold rAddO; rw [if_neg (by rw [h1]; simp), if_neg ho, if_neg (fun h => h hm), if_pos (by rw [HN.out.2.2.1]; exact h8)]
          clear hm h1 ho h8
          have c0V3 : V3.cell? ⟨b, 0, none⟩ = some (.slice ua nu uc) := HV3.out.2.1.cell rfl
          have c1V3 : V3.cell? ⟨b, 1, none⟩ = some (.slice oa no oc) := HV3.out.2.1.cell rfl
          have c2V3 : V3.cell? ⟨b, 2, none⟩ = some (.slice a m c) := HV3.out.2.1.cell rfl
          go_wp2_with (with_reducible change wpList _ _ _ ({ dst := some 27, op := _, type := _, pos := _, after := _, guard := _ } :: _) _ _; refine Hid.out ?_)
          show wpList _ _ _ _ _ _
          refine wpList_load_row rfl 30 (.tmp 3) rfl b rfl 30 #[.slice ua nu uc, .slice oa no oc, .slice a m c] (0, 0) _ HV3.out.2.1 Try.underlying30 rfl size30 ?_
          simp only [Act.put, List.setIfInBounds_toArray, List.set_cons_zero, List.set_cons_succ]
          go_wp2_with (with_reducible change wpList _ _ _ ({ dst := none, op := Op.store 30 _ _, type := _, pos := _, after := _, guard := _ } :: _) _ _; refine Hid.out ?_)
          show wpList _ _ _ _ _ _
          refine wpList_store_blk rfl 30 (.tmp 6) (.tmp 27) rfl (b + 1) 0 30 [.slice none 0 0, .slice none 0 0, .slice none 0 0] [.slice ua nu uc, .slice oa no oc, .slice a m c] rfl rfl HV3.out.2.2.2 (by simp) size30 (three HV3.out.2.2.1) ?_
          intro Ve hbe hge
          have HE : Hid (Blk Ve (b + 1) 30 [.slice ua nu uc, .slice oa no oc, .slice a m c] ∧ RPt Ve (.slice ua nu uc) (.slice oa no oc) (.slice a m c) R ∧ Below w.heap.size w Ve) := by
            have hn := HN.out.2.2.2.2
            have hbw : Below w.heap.size w Ve := HV3.out.1.grown hge.out HV3.out.1.size (fun j hj => by cases hj; omega)
            exact ⟨by simpa using hbe.out, rp_other HV3.out.2.2.1 HV3.out.2.2.2 hge.out, hbw⟩
          clear hbe hge
          go_wp2_with fail
          refine rret30u rfl rfl rfl rfl HE.out.1 ?_
          exact ⟨_, _, _, by rw [HF.out]; rfl, by rw [HF.out]; exact HE.out.2⟩
        · have q1 : (no : Int) < 8 := by omega
          have HF : Hid (q = ({ R with O := withL o R.O, F := R.F ++ [⟨o, [], u, 2⟩] }, 0)) := by show _ = _; rw [← HQ.out]; unfold rAddO; rw [if_neg (by rw [h1]; simp), if_neg ho, if_neg (fun h => h hm), if_neg (by rw [HN.out.2.2.1]; exact h8)]
          have HL : Hid ((withL o R.O).length ≤ 1000) := by
            have h2 := withL_len o R.O
            have h3 := HN.out.2.2.1
            show _ ≤ _
            omega
          clear hm h1 h8 ho
          have HC := rWith_is HV3.out.2.2.1.o HV3.out.2.2.1.no o
          rw [hso] at HC
          have c0V3 : V3.cell? ⟨b, 0, none⟩ = some (.slice ua nu uc) := HV3.out.2.1.cell rfl
          have c1V3 : V3.cell? ⟨b, 1, none⟩ = some (.slice oa no oc) := HV3.out.2.1.cell rfl
          have c2V3 : V3.cell? ⟨b, 2, none⟩ = some (.slice a m c) := HV3.out.2.1.cell rfl
          go_wp2_with fail
          refine HC.mono ?_
          rintro e V4 ⟨v3, rfl, hs3, hb3⟩
          obtain ⟨ln, hln⟩ : ∃ n, (withL o R.O).length = n := ⟨_, rfl⟩
          rw [hln] at hs3
          have hs3' := hs3
          obtain ⟨la, lc, hv3, _⟩ := hs3
          subst hv3
          have HV4 : Hid (Below w.heap.size w V4 ∧ Blk V4 b 30 [.slice ua nu uc, .slice oa no oc, .slice a m c] ∧ RPt V4 (.slice ua nu uc) (.slice oa no oc) (.slice a m c) R ∧ Blk V4 (b + 1) 30 [.slice none 0 0, .slice none 0 0, .slice none 0 0]) := ⟨below_tr HV3.out.1 hb3, HV3.out.2.1.below hb3 HV3.out.2.1.lt, HV3.out.2.2.1.below hb3, HV3.out.2.2.2.below hb3 HV3.out.2.2.2.lt⟩
          clear c0V3 c1V3 c2V3
          clear HC
          go_wp2_with (with_reducible change wpList _ _ _ ({ dst := none, op := Op.store 27 _ _, type := _, pos := _, after := _, guard := _ } :: _) _ _; refine Hid.out ?_)
          show wpList _ _ _ _ _ _
          refine wpList_st1 rfl 27 (.tmp 32) (.tmp 31) rfl b 1 (.slice la ln lc) 30 [.slice ua nu uc, .slice oa no oc, .slice a m c] rfl rfl HV4.out.2.1 (by simp) size27 rfl rfl ?_
          intro V5 hb4 hg4
          have HV5 : Hid (Below w.heap.size w V5 ∧ Blk V5 b 30 [.slice ua nu uc, .slice la ln lc, .slice a m c] ∧ RPt V5 (.slice ua nu uc) (.slice la ln lc) (.slice a m c) { R with O := withL o R.O } ∧ Blk V5 (b + 1) 30 [.slice none 0 0, .slice none 0 0, .slice none 0 0]) := by
            have hn := HN.out.2.2.2.2
            refine ⟨HV4.out.1.grown hg4.out HV4.out.1.size (fun j hj => by cases hj; omega), by simpa using hb4.out, ?_, HV4.out.2.2.2.kept hg4.out (by simp)⟩
            refine rp_other (V := V4) ⟨HV4.out.2.2.1.u, by rw [show ({ R with O := withL o R.O } : Rp).O.length = ln from hln]; exact hs3', HV4.out.2.2.1.f, HV4.out.2.2.1.nu, HL.out, HV4.out.2.2.1.nf⟩ HV4.out.2.1 hg4.out
          clear hs3' hb3 hb4 hg4 hln
          simp only [Act.put, List.setIfInBounds_toArray, List.set_cons_zero, List.set_cons_succ]
          go_wp2_with (with_reducible change wpList _ _ _ ({ dst := some 33, op := _, type := _, pos := _, after := _, guard := _ } :: _) _ _; refine Hid.out ?_)
          show wpList _ _ _ _ _ _
          refine wpList_load_row rfl 30 (.tmp 3) rfl b rfl 30 #[.slice ua nu uc, .slice la ln lc, .slice a m c] (0, 0) _ HV5.out.2.1 Try.underlying30 rfl size30 ?_
          simp only [Act.put, List.setIfInBounds_toArray, List.set_cons_zero, List.set_cons_succ]
          have HC := rwith_is HV5.out.2.2.1 ⟨o, [], u, 2⟩ (by show R.F.length + 1 ≤ _; have := HN.out; omega)
          have HC2 : Calls Try.prog 62 #[.agg #[.slice ua nu uc, .slice la ln lc, .slice a m c], .agg #[hv o, hv [], hv u, iv 2]] V5 _ := HC
          rw [hso, show hv [] = .string ⟨#[]⟩ from rfl, hsu] at HC2
          clear HC
          go_wp2_with fail
          refine HC2.mono ?_
          rintro e V6 ⟨fv2, rfl, hr2, hbf⟩
          have HV6 : Hid (Below w.heap.size w V6 ∧ True ∧ RPt V6 (.slice ua nu uc) (.slice la ln lc) fv2 { R with O := withL o R.O, F := R.F ++ [⟨o, [], u, 2⟩] } ∧ Blk V6 (b + 1) 30 [.slice none 0 0, .slice none 0 0, .slice none 0 0]) := ⟨below_tr HV5.out.1 hbf, trivial, hr2, HV5.out.2.2.2.below hbf HV5.out.2.2.2.lt⟩
          clear HC2 hr2 hbf
          go_wp2_with (with_reducible change wpList _ _ _ ({ dst := none, op := Op.store 30 _ _, type := _, pos := _, after := _, guard := _ } :: _) _ _; refine Hid.out ?_)
          show wpList _ _ _ _ _ _
          refine wpList_store_blk rfl 30 (.tmp 6) (.tmp 37) rfl (b + 1) 0 30 [.slice none 0 0, .slice none 0 0, .slice none 0 0] [.slice ua nu uc, .slice la ln lc, fv2] rfl rfl HV6.out.2.2.2 (by simp) size30 (three HV6.out.2.2.1) ?_
          intro Ve hbe hge
          have HE : Hid (Blk Ve (b + 1) 30 [.slice ua nu uc, .slice la ln lc, fv2] ∧ RPt Ve (.slice ua nu uc) (.slice la ln lc) (fv2) { R with O := withL o R.O, F := R.F ++ [⟨o, [], u, 2⟩] } ∧ Below w.heap.size w Ve) := by
            have hn := HN.out.2.2.2.2
            have hbw : Below w.heap.size w Ve := HV6.out.1.grown hge.out HV6.out.1.size (fun j hj => by cases hj; omega)
            exact ⟨by simpa using hbe.out, rp_other HV6.out.2.2.1 HV6.out.2.2.2 hge.out, hbw⟩
          clear hbe hge
          go_wp2_with fail
          refine rret30u rfl rfl rfl rfl HE.out.1 ?_
          exact ⟨_, _, _, by rw [HF.out]; rfl, by rw [HF.out]; exact HE.out.2⟩
      · have HCV3 := rhas_b HV2.out.2.2.1.u HV2.out.2.2.1.nu u false (decide_eq_false hm)
        rw [hsu] at HCV3
        have c0V2 : V2.cell? ⟨b, 0, none⟩ = some (.slice ua nu uc) := HV2.out.2.1.cell rfl
        have c1V2 : V2.cell? ⟨b, 1, none⟩ = some (.slice oa no oc) := HV2.out.2.1.cell rfl
        have c2V2 : V2.cell? ⟨b, 2, none⟩ = some (.slice a m c) := HV2.out.2.1.cell rfl
        go_wp2_with fail
        refine HCV3.mono ?_
        rintro e V3 ⟨rfl, hbV3⟩
        have HV3 : Hid (Below w.heap.size w V3 ∧ Blk V3 b 30 [.slice ua nu uc, .slice oa no oc, .slice a m c] ∧ RPt V3 (.slice ua nu uc) (.slice oa no oc) (.slice a m c) R ∧ Blk V3 (b + 1) 30 [.slice none 0 0, .slice none 0 0, .slice none 0 0]) := ⟨below_tr HV2.out.1 hbV3, HV2.out.2.1.below hbV3 HV2.out.2.1.lt, HV2.out.2.2.1.below hbV3, HV2.out.2.2.2.below hbV3 HV2.out.2.2.2.lt⟩
        clear c0V2 c1V2 c2V2
        clear HCV3
        have HF : Hid (q = (R, 111)) := by show _ = _; rw [← HQ.out]; unfold rAddO; rw [if_neg (by rw [h1]; simp), if_neg ho, if_pos hm]
        clear hm h1 ho
        go_wp2_with (with_reducible change wpList _ _ _ ({ dst := some 22, op := _, type := _, pos := _, after := _, guard := _ } :: _) _ _; refine Hid.out ?_)
        show wpList _ _ _ _ _ _
        refine wpList_load_row rfl 30 (.tmp 3) rfl b rfl 30 #[.slice ua nu uc, .slice oa no oc, .slice a m c] (0, 0) _ HV3.out.2.1 Try.underlying30 rfl size30 ?_
        simp only [Act.put, List.setIfInBounds_toArray, List.set_cons_zero, List.set_cons_succ]
        go_wp2_with (with_reducible change wpList _ _ _ ({ dst := none, op := Op.store 30 _ _, type := _, pos := _, after := _, guard := _ } :: _) _ _; refine Hid.out ?_)
        show wpList _ _ _ _ _ _
        refine wpList_store_blk rfl 30 (.tmp 6) (.tmp 22) rfl (b + 1) 0 30 [.slice none 0 0, .slice none 0 0, .slice none 0 0] [.slice ua nu uc, .slice oa no oc, .slice a m c] rfl rfl HV3.out.2.2.2 (by simp) size30 (three HV3.out.2.2.1) ?_
        intro Ve hbe hge
        have HE : Hid (Blk Ve (b + 1) 30 [.slice ua nu uc, .slice oa no oc, .slice a m c] ∧ RPt Ve (.slice ua nu uc) (.slice oa no oc) (.slice a m c) R ∧ Below w.heap.size w Ve) := by
          have hn := HN.out.2.2.2.2
          have hbw : Below w.heap.size w Ve := HV3.out.1.grown hge.out HV3.out.1.size (fun j hj => by cases hj; omega)
          exact ⟨by simpa using hbe.out, rp_other HV3.out.2.2.1 HV3.out.2.2.2 hge.out, hbw⟩
        clear hbe hge
        go_wp2_with fail
        refine rret30u rfl rfl rfl rfl HE.out.1 ?_
        exact ⟨_, _, _, by rw [HF.out]; rfl, by rw [HF.out]; exact HE.out.2⟩
  · have h2 : isName o = false := by simpa using h1
    have HCV1 := rname_is o ho0 A
    rw [hso, h2] at HCV1
    have c0A : A.cell? ⟨b, 0, none⟩ = some (.slice ua nu uc) := HA.out.2.1.cell rfl
    have c1A : A.cell? ⟨b, 1, none⟩ = some (.slice oa no oc) := HA.out.2.1.cell rfl
    have c2A : A.cell? ⟨b, 2, none⟩ = some (.slice a m c) := HA.out.2.1.cell rfl
    go_wp2_with fail
    refine HCV1.mono ?_
    rintro e V1 ⟨rfl, hbV1⟩
    have HV1 : Hid (Below w.heap.size w V1 ∧ Blk V1 b 30 [.slice ua nu uc, .slice oa no oc, .slice a m c] ∧ RPt V1 (.slice ua nu uc) (.slice oa no oc) (.slice a m c) R ∧ Blk V1 (b + 1) 30 [.slice none 0 0, .slice none 0 0, .slice none 0 0]) := ⟨below_tr HA.out.1 hbV1, HA.out.2.1.below hbV1 HA.out.2.1.lt, HA.out.2.2.1.below hbV1, HA.out.2.2.2.below hbV1 HA.out.2.2.2.lt⟩
    clear hA hb
    clear c0A c1A c2A
    clear HCV1
    have HF : Hid (q = (R, 150)) := by show _ = _; rw [← HQ.out]; unfold rAddO; rw [if_pos h2]
    clear h1 h2
    go_wp2_with (with_reducible change wpList _ _ _ ({ dst := some 11, op := _, type := _, pos := _, after := _, guard := _ } :: _) _ _; refine Hid.out ?_)
    show wpList _ _ _ _ _ _
    refine wpList_load_row rfl 30 (.tmp 3) rfl b rfl 30 #[.slice ua nu uc, .slice oa no oc, .slice a m c] (0, 0) _ HV1.out.2.1 Try.underlying30 rfl size30 ?_
    simp only [Act.put, List.setIfInBounds_toArray, List.set_cons_zero, List.set_cons_succ]
    go_wp2_with (with_reducible change wpList _ _ _ ({ dst := none, op := Op.store 30 _ _, type := _, pos := _, after := _, guard := _ } :: _) _ _; refine Hid.out ?_)
    show wpList _ _ _ _ _ _
    refine wpList_store_blk rfl 30 (.tmp 6) (.tmp 11) rfl (b + 1) 0 30 [.slice none 0 0, .slice none 0 0, .slice none 0 0] [.slice ua nu uc, .slice oa no oc, .slice a m c] rfl rfl HV1.out.2.2.2 (by simp) size30 (three HV1.out.2.2.1) ?_
    intro Ve hbe hge
    have HE : Hid (Blk Ve (b + 1) 30 [.slice ua nu uc, .slice oa no oc, .slice a m c] ∧ RPt Ve (.slice ua nu uc) (.slice oa no oc) (.slice a m c) R ∧ Below w.heap.size w Ve) := by
      have hn := HN.out.2.2.2.2
      have hbw : Below w.heap.size w Ve := HV1.out.1.grown hge.out HV1.out.1.size (fun j hj => by cases hj; omega)
      exact ⟨by simpa using hbe.out, rp_other HV1.out.2.2.1 HV1.out.2.2.2 hge.out, hbw⟩
    clear hbe hge
    go_wp2_with fail
    refine rret30u rfl rfl rfl rfl HE.out.1 ?_
    exact ⟨_, _, _, by rw [HF.out]; rfl, by rw [HF.out]; exact HE.out.2⟩
#print axioms raddO_is
set_option maxRecDepth 100000 in
set_option maxHeartbeats 4000000 in
theorem rout_is {w : World} {uv ov fv : Value} {R : Rp} (h : RPt w uv ov fv R) (hF : R.F.length ≤ 990) (o : Hs) (t : Hs) (u : Hs) : Calls Try.prog 37 #[.agg #[uv, ov, fv], hv o, hv t, hv u] w (Ro w (rOut R o t u)) := by
  obtain ⟨m, hm⟩ : ∃ m, R.F.length = m := ⟨_, rfl⟩
  obtain ⟨nu, hnu⟩ : ∃ m, R.U.length = m := ⟨_, rfl⟩
  obtain ⟨no, hno⟩ : ∃ m, R.O.length = m := ⟨_, rfl⟩
  obtain ⟨ua, uc, rfl, _⟩ := h.u
  obtain ⟨oa, oc, rfl, _⟩ := h.o
  obtain ⟨a, c, rfl, _⟩ := h.f
  rw [hm, hnu, hno] at h ⊢
  obtain ⟨so, hso, hlo, hqo⟩ := bs_is o
  obtain ⟨st, hst, hlt, hqt⟩ := bs_is t
  obtain ⟨su, hsu, hlu, hqu⟩ := bs_is u
  have HS : Hid (so.toList = o ∧ hv o = .string so ∧ st.toList = t ∧ hv t = .string st ∧ su.toList = u ∧ hv u = .string su ∧ True) := ⟨hlo, hso, hlt, hst, hlu, hsu, trivial⟩
  have hz30 := zero30
  obtain ⟨b, hb⟩ : ∃ b, w.heap.size = b := ⟨_, rfl⟩
  obtain ⟨A, hA⟩ : ∃ A, (w.alloc (.cells #[.slice ua nu uc, .slice oa no oc, .slice a m c] 30)).alloc (.cells #[.slice none 0 0, .slice none 0 0, .slice none 0 0] 30) = A := ⟨_, rfl⟩
  have hB : Below w.heap.size w A := by rw [← hA]; exact ((Below.refl _ w).alloc (Nat.le_refl _) _).alloc (by simp) _
  have h2 : Blk A b 30 [.slice ua nu uc, .slice oa no oc, .slice a m c] := by rw [← hA, ← hb]; exact (Blk.new w _ _).alloc _
  have h4 : Blk A (b + 1) 30 [.slice none 0 0, .slice none 0 0, .slice none 0 0] := by
    rw [← hA, ← hb]
    have := Blk.new (w.alloc (.cells #[.slice ua nu uc, .slice oa no oc, .slice a m c] 30)) #[.slice none 0 0, .slice none 0 0, .slice none 0 0] 30
    rwa [World.size_alloc] at this
  have HA0 : Hid (RPt w (.slice ua nu uc) (.slice oa no oc) (.slice a m c) R) := h
  have HA : Hid (Below w.heap.size w A ∧ Blk A b 30 [.slice ua nu uc, .slice oa no oc, .slice a m c] ∧ RPt A (.slice ua nu uc) (.slice oa no oc) (.slice a m c) R ∧ Blk A (b + 1) 30 [.slice none 0 0, .slice none 0 0, .slice none 0 0]) := ⟨hB, h2, h.below hB, h4⟩
  have HN : Hid (R.F.length = m ∧ R.U.length = nu ∧ R.O.length = no ∧ m ≤ 990 ∧ w.heap.size = b) := ⟨hm, hnu, hno, by omega, hb⟩
  have qu : (nu : Int) ≤ 1000 := by have := h.nu; omega
  have qo : (no : Int) ≤ 1000 := by have := h.no; omega
  have qm : (m : Int) ≤ 990 := by omega
  rw [hso, hst, hsu]
  clear h hF hm hnu hno hB h2 h4 hlo hqo hlt hqt hlu hqu
  go_enter Try.func37, Try.ntmps37
  obtain ⟨q, hq⟩ : ∃ q, rOut R o t u = q := ⟨_, rfl⟩
  have HQ : Hid (rOut R o t u = q) := hq
  rw [hq]
  clear hq
  obtain ⟨k, hk⟩ : ∃ k, fct R.F o t u = k := ⟨_, rfl⟩
  have HK : Hid (fct R.F o t u = k) := hk
  have HC := rfact_is HA.out.2.2.1 o t u
  rw [hso, hst, hsu, hk] at HC
  go_wp2_with (with_reducible change wpList _ _ _ ({ dst := some 11, op := _, type := _, pos := _, after := _, guard := _ } :: _) _ _; refine Hid.out ?_)
  show wpList _ _ _ _ _ _
  refine wpList_load_row rfl 30 (.tmp 4) rfl b rfl 30 #[.slice ua nu uc, .slice oa no oc, .slice a m c] (0, 0) _ HA.out.2.1 Try.underlying30 rfl size30 ?_
  simp only [Act.put, List.setIfInBounds_toArray, List.set_cons_zero, List.set_cons_succ]
  go_wp2_with fail
  refine HC.mono ?_
  rintro e V1 ⟨rfl, hb1⟩
  have HV1 : Hid (Below w.heap.size w V1 ∧ Blk V1 b 30 [.slice ua nu uc, .slice oa no oc, .slice a m c] ∧ RPt V1 (.slice ua nu uc) (.slice oa no oc) (.slice a m c) R ∧ Blk V1 (b + 1) 30 [.slice none 0 0, .slice none 0 0, .slice none 0 0]) := ⟨below_tr HA.out.1 hb1, HA.out.2.1.below hb1 HA.out.2.1.lt, HA.out.2.2.1.below hb1, HA.out.2.2.2.below hb1 HA.out.2.2.2.lt⟩
  clear HC hb1 hk hA hb
  by_cases ht : t = []
  · have e1 := empty_yes HS.out.2.2.1 ht
    have HF : Hid (q = (R, 111)) := by show _ = _; rw [← HQ.out]; unfold rOut; rw [if_pos ht]
    clear ht
    go_wp2_with (with_reducible change wpList _ _ _ ({ dst := some 26, op := _, type := _, pos := _, after := _, guard := _ } :: _) _ _; refine Hid.out ?_)
    show wpList _ _ _ _ _ _
    refine wpList_load_row rfl 30 (.tmp 4) rfl b rfl 30 #[.slice ua nu uc, .slice oa no oc, .slice a m c] (0, 0) _ HV1.out.2.1 Try.underlying30 rfl size30 ?_
    simp only [Act.put, List.setIfInBounds_toArray, List.set_cons_zero, List.set_cons_succ]
    go_wp2_with (with_reducible change wpList _ _ _ ({ dst := none, op := Op.store 30 _ _, type := _, pos := _, after := _, guard := _ } :: _) _ _; refine Hid.out ?_)
    show wpList _ _ _ _ _ _
    refine wpList_store_blk rfl 30 (.tmp 8) (.tmp 26) rfl (b + 1) 0 30 [.slice none 0 0, .slice none 0 0, .slice none 0 0] [.slice ua nu uc, .slice oa no oc, .slice a m c] rfl rfl HV1.out.2.2.2 (by simp) size30 (three HV1.out.2.2.1) ?_
    intro Ve hbe hge
    have HE : Hid (Blk Ve (b + 1) 30 [.slice ua nu uc, .slice oa no oc, .slice a m c] ∧ RPt Ve (.slice ua nu uc) (.slice oa no oc) (.slice a m c) R ∧ Below w.heap.size w Ve) := by
      have hn := HN.out.2.2.2.2
      have hbw : Below w.heap.size w Ve := HV1.out.1.grown hge.out HV1.out.1.size (fun j hj => by cases hj; omega)
      exact ⟨by simpa using hbe.out, rp_other HV1.out.2.2.1 HV1.out.2.2.2 hge.out, hbw⟩
    clear hbe hge
    go_wp2_with fail
    refine rret30u rfl rfl rfl rfl HE.out.1 ?_
    exact ⟨_, _, _, by rw [HF.out]; rfl, by rw [HF.out]; exact HE.out.2⟩
  · have e1 := empty_no HS.out.2.2.1 ht
    by_cases hu : u = []
    · have e2 := empty_yes HS.out.2.2.2.2.1 hu
      have HF : Hid (q = (R, 111)) := by show _ = _; rw [← HQ.out]; unfold rOut; rw [if_neg ht, if_pos hu]
      clear ht hu
      go_wp2_with (with_reducible change wpList _ _ _ ({ dst := some 26, op := _, type := _, pos := _, after := _, guard := _ } :: _) _ _; refine Hid.out ?_)
      show wpList _ _ _ _ _ _
      refine wpList_load_row rfl 30 (.tmp 4) rfl b rfl 30 #[.slice ua nu uc, .slice oa no oc, .slice a m c] (0, 0) _ HV1.out.2.1 Try.underlying30 rfl size30 ?_
      simp only [Act.put, List.setIfInBounds_toArray, List.set_cons_zero, List.set_cons_succ]
      go_wp2_with (with_reducible change wpList _ _ _ ({ dst := none, op := Op.store 30 _ _, type := _, pos := _, after := _, guard := _ } :: _) _ _; refine Hid.out ?_)
      show wpList _ _ _ _ _ _
      refine wpList_store_blk rfl 30 (.tmp 8) (.tmp 26) rfl (b + 1) 0 30 [.slice none 0 0, .slice none 0 0, .slice none 0 0] [.slice ua nu uc, .slice oa no oc, .slice a m c] rfl rfl HV1.out.2.2.2 (by simp) size30 (three HV1.out.2.2.1) ?_
      intro Ve hbe hge
      have HE : Hid (Blk Ve (b + 1) 30 [.slice ua nu uc, .slice oa no oc, .slice a m c] ∧ RPt Ve (.slice ua nu uc) (.slice oa no oc) (.slice a m c) R ∧ Below w.heap.size w Ve) := by
        have hn := HN.out.2.2.2.2
        have hbw : Below w.heap.size w Ve := HV1.out.1.grown hge.out HV1.out.1.size (fun j hj => by cases hj; omega)
        exact ⟨by simpa using hbe.out, rp_other HV1.out.2.2.1 HV1.out.2.2.2 hge.out, hbw⟩
      clear hbe hge
      go_wp2_with fail
      refine rret30u rfl rfl rfl rfl HE.out.1 ?_
      exact ⟨_, _, _, by rw [HF.out]; rfl, by rw [HF.out]; exact HE.out.2⟩
    · have e2 := empty_no HS.out.2.2.2.2.1 hu
      by_cases h0 : k < 0
      · have HF : Hid (q = (R, 111)) := by show _ = _; rw [← HQ.out]; unfold rOut; rw [if_neg ht, if_neg hu, if_pos (by rw [HK.out]; exact h0)]
        clear ht hu
        go_wp2_with (with_reducible change wpList _ _ _ ({ dst := some 26, op := _, type := _, pos := _, after := _, guard := _ } :: _) _ _; refine Hid.out ?_)
        show wpList _ _ _ _ _ _
        refine wpList_load_row rfl 30 (.tmp 4) rfl b rfl 30 #[.slice ua nu uc, .slice oa no oc, .slice a m c] (0, 0) _ HV1.out.2.1 Try.underlying30 rfl size30 ?_
        simp only [Act.put, List.setIfInBounds_toArray, List.set_cons_zero, List.set_cons_succ]
        go_wp2_with (with_reducible change wpList _ _ _ ({ dst := none, op := Op.store 30 _ _, type := _, pos := _, after := _, guard := _ } :: _) _ _; refine Hid.out ?_)
        show wpList _ _ _ _ _ _
        refine wpList_store_blk rfl 30 (.tmp 8) (.tmp 26) rfl (b + 1) 0 30 [.slice none 0 0, .slice none 0 0, .slice none 0 0] [.slice ua nu uc, .slice oa no oc, .slice a m c] rfl rfl HV1.out.2.2.2 (by simp) size30 (three HV1.out.2.2.1) ?_
        intro Ve hbe hge
        have HE : Hid (Blk Ve (b + 1) 30 [.slice ua nu uc, .slice oa no oc, .slice a m c] ∧ RPt Ve (.slice ua nu uc) (.slice oa no oc) (.slice a m c) R ∧ Below w.heap.size w Ve) := by
          have hn := HN.out.2.2.2.2
          have hbw : Below w.heap.size w Ve := HV1.out.1.grown hge.out HV1.out.1.size (fun j hj => by cases hj; omega)
          exact ⟨by simpa using hbe.out, rp_other HV1.out.2.2.1 HV1.out.2.2.2 hge.out, hbw⟩
        clear hbe hge
        go_wp2_with fail
        refine rret30u rfl rfl rfl rfl HE.out.1 ?_
        exact ⟨_, _, _, by rw [HF.out]; rfl, by rw [HF.out]; exact HE.out.2⟩
      · have HF0 : Hid (∃ (j : Nat) (f : Fc), k = j ∧ R.F[j]? = some f) := by
          rcases fct_cases R.F o t u with ⟨h5, _⟩ | ⟨j, f, h5, h6, _⟩
          · rw [HK.out] at h5; omega
          · exact ⟨j, f, by rw [← HK.out]; exact h5, h6⟩
        obtain ⟨j, f, rfl, hj⟩ := HF0.out
        have HF : Hid (q = ({ R with F := R.F.eraseIdx j }, 0)) := by show _ = _; rw [← HQ.out]; unfold rOut; rw [if_neg ht, if_neg hu, if_neg (by rw [HK.out]; exact h0), HK.out]; rfl
        have HC := rwithout_is HV1.out.2.2.1 hj
        clear ht hu HF0 hj HK
        go_wp2_with (with_reducible change wpList _ _ _ ({ dst := some 27, op := _, type := _, pos := _, after := _, guard := _ } :: _) _ _; refine Hid.out ?_)
        show wpList _ _ _ _ _ _
        refine wpList_load_row rfl 30 (.tmp 4) rfl b rfl 30 #[.slice ua nu uc, .slice oa no oc, .slice a m c] (0, 0) _ HV1.out.2.1 Try.underlying30 rfl size30 ?_
        simp only [Act.put, List.setIfInBounds_toArray, List.set_cons_zero, List.set_cons_succ]
        go_wp2_with fail
        refine HC.mono ?_
        rintro e V2 ⟨fv2, rfl, hr2, hbf⟩
        have HV2 : Hid (Below w.heap.size w V2 ∧ True ∧ RPt V2 (.slice ua nu uc) (.slice oa no oc) fv2 { R with F := R.F.eraseIdx j } ∧ Blk V2 (b + 1) 30 [.slice none 0 0, .slice none 0 0, .slice none 0 0]) := ⟨below_tr HV1.out.1 hbf, trivial, hr2, HV1.out.2.2.2.below hbf HV1.out.2.2.2.lt⟩
        clear HC hr2 hbf
        go_wp2_with (with_reducible change wpList _ _ _ ({ dst := none, op := Op.store 30 _ _, type := _, pos := _, after := _, guard := _ } :: _) _ _; refine Hid.out ?_)
        show wpList _ _ _ _ _ _
        refine wpList_store_blk rfl 30 (.tmp 8) (.tmp 29) rfl (b + 1) 0 30 [.slice none 0 0, .slice none 0 0, .slice none 0 0] [.slice ua nu uc, .slice oa no oc, fv2] rfl rfl HV2.out.2.2.2 (by simp) size30 (three HV2.out.2.2.1) ?_
        intro Ve hbe hge
        have HE : Hid (Blk Ve (b + 1) 30 [.slice ua nu uc, .slice oa no oc, fv2] ∧ RPt Ve (.slice ua nu uc) (.slice oa no oc) (fv2) { R with F := R.F.eraseIdx j } ∧ Below w.heap.size w Ve) := by
          have hn := HN.out.2.2.2.2
          have hbw : Below w.heap.size w Ve := HV2.out.1.grown hge.out HV2.out.1.size (fun j hj => by cases hj; omega)
          exact ⟨by simpa using hbe.out, rp_other HV2.out.2.2.1 HV2.out.2.2.2 hge.out, hbw⟩
        clear hbe hge
        go_wp2_with fail
        refine rret30u rfl rfl rfl rfl HE.out.1 ?_
        exact ⟨_, _, _, by rw [HF.out]; rfl, by rw [HF.out]; exact HE.out.2⟩
#print axioms rout_is
end Go.Proofs.Ytfickhhfhdhcbaa.Oct
