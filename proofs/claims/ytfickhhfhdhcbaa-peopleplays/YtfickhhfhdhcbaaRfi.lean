/-
  Layer 15 (people): the document's people: Join.
-/
import Derived.Test.YtfickhhfhdhcbaaRfh
namespace Go.Proofs.Ytfickhhfhdhcbaa.Oct
open Go.RowKit
set_option linter.unusedSimpArgs false
set_option linter.unusedVariables false

set_option maxRecDepth 100000 in
set_option maxHeartbeats 4000000 in
theorem rjoin_is {w : World} {uv ov fv : Value} {R : Rp} (h : RPt w uv ov fv R) (hF : R.F.length ≤ 990) (o : Hs) (u : Hs) (r : Int) : Calls Try.prog 33 #[.agg #[uv, ov, fv], hv o, hv u, iv r] w (Ro w (rJoin R o u r)) := by
  obtain ⟨m, hm⟩ : ∃ m, R.F.length = m := ⟨_, rfl⟩
  obtain ⟨nu, hnu⟩ : ∃ m, R.U.length = m := ⟨_, rfl⟩
  obtain ⟨no, hno⟩ : ∃ m, R.O.length = m := ⟨_, rfl⟩
  obtain ⟨ua, uc, rfl, _⟩ := h.u
  obtain ⟨oa, oc, rfl, _⟩ := h.o
  obtain ⟨a, c, rfl, _⟩ := h.f
  rw [hm, hnu, hno] at h ⊢
  obtain ⟨so, hso, hlo, hqo⟩ := bs_is o
  obtain ⟨su, hsu, hlu, hqu⟩ := bs_is u
  have HS : Hid (so.toList = o ∧ hv o = .string so ∧ su.toList = u ∧ hv u = .string su ∧ True) := ⟨hlo, hso, hlu, hsu, trivial⟩
  have hz30 := zero30
  obtain ⟨b, hb⟩ : ∃ b, w.heap.size = b := ⟨_, rfl⟩
  obtain ⟨A, hA⟩ : ∃ A, (w.alloc (.cells #[.slice ua nu uc, .slice oa no oc, .slice a m c] 30)).alloc (.cells #[.slice none 0 0, .slice none 0 0, .slice none 0 0] 30) = A := ⟨_, rfl⟩
  have hB : Below w.heap.size w A := by rw [← hA]; exact ((Below.refl _ w).alloc (Nat.le_refl _) _).alloc (by simp) _
  have h2 : Blk A b 30 [.slice ua nu uc, .slice oa no oc, .slice a m c] := by rw [← hA, ← hb]; exact (Blk.new w _ _).alloc _
  have h4 : Blk A (b + 1) 30 [.slice none 0 0, .slice none 0 0, .slice none 0 0] := by
    rw [← hA, ← hb]
    have := Blk.new (w.alloc (.cells #[.slice ua nu uc, .slice oa no oc, .slice a m c] 30)) #[.slice none 0 0, .slice none 0 0, .slice none 0 0] 30
    rwa [World.size_alloc] at this
  have HA0 : Hid (RPt w (.slice ua nu uc) (.slice oa no oc) (.slice a m c) R) := h
  have HA : Hid (Below w.heap.size w A ∧ Blk A b 30 [.slice ua nu uc, .slice oa no oc, .slice a m c] ∧ RPt A (.slice ua nu uc) (.slice oa no oc) (.slice a m c) R ∧ Blk A (b + 1) 30 [.slice none 0 0, .slice none 0 0, .slice none 0 0]) := ⟨hB, h2, h.below hB, h4⟩
  have HN : Hid (R.F.length = m ∧ R.U.length = nu ∧ R.O.length = no ∧ m ≤ 990 ∧ w.heap.size = b) := ⟨hm, hnu, hno, by omega, hb⟩
  have qu : (nu : Int) ≤ 1000 := by have := h.nu; omega
  have qo : (no : Int) ≤ 1000 := by have := h.no; omega
  have qm : (m : Int) ≤ 990 := by omega
  rw [hso, hsu]
  clear h hF hm hnu hno hB h2 h4 hlo hqo hlu hqu
  go_enter Try.func33, Try.ntmps33
  obtain ⟨q, hq⟩ : ∃ q, rJoin R o u r = q := ⟨_, rfl⟩
  have HQ : Hid (rJoin R o u r = q) := hq
  rw [hq]
  clear hq
  by_cases ho : o ∈ R.O
  · have HCV1 := rhas_b HA.out.2.2.1.o HA.out.2.2.1.no o true (decide_eq_true ho)
    rw [hso] at HCV1
    have c0A : A.cell? ⟨b, 0, none⟩ = some (.slice ua nu uc) := HA.out.2.1.cell rfl
    have c1A : A.cell? ⟨b, 1, none⟩ = some (.slice oa no oc) := HA.out.2.1.cell rfl
    have c2A : A.cell? ⟨b, 2, none⟩ = some (.slice a m c) := HA.out.2.1.cell rfl
    go_wp2_with fail
    refine HCV1.mono ?_
    rintro e V1 ⟨rfl, hbV1⟩
    have HV1 : Hid (Below w.heap.size w V1 ∧ Blk V1 b 30 [.slice ua nu uc, .slice oa no oc, .slice a m c] ∧ RPt V1 (.slice ua nu uc) (.slice oa no oc) (.slice a m c) R ∧ Blk V1 (b + 1) 30 [.slice none 0 0, .slice none 0 0, .slice none 0 0]) := ⟨below_tr HA.out.1 hbV1, HA.out.2.1.below hbV1 HA.out.2.1.lt, HA.out.2.2.1.below hbV1, HA.out.2.2.2.below hbV1 HA.out.2.2.2.lt⟩
    clear c0A c1A c2A
    clear HCV1
    clear hA hb
    by_cases hm : u ∈ R.U
    · have HCV2 := rhas_b HV1.out.2.2.1.u HV1.out.2.2.1.nu u true (decide_eq_true hm)
      rw [hsu] at HCV2
      have c0V1 : V1.cell? ⟨b, 0, none⟩ = some (.slice ua nu uc) := HV1.out.2.1.cell rfl
      have c1V1 : V1.cell? ⟨b, 1, none⟩ = some (.slice oa no oc) := HV1.out.2.1.cell rfl
      have c2V1 : V1.cell? ⟨b, 2, none⟩ = some (.slice a m c) := HV1.out.2.1.cell rfl
      go_wp2_with fail
      refine HCV2.mono ?_
      rintro e V2 ⟨rfl, hbV2⟩
      have HV2 : Hid (Below w.heap.size w V2 ∧ Blk V2 b 30 [.slice ua nu uc, .slice oa no oc, .slice a m c] ∧ RPt V2 (.slice ua nu uc) (.slice oa no oc) (.slice a m c) R ∧ Blk V2 (b + 1) 30 [.slice none 0 0, .slice none 0 0, .slice none 0 0]) := ⟨below_tr HV1.out.1 hbV2, HV1.out.2.1.below hbV2 HV1.out.2.1.lt, HV1.out.2.2.1.below hbV2, HV1.out.2.2.2.below hbV2 HV1.out.2.2.2.lt⟩
      clear c0V1 c1V1 c2V1
      clear HCV2
      have c0V2 : V2.cell? ⟨b, 0, none⟩ = some (.slice ua nu uc) := HV2.out.2.1.cell rfl
      have c1V2 : V2.cell? ⟨b, 1, none⟩ = some (.slice oa no oc) := HV2.out.2.1.cell rfl
      have c2V2 : V2.cell? ⟨b, 2, none⟩ = some (.slice a m c) := HV2.out.2.1.cell rfl
      by_cases h1 : r = 1
      · subst h1
        clear c0V2 c1V2 c2V2
        by_cases hl : lastF R.F o u = true
        · have HC := rlast_is HV2.out.2.2.1 (by have := HN.out; omega) o u
          rw [hso, hsu, hl] at HC
          go_wp2_with (with_reducible change wpList _ _ _ ({ dst := some 31, op := _, type := _, pos := _, after := _, guard := _ } :: _) _ _; refine Hid.out ?_)
          show wpList _ _ _ _ _ _
          refine wpList_load_row rfl 30 (.tmp 4) rfl b rfl 30 #[.slice ua nu uc, .slice oa no oc, .slice a m c] (0, 0) _ HV2.out.2.1 Try.underlying30 rfl size30 ?_
          simp only [Act.put, List.setIfInBounds_toArray, List.set_cons_zero, List.set_cons_succ]
          go_wp2_with fail
          refine HC.mono ?_
          rintro e V3 ⟨rfl, hb3⟩
          have HV3 : Hid (Below w.heap.size w V3 ∧ Blk V3 b 30 [.slice ua nu uc, .slice oa no oc, .slice a m c] ∧ RPt V3 (.slice ua nu uc) (.slice oa no oc) (.slice a m c) R ∧ Blk V3 (b + 1) 30 [.slice none 0 0, .slice none 0 0, .slice none 0 0]) := ⟨below_tr HV2.out.1 hb3, HV2.out.2.1.below hb3 HV2.out.2.1.lt, HV2.out.2.2.1.below hb3, HV2.out.2.2.2.below hb3 HV2.out.2.2.2.lt⟩
          clear HC hb3
          have HF : Hid (q = (R, 151)) := by show _ = _; rw [← HQ.out]; unfold rJoin; rw [if_neg (fun h => h ho), if_neg (fun h => h hm), if_neg (fun h => by omega), if_pos ⟨hl, rfl⟩]
          clear hl ho hm
          go_wp2_with (with_reducible change wpList _ _ _ ({ dst := some 39, op := _, type := _, pos := _, after := _, guard := _ } :: _) _ _; refine Hid.out ?_)
          show wpList _ _ _ _ _ _
          refine wpList_load_row rfl 30 (.tmp 4) rfl b rfl 30 #[.slice ua nu uc, .slice oa no oc, .slice a m c] (0, 0) _ HV3.out.2.1 Try.underlying30 rfl size30 ?_
          simp only [Act.put, List.setIfInBounds_toArray, List.set_cons_zero, List.set_cons_succ]
          go_wp2_with (with_reducible change wpList _ _ _ ({ dst := none, op := Op.store 30 _ _, type := _, pos := _, after := _, guard := _ } :: _) _ _; refine Hid.out ?_)
          show wpList _ _ _ _ _ _
          refine wpList_store_blk rfl 30 (.tmp 8) (.tmp 39) rfl (b + 1) 0 30 [.slice none 0 0, .slice none 0 0, .slice none 0 0] [.slice ua nu uc, .slice oa no oc, .slice a m c] rfl rfl HV3.out.2.2.2 (by simp) size30 (three HV3.out.2.2.1) ?_
          intro Ve hbe hge
          have HE : Hid (Blk Ve (b + 1) 30 [.slice ua nu uc, .slice oa no oc, .slice a m c] ∧ RPt Ve (.slice ua nu uc) (.slice oa no oc) (.slice a m c) R ∧ Below w.heap.size w Ve) := by
            have hn := HN.out.2.2.2.2
            have hbw : Below w.heap.size w Ve := HV3.out.1.grown hge.out HV3.out.1.size (fun j hj => by cases hj; omega)
            exact ⟨by simpa using hbe.out, rp_other HV3.out.2.2.1 HV3.out.2.2.2 hge.out, hbw⟩
          clear hbe hge
          go_wp2_with fail
          refine rret30u rfl rfl rfl rfl HE.out.1 ?_
          exact ⟨_, _, _, by rw [HF.out]; rfl, by rw [HF.out]; exact HE.out.2⟩
        · have hl2 : lastF R.F o u = false := by simpa using hl
          have HC := rlast_is HV2.out.2.2.1 (by have := HN.out; omega) o u
          rw [hso, hsu, hl2] at HC
          go_wp2_with (with_reducible change wpList _ _ _ ({ dst := some 31, op := _, type := _, pos := _, after := _, guard := _ } :: _) _ _; refine Hid.out ?_)
          show wpList _ _ _ _ _ _
          refine wpList_load_row rfl 30 (.tmp 4) rfl b rfl 30 #[.slice ua nu uc, .slice oa no oc, .slice a m c] (0, 0) _ HV2.out.2.1 Try.underlying30 rfl size30 ?_
          simp only [Act.put, List.setIfInBounds_toArray, List.set_cons_zero, List.set_cons_succ]
          go_wp2_with fail
          refine HC.mono ?_
          rintro e V3 ⟨rfl, hb3⟩
          have HV3 : Hid (Below w.heap.size w V3 ∧ Blk V3 b 30 [.slice ua nu uc, .slice oa no oc, .slice a m c] ∧ RPt V3 (.slice ua nu uc) (.slice oa no oc) (.slice a m c) R ∧ Blk V3 (b + 1) 30 [.slice none 0 0, .slice none 0 0, .slice none 0 0]) := ⟨below_tr HV2.out.1 hb3, HV2.out.2.1.below hb3 HV2.out.2.1.lt, HV2.out.2.2.1.below hb3, HV2.out.2.2.2.below hb3 HV2.out.2.2.2.lt⟩
          clear HC hb3
          obtain ⟨k, hk⟩ : ∃ k, fct R.F o [] u = k := ⟨_, rfl⟩
          have HK : Hid (fct R.F o [] u = k) := hk
          have HC := rfact_is HV3.out.2.2.1 o [] u
          rw [hso, show hv [] = .string ⟨#[]⟩ from rfl, hsu, hk] at HC
          go_wp2_with (with_reducible change wpList _ _ _ ({ dst := some 40, op := _, type := _, pos := _, after := _, guard := _ } :: _) _ _; refine Hid.out ?_)
          show wpList _ _ _ _ _ _
          refine wpList_load_row rfl 30 (.tmp 4) rfl b rfl 30 #[.slice ua nu uc, .slice oa no oc, .slice a m c] (0, 0) _ HV3.out.2.1 Try.underlying30 rfl size30 ?_
          simp only [Act.put, List.setIfInBounds_toArray, List.set_cons_zero, List.set_cons_succ]
          go_wp2_with fail
          refine HC.mono ?_
          rintro e V4 ⟨rfl, hb4⟩
          have HV4 : Hid (Below w.heap.size w V4 ∧ Blk V4 b 30 [.slice ua nu uc, .slice oa no oc, .slice a m c] ∧ RPt V4 (.slice ua nu uc) (.slice oa no oc) (.slice a m c) R ∧ Blk V4 (b + 1) 30 [.slice none 0 0, .slice none 0 0, .slice none 0 0]) := ⟨below_tr HV3.out.1 hb4, HV3.out.2.1.below hb4 HV3.out.2.1.lt, HV3.out.2.2.1.below hb4, HV3.out.2.2.2.below hb4 HV3.out.2.2.2.lt⟩
          clear HC hb4 hk
          by_cases h0 : 0 ≤ k
          · have HF0 : Hid (∃ (j : Nat) (f : Fc), k = j ∧ R.F[j]? = some f) := by
              rcases fct_cases R.F o [] u with ⟨h5, _⟩ | ⟨j, f, h5, h6, _⟩
              · rw [HK.out] at h5; omega
              · exact ⟨j, f, by rw [← HK.out]; exact h5, h6⟩
            obtain ⟨j, f, rfl, hj⟩ := HF0.out
            have HF : Hid (q = ({ R with F := R.F.eraseIdx j ++ [⟨o, [], u, 1⟩] }, 0)) := by show _ = _; rw [← HQ.out]; unfold rJoin; rw [if_neg (fun h => h ho), if_neg (fun h => h hm), if_neg (fun h => by omega), if_neg (fun h => hl h.1), show joF R.F o u = R.F.eraseIdx j from by unfold joF; rw [if_neg (by rw [HK.out]; omega), HK.out]; rfl]
            have HC := rwithout_is HV4.out.2.2.1 hj
            have HLE : Hid ((R.F.eraseIdx j).length ≤ 990) := by have h1 := List.length_eraseIdx_le R.F j; have h2 := HN.out; show _ ≤ _; omega
            clear hl hl2 ho hm HF0 hj HK
            go_wp2_with (with_reducible change wpList _ _ _ ({ dst := some 46, op := _, type := _, pos := _, after := _, guard := _ } :: _) _ _; refine Hid.out ?_)
            show wpList _ _ _ _ _ _
            refine wpList_load_row rfl 30 (.tmp 4) rfl b rfl 30 #[.slice ua nu uc, .slice oa no oc, .slice a m c] (0, 0) _ HV4.out.2.1 Try.underlying30 rfl size30 ?_
            simp only [Act.put, List.setIfInBounds_toArray, List.set_cons_zero, List.set_cons_succ]
            go_wp2_with fail
            refine HC.mono ?_
            rintro e V5 ⟨fv2, rfl, hr2, hbf⟩
            have HV5 : Hid (Below w.heap.size w V5 ∧ Blk V5 b 30 [.slice ua nu uc, .slice oa no oc, .slice a m c] ∧ RPt V5 (.slice ua nu uc) (.slice oa no oc) fv2 { R with F := R.F.eraseIdx j } ∧ Blk V5 (b + 1) 30 [.slice none 0 0, .slice none 0 0, .slice none 0 0]) := ⟨below_tr HV4.out.1 hbf, HV4.out.2.1.below hbf HV4.out.2.1.lt, hr2, HV4.out.2.2.2.below hbf HV4.out.2.2.2.lt⟩
            clear HC hr2 hbf
            go_wp2_with (with_reducible change wpList _ _ _ ({ dst := none, op := Op.store 30 _ _, type := _, pos := _, after := _, guard := _ } :: _) _ _; refine Hid.out ?_)
            show wpList _ _ _ _ _ _
            refine wpList_store_blk rfl 30 (.tmp 4) (.tmp 48) rfl b 0 30 [.slice ua nu uc, .slice oa no oc, .slice a m c] [.slice ua nu uc, .slice oa no oc, fv2] rfl rfl HV5.out.2.1 (by simp) size30 (three HV5.out.2.2.1) ?_
            intro V6 hb6 hg6
            have HV6 : Hid (Below w.heap.size w V6 ∧ Blk V6 b 30 [.slice ua nu uc, .slice oa no oc, fv2] ∧ RPt V6 (.slice ua nu uc) (.slice oa no oc) fv2 { R with F := R.F.eraseIdx j } ∧ Blk V6 (b + 1) 30 [.slice none 0 0, .slice none 0 0, .slice none 0 0]) := by
              have hn := HN.out.2.2.2.2
              exact ⟨HV5.out.1.grown hg6.out HV5.out.1.size (fun j hj => by cases hj; omega), by simpa using hb6.out, rp_other HV5.out.2.2.1 HV5.out.2.1 hg6.out, HV5.out.2.2.2.kept hg6.out (by simp)⟩
            clear hb6 hg6
            simp only [Act.put, List.setIfInBounds_toArray, List.set_cons_zero, List.set_cons_succ]
            go_wp2_with (with_reducible change wpList _ _ _ ({ dst := some 49, op := _, type := _, pos := _, after := _, guard := _ } :: _) _ _; refine Hid.out ?_)
            show wpList _ _ _ _ _ _
            refine wpList_load_row rfl 30 (.tmp 4) rfl b rfl 30 #[.slice ua nu uc, .slice oa no oc, fv2] (0, 0) _ HV6.out.2.1 Try.underlying30 rfl size30 ?_
            simp only [Act.put, List.setIfInBounds_toArray, List.set_cons_zero, List.set_cons_succ]
            have HC := rwith_is HV6.out.2.2.1 ⟨o, [], u, 1⟩ (by show (R.F.eraseIdx j).length + 1 ≤ _; have := HLE.out; omega)
            have HC2 : Calls Try.prog 62 #[.agg #[.slice ua nu uc, .slice oa no oc, fv2], .agg #[hv o, hv [], hv u, iv 1]] V6 _ := HC
            rw [hso, show hv [] = .string ⟨#[]⟩ from rfl, hsu] at HC2
            clear HC
            go_wp2_with fail
            refine HC2.mono ?_
            rintro e V7 ⟨fv3, rfl, hr2, hbf⟩
            have HV7 : Hid (Below w.heap.size w V7 ∧ True ∧ RPt V7 (.slice ua nu uc) (.slice oa no oc) fv3 { R with F := R.F.eraseIdx j ++ [⟨o, [], u, 1⟩] } ∧ Blk V7 (b + 1) 30 [.slice none 0 0, .slice none 0 0, .slice none 0 0]) := ⟨below_tr HV6.out.1 hbf, trivial, hr2, HV6.out.2.2.2.below hbf HV6.out.2.2.2.lt⟩
            clear HC2 hr2 hbf
            go_wp2_with (with_reducible change wpList _ _ _ ({ dst := none, op := Op.store 30 _ _, type := _, pos := _, after := _, guard := _ } :: _) _ _; refine Hid.out ?_)
            show wpList _ _ _ _ _ _
            refine wpList_store_blk rfl 30 (.tmp 8) (.tmp 54) rfl (b + 1) 0 30 [.slice none 0 0, .slice none 0 0, .slice none 0 0] [.slice ua nu uc, .slice oa no oc, fv3] rfl rfl HV7.out.2.2.2 (by simp) size30 (three HV7.out.2.2.1) ?_
            intro Ve hbe hge
            have HE : Hid (Blk Ve (b + 1) 30 [.slice ua nu uc, .slice oa no oc, fv3] ∧ RPt Ve (.slice ua nu uc) (.slice oa no oc) (fv3) { R with F := R.F.eraseIdx j ++ [⟨o, [], u, 1⟩] } ∧ Below w.heap.size w Ve) := by
              have hn := HN.out.2.2.2.2
              have hbw : Below w.heap.size w Ve := HV7.out.1.grown hge.out HV7.out.1.size (fun j hj => by cases hj; omega)
              exact ⟨by simpa using hbe.out, rp_other HV7.out.2.2.1 HV7.out.2.2.2 hge.out, hbw⟩
            clear hbe hge
            go_wp2_with fail
            refine rret30u rfl rfl rfl rfl HE.out.1 ?_
            exact ⟨_, _, _, by rw [HF.out]; rfl, by rw [HF.out]; exact HE.out.2⟩
          · have h9 : k < 0 := by omega
            have HF : Hid (q = ({ R with F := R.F ++ [⟨o, [], u, 1⟩] }, 0)) := by show _ = _; rw [← HQ.out]; unfold rJoin; rw [if_neg (fun h => h ho), if_neg (fun h => h hm), if_neg (fun h => by omega), if_neg (fun h => hl h.1), show joF R.F o u = R.F from by unfold joF; rw [if_pos (by rw [HK.out]; exact h9)]]
            clear hl hl2 hm ho h0
            go_wp2_with (with_reducible change wpList _ _ _ ({ dst := some 49, op := _, type := _, pos := _, after := _, guard := _ } :: _) _ _; refine Hid.out ?_)
            show wpList _ _ _ _ _ _
            refine wpList_load_row rfl 30 (.tmp 4) rfl b rfl 30 #[.slice ua nu uc, .slice oa no oc, .slice a m c] (0, 0) _ HV4.out.2.1 Try.underlying30 rfl size30 ?_
            simp only [Act.put, List.setIfInBounds_toArray, List.set_cons_zero, List.set_cons_succ]
            have HC := rwith_is HV4.out.2.2.1 ⟨o, [], u, 1⟩ (by show R.F.length + 1 ≤ _; have := HN.out; omega)
            have HC2 : Calls Try.prog 62 #[.agg #[.slice ua nu uc, .slice oa no oc, .slice a m c], .agg #[hv o, hv [], hv u, iv 1]] V4 _ := HC
            rw [hso, show hv [] = .string ⟨#[]⟩ from rfl, hsu] at HC2
            clear HC
            go_wp2_with fail
            refine HC2.mono ?_
            rintro e V6 ⟨fv2, rfl, hr2, hbf⟩
            have HV6 : Hid (Below w.heap.size w V6 ∧ True ∧ RPt V6 (.slice ua nu uc) (.slice oa no oc) fv2 { R with F := R.F ++ [⟨o, [], u, 1⟩] } ∧ Blk V6 (b + 1) 30 [.slice none 0 0, .slice none 0 0, .slice none 0 0]) := ⟨below_tr HV4.out.1 hbf, trivial, hr2, HV4.out.2.2.2.below hbf HV4.out.2.2.2.lt⟩
            clear HC2 hr2 hbf
            go_wp2_with (with_reducible change wpList _ _ _ ({ dst := none, op := Op.store 30 _ _, type := _, pos := _, after := _, guard := _ } :: _) _ _; refine Hid.out ?_)
            show wpList _ _ _ _ _ _
            refine wpList_store_blk rfl 30 (.tmp 8) (.tmp 54) rfl (b + 1) 0 30 [.slice none 0 0, .slice none 0 0, .slice none 0 0] [.slice ua nu uc, .slice oa no oc, fv2] rfl rfl HV6.out.2.2.2 (by simp) size30 (three HV6.out.2.2.1) ?_
            intro Ve hbe hge
            have HE : Hid (Blk Ve (b + 1) 30 [.slice ua nu uc, .slice oa no oc, fv2] ∧ RPt Ve (.slice ua nu uc) (.slice oa no oc) (fv2) { R with F := R.F ++ [⟨o, [], u, 1⟩] } ∧ Below w.heap.size w Ve) := by
              have hn := HN.out.2.2.2.2
              have hbw : Below w.heap.size w Ve := HV6.out.1.grown hge.out HV6.out.1.size (fun j hj => by cases hj; omega)
              exact ⟨by simpa using hbe.out, rp_other HV6.out.2.2.1 HV6.out.2.2.2 hge.out, hbw⟩
            clear hbe hge
            go_wp2_with fail
            refine rret30u rfl rfl rfl rfl HE.out.1 ?_
            exact ⟨_, _, _, by rw [HF.out]; rfl, by rw [HF.out]; exact HE.out.2⟩
      · by_cases h2 : r = 2
        · subst h2
          clear h1
          clear c0V2 c1V2 c2V2
          by_cases hl : lastF R.F o u = true
          · have HC := rlast_is HV2.out.2.2.1 (by have := HN.out; omega) o u
            rw [hso, hsu, hl] at HC
            go_wp2_with (with_reducible change wpList _ _ _ ({ dst := some 31, op := _, type := _, pos := _, after := _, guard := _ } :: _) _ _; refine Hid.out ?_)
            show wpList _ _ _ _ _ _
            refine wpList_load_row rfl 30 (.tmp 4) rfl b rfl 30 #[.slice ua nu uc, .slice oa no oc, .slice a m c] (0, 0) _ HV2.out.2.1 Try.underlying30 rfl size30 ?_
            simp only [Act.put, List.setIfInBounds_toArray, List.set_cons_zero, List.set_cons_succ]
            go_wp2_with fail
            refine HC.mono ?_
            rintro e V3 ⟨rfl, hb3⟩
            have HV3 : Hid (Below w.heap.size w V3 ∧ Blk V3 b 30 [.slice ua nu uc, .slice oa no oc, .slice a m c] ∧ RPt V3 (.slice ua nu uc) (.slice oa no oc) (.slice a m c) R ∧ Blk V3 (b + 1) 30 [.slice none 0 0, .slice none 0 0, .slice none 0 0]) := ⟨below_tr HV2.out.1 hb3, HV2.out.2.1.below hb3 HV2.out.2.1.lt, HV2.out.2.2.1.below hb3, HV2.out.2.2.2.below hb3 HV2.out.2.2.2.lt⟩
            clear HC hb3
            clear hl
            obtain ⟨k, hk⟩ : ∃ k, fct R.F o [] u = k := ⟨_, rfl⟩
            have HK : Hid (fct R.F o [] u = k) := hk
            have HC := rfact_is HV3.out.2.2.1 o [] u
            rw [hso, show hv [] = .string ⟨#[]⟩ from rfl, hsu, hk] at HC
            go_wp2_with (with_reducible change wpList _ _ _ ({ dst := some 40, op := _, type := _, pos := _, after := _, guard := _ } :: _) _ _; refine Hid.out ?_)
            show wpList _ _ _ _ _ _
            refine wpList_load_row rfl 30 (.tmp 4) rfl b rfl 30 #[.slice ua nu uc, .slice oa no oc, .slice a m c] (0, 0) _ HV3.out.2.1 Try.underlying30 rfl size30 ?_
            simp only [Act.put, List.setIfInBounds_toArray, List.set_cons_zero, List.set_cons_succ]
            go_wp2_with fail
            refine HC.mono ?_
            rintro e V4 ⟨rfl, hb4⟩
            have HV4 : Hid (Below w.heap.size w V4 ∧ Blk V4 b 30 [.slice ua nu uc, .slice oa no oc, .slice a m c] ∧ RPt V4 (.slice ua nu uc) (.slice oa no oc) (.slice a m c) R ∧ Blk V4 (b + 1) 30 [.slice none 0 0, .slice none 0 0, .slice none 0 0]) := ⟨below_tr HV3.out.1 hb4, HV3.out.2.1.below hb4 HV3.out.2.1.lt, HV3.out.2.2.1.below hb4, HV3.out.2.2.2.below hb4 HV3.out.2.2.2.lt⟩
            clear HC hb4 hk
            by_cases h0 : 0 ≤ k
            · have HF0 : Hid (∃ (j : Nat) (f : Fc), k = j ∧ R.F[j]? = some f) := by
                rcases fct_cases R.F o [] u with ⟨h5, _⟩ | ⟨j, f, h5, h6, _⟩
                · rw [HK.out] at h5; omega
                · exact ⟨j, f, by rw [← HK.out]; exact h5, h6⟩
              obtain ⟨j, f, rfl, hj⟩ := HF0.out
              have HF : Hid (q = ({ R with F := R.F.eraseIdx j ++ [⟨o, [], u, 2⟩] }, 0)) := by show _ = _; rw [← HQ.out]; unfold rJoin; rw [if_neg (fun h => h ho), if_neg (fun h => h hm), if_neg (fun h => by omega), if_neg (fun h => by have := h.2; omega), show joF R.F o u = R.F.eraseIdx j from by unfold joF; rw [if_neg (by rw [HK.out]; omega), HK.out]; rfl]
              have HC := rwithout_is HV4.out.2.2.1 hj
              have HLE : Hid ((R.F.eraseIdx j).length ≤ 990) := by have h1 := List.length_eraseIdx_le R.F j; have h2 := HN.out; show _ ≤ _; omega
              clear ho hm HF0 hj HK
              go_wp2_with (with_reducible change wpList _ _ _ ({ dst := some 46, op := _, type := _, pos := _, after := _, guard := _ } :: _) _ _; refine Hid.out ?_)
              show wpList _ _ _ _ _ _
              refine wpList_load_row rfl 30 (.tmp 4) rfl b rfl 30 #[.slice ua nu uc, .slice oa no oc, .slice a m c] (0, 0) _ HV4.out.2.1 Try.underlying30 rfl size30 ?_
              simp only [Act.put, List.setIfInBounds_toArray, List.set_cons_zero, List.set_cons_succ]
              go_wp2_with fail
              refine HC.mono ?_
              rintro e V5 ⟨fv2, rfl, hr2, hbf⟩
              have HV5 : Hid (Below w.heap.size w V5 ∧ Blk V5 b 30 [.slice ua nu uc, .slice oa no oc, .slice a m c] ∧ RPt V5 (.slice ua nu uc) (.slice oa no oc) fv2 { R with F := R.F.eraseIdx j } ∧ Blk V5 (b + 1) 30 [.slice none 0 0, .slice none 0 0, .slice none 0 0]) := ⟨below_tr HV4.out.1 hbf, HV4.out.2.1.below hbf HV4.out.2.1.lt, hr2, HV4.out.2.2.2.below hbf HV4.out.2.2.2.lt⟩
              clear HC hr2 hbf
              go_wp2_with (with_reducible change wpList _ _ _ ({ dst := none, op := Op.store 30 _ _, type := _, pos := _, after := _, guard := _ } :: _) _ _; refine Hid.out ?_)
              show wpList _ _ _ _ _ _
              refine wpList_store_blk rfl 30 (.tmp 4) (.tmp 48) rfl b 0 30 [.slice ua nu uc, .slice oa no oc, .slice a m c] [.slice ua nu uc, .slice oa no oc, fv2] rfl rfl HV5.out.2.1 (by simp) size30 (three HV5.out.2.2.1) ?_
              intro V6 hb6 hg6
              have HV6 : Hid (Below w.heap.size w V6 ∧ Blk V6 b 30 [.slice ua nu uc, .slice oa no oc, fv2] ∧ RPt V6 (.slice ua nu uc) (.slice oa no oc) fv2 { R with F := R.F.eraseIdx j } ∧ Blk V6 (b + 1) 30 [.slice none 0 0, .slice none 0 0, .slice none 0 0]) := by
                have hn := HN.out.2.2.2.2
                exact ⟨HV5.out.1.grown hg6.out HV5.out.1.size (fun j hj => by cases hj; omega), by simpa using hb6.out, rp_other HV5.out.2.2.1 HV5.out.2.1 hg6.out, HV5.out.2.2.2.kept hg6.out (by simp)⟩
              clear hb6 hg6
              simp only [Act.put, List.setIfInBounds_toArray, List.set_cons_zero, List.set_cons_succ]
              go_wp2_with (with_reducible change wpList _ _ _ ({ dst := some 49, op := _, type := _, pos := _, after := _, guard := _ } :: _) _ _; refine Hid.out ?_)
              show wpList _ _ _ _ _ _
              refine wpList_load_row rfl 30 (.tmp 4) rfl b rfl 30 #[.slice ua nu uc, .slice oa no oc, fv2] (0, 0) _ HV6.out.2.1 Try.underlying30 rfl size30 ?_
              simp only [Act.put, List.setIfInBounds_toArray, List.set_cons_zero, List.set_cons_succ]
              have HC := rwith_is HV6.out.2.2.1 ⟨o, [], u, 2⟩ (by show (R.F.eraseIdx j).length + 1 ≤ _; have := HLE.out; omega)
              have HC2 : Calls Try.prog 62 #[.agg #[.slice ua nu uc, .slice oa no oc, fv2], .agg #[hv o, hv [], hv u, iv 2]] V6 _ := HC
              rw [hso, show hv [] = .string ⟨#[]⟩ from rfl, hsu] at HC2
              clear HC
              go_wp2_with fail
              refine HC2.mono ?_
              rintro e V7 ⟨fv3, rfl, hr2, hbf⟩
              have HV7 : Hid (Below w.heap.size w V7 ∧ True ∧ RPt V7 (.slice ua nu uc) (.slice oa no oc) fv3 { R with F := R.F.eraseIdx j ++ [⟨o, [], u, 2⟩] } ∧ Blk V7 (b + 1) 30 [.slice none 0 0, .slice none 0 0, .slice none 0 0]) := ⟨below_tr HV6.out.1 hbf, trivial, hr2, HV6.out.2.2.2.below hbf HV6.out.2.2.2.lt⟩
              clear HC2 hr2 hbf
              go_wp2_with (with_reducible change wpList _ _ _ ({ dst := none, op := Op.store 30 _ _, type := _, pos := _, after := _, guard := _ } :: _) _ _; refine Hid.out ?_)
              show wpList _ _ _ _ _ _
              refine wpList_store_blk rfl 30 (.tmp 8) (.tmp 54) rfl (b + 1) 0 30 [.slice none 0 0, .slice none 0 0, .slice none 0 0] [.slice ua nu uc, .slice oa no oc, fv3] rfl rfl HV7.out.2.2.2 (by simp) size30 (three HV7.out.2.2.1) ?_
              intro Ve hbe hge
              have HE : Hid (Blk Ve (b + 1) 30 [.slice ua nu uc, .slice oa no oc, fv3] ∧ RPt Ve (.slice ua nu uc) (.slice oa no oc) (fv3) { R with F := R.F.eraseIdx j ++ [⟨o, [], u, 2⟩] } ∧ Below w.heap.size w Ve) := by
                have hn := HN.out.2.2.2.2
                have hbw : Below w.heap.size w Ve := HV7.out.1.grown hge.out HV7.out.1.size (fun j hj => by cases hj; omega)
                exact ⟨by simpa using hbe.out, rp_other HV7.out.2.2.1 HV7.out.2.2.2 hge.out, hbw⟩
              clear hbe hge
              go_wp2_with fail
              refine rret30u rfl rfl rfl rfl HE.out.1 ?_
              exact ⟨_, _, _, by rw [HF.out]; rfl, by rw [HF.out]; exact HE.out.2⟩
            · have h9 : k < 0 := by omega
              have HF : Hid (q = ({ R with F := R.F ++ [⟨o, [], u, 2⟩] }, 0)) := by show _ = _; rw [← HQ.out]; unfold rJoin; rw [if_neg (fun h => h ho), if_neg (fun h => h hm), if_neg (fun h => by omega), if_neg (fun h => by have := h.2; omega), show joF R.F o u = R.F from by unfold joF; rw [if_pos (by rw [HK.out]; exact h9)]]
              clear hm ho h0
              go_wp2_with (with_reducible change wpList _ _ _ ({ dst := some 49, op := _, type := _, pos := _, after := _, guard := _ } :: _) _ _; refine Hid.out ?_)
              show wpList _ _ _ _ _ _
              refine wpList_load_row rfl 30 (.tmp 4) rfl b rfl 30 #[.slice ua nu uc, .slice oa no oc, .slice a m c] (0, 0) _ HV4.out.2.1 Try.underlying30 rfl size30 ?_
              simp only [Act.put, List.setIfInBounds_toArray, List.set_cons_zero, List.set_cons_succ]
              have HC := rwith_is HV4.out.2.2.1 ⟨o, [], u, 2⟩ (by show R.F.length + 1 ≤ _; have := HN.out; omega)
              have HC2 : Calls Try.prog 62 #[.agg #[.slice ua nu uc, .slice oa no oc, .slice a m c], .agg #[hv o, hv [], hv u, iv 2]] V4 _ := HC
              rw [hso, show hv [] = .string ⟨#[]⟩ from rfl, hsu] at HC2
              clear HC
              go_wp2_with fail
              refine HC2.mono ?_
              rintro e V6 ⟨fv2, rfl, hr2, hbf⟩
              have HV6 : Hid (Below w.heap.size w V6 ∧ True ∧ RPt V6 (.slice ua nu uc) (.slice oa no oc) fv2 { R with F := R.F ++ [⟨o, [], u, 2⟩] } ∧ Blk V6 (b + 1) 30 [.slice none 0 0, .slice none 0 0, .slice none 0 0]) := ⟨below_tr HV4.out.1 hbf, trivial, hr2, HV4.out.2.2.2.below hbf HV4.out.2.2.2.lt⟩
              clear HC2 hr2 hbf
              go_wp2_with (with_reducible change wpList _ _ _ ({ dst := none, op := Op.store 30 _ _, type := _, pos := _, after := _, guard := _ } :: _) _ _; refine Hid.out ?_)
              show wpList _ _ _ _ _ _
              refine wpList_store_blk rfl 30 (.tmp 8) (.tmp 54) rfl (b + 1) 0 30 [.slice none 0 0, .slice none 0 0, .slice none 0 0] [.slice ua nu uc, .slice oa no oc, fv2] rfl rfl HV6.out.2.2.2 (by simp) size30 (three HV6.out.2.2.1) ?_
              intro Ve hbe hge
              have HE : Hid (Blk Ve (b + 1) 30 [.slice ua nu uc, .slice oa no oc, fv2] ∧ RPt Ve (.slice ua nu uc) (.slice oa no oc) (fv2) { R with F := R.F ++ [⟨o, [], u, 2⟩] } ∧ Below w.heap.size w Ve) := by
                have hn := HN.out.2.2.2.2
                have hbw : Below w.heap.size w Ve := HV6.out.1.grown hge.out HV6.out.1.size (fun j hj => by cases hj; omega)
                exact ⟨by simpa using hbe.out, rp_other HV6.out.2.2.1 HV6.out.2.2.2 hge.out, hbw⟩
              clear hbe hge
              go_wp2_with fail
              refine rret30u rfl rfl rfl rfl HE.out.1 ?_
              exact ⟨_, _, _, by rw [HF.out]; rfl, by rw [HF.out]; exact HE.out.2⟩
          · have hl2 : lastF R.F o u = false := by simpa using hl
            have HC := rlast_is HV2.out.2.2.1 (by have := HN.out; omega) o u
            rw [hso, hsu, hl2] at HC
            go_wp2_with (with_reducible change wpList _ _ _ ({ dst := some 31, op := _, type := _, pos := _, after := _, guard := _ } :: _) _ _; refine Hid.out ?_)
            show wpList _ _ _ _ _ _
            refine wpList_load_row rfl 30 (.tmp 4) rfl b rfl 30 #[.slice ua nu uc, .slice oa no oc, .slice a m c] (0, 0) _ HV2.out.2.1 Try.underlying30 rfl size30 ?_
            simp only [Act.put, List.setIfInBounds_toArray, List.set_cons_zero, List.set_cons_succ]
            go_wp2_with fail
            refine HC.mono ?_
            rintro e V3 ⟨rfl, hb3⟩
            have HV3 : Hid (Below w.heap.size w V3 ∧ Blk V3 b 30 [.slice ua nu uc, .slice oa no oc, .slice a m c] ∧ RPt V3 (.slice ua nu uc) (.slice oa no oc) (.slice a m c) R ∧ Blk V3 (b + 1) 30 [.slice none 0 0, .slice none 0 0, .slice none 0 0]) := ⟨below_tr HV2.out.1 hb3, HV2.out.2.1.below hb3 HV2.out.2.1.lt, HV2.out.2.2.1.below hb3, HV2.out.2.2.2.below hb3 HV2.out.2.2.2.lt⟩
            clear HC hb3
            obtain ⟨k, hk⟩ : ∃ k, fct R.F o [] u = k := ⟨_, rfl⟩
            have HK : Hid (fct R.F o [] u = k) := hk
            have HC := rfact_is HV3.out.2.2.1 o [] u
            rw [hso, show hv [] = .string ⟨#[]⟩ from rfl, hsu, hk] at HC
            go_wp2_with (with_reducible change wpList _ _ _ ({ dst := some 40, op := _, type := _, pos := _, after := _, guard := _ } :: _) _ _; refine Hid.out ?_)
            show wpList _ _ _ _ _ _
            refine wpList_load_row rfl 30 (.tmp 4) rfl b rfl 30 #[.slice ua nu uc, .slice oa no oc, .slice a m c] (0, 0) _ HV3.out.2.1 Try.underlying30 rfl size30 ?_
            simp only [Act.put, List.setIfInBounds_toArray, List.set_cons_zero, List.set_cons_succ]
            go_wp2_with fail
            refine HC.mono ?_
            rintro e V4 ⟨rfl, hb4⟩
            have HV4 : Hid (Below w.heap.size w V4 ∧ Blk V4 b 30 [.slice ua nu uc, .slice oa no oc, .slice a m c] ∧ RPt V4 (.slice ua nu uc) (.slice oa no oc) (.slice a m c) R ∧ Blk V4 (b + 1) 30 [.slice none 0 0, .slice none 0 0, .slice none 0 0]) := ⟨below_tr HV3.out.1 hb4, HV3.out.2.1.below hb4 HV3.out.2.1.lt, HV3.out.2.2.1.below hb4, HV3.out.2.2.2.below hb4 HV3.out.2.2.2.lt⟩
            clear HC hb4 hk
            by_cases h0 : 0 ≤ k
            · have HF0 : Hid (∃ (j : Nat) (f : Fc), k = j ∧ R.F[j]? = some f) := by
                rcases fct_cases R.F o [] u with ⟨h5, _⟩ | ⟨j, f, h5, h6, _⟩
                · rw [HK.out] at h5; omega
                · exact ⟨j, f, by rw [← HK.out]; exact h5, h6⟩
              obtain ⟨j, f, rfl, hj⟩ := HF0.out
              have HF : Hid (q = ({ R with F := R.F.eraseIdx j ++ [⟨o, [], u, 2⟩] }, 0)) := by show _ = _; rw [← HQ.out]; unfold rJoin; rw [if_neg (fun h => h ho), if_neg (fun h => h hm), if_neg (fun h => by omega), if_neg (fun h => hl h.1), show joF R.F o u = R.F.eraseIdx j from by unfold joF; rw [if_neg (by rw [HK.out]; omega), HK.out]; rfl]
              have HC := rwithout_is HV4.out.2.2.1 hj
              have HLE : Hid ((R.F.eraseIdx j).length ≤ 990) := by have h1 := List.length_eraseIdx_le R.F j; have h2 := HN.out; show _ ≤ _; omega
              clear hl hl2 ho hm HF0 hj HK
              go_wp2_with (with_reducible change wpList _ _ _ ({ dst := some 46, op := _, type := _, pos := _, after := _, guard := _ } :: _) _ _; refine Hid.out ?_)
              show wpList _ _ _ _ _ _
              refine wpList_load_row rfl 30 (.tmp 4) rfl b rfl 30 #[.slice ua nu uc, .slice oa no oc, .slice a m c] (0, 0) _ HV4.out.2.1 Try.underlying30 rfl size30 ?_
              simp only [Act.put, List.setIfInBounds_toArray, List.set_cons_zero, List.set_cons_succ]
              go_wp2_with fail
              refine HC.mono ?_
              rintro e V5 ⟨fv2, rfl, hr2, hbf⟩
              have HV5 : Hid (Below w.heap.size w V5 ∧ Blk V5 b 30 [.slice ua nu uc, .slice oa no oc, .slice a m c] ∧ RPt V5 (.slice ua nu uc) (.slice oa no oc) fv2 { R with F := R.F.eraseIdx j } ∧ Blk V5 (b + 1) 30 [.slice none 0 0, .slice none 0 0, .slice none 0 0]) := ⟨below_tr HV4.out.1 hbf, HV4.out.2.1.below hbf HV4.out.2.1.lt, hr2, HV4.out.2.2.2.below hbf HV4.out.2.2.2.lt⟩
              clear HC hr2 hbf
              go_wp2_with (with_reducible change wpList _ _ _ ({ dst := none, op := Op.store 30 _ _, type := _, pos := _, after := _, guard := _ } :: _) _ _; refine Hid.out ?_)
              show wpList _ _ _ _ _ _
              refine wpList_store_blk rfl 30 (.tmp 4) (.tmp 48) rfl b 0 30 [.slice ua nu uc, .slice oa no oc, .slice a m c] [.slice ua nu uc, .slice oa no oc, fv2] rfl rfl HV5.out.2.1 (by simp) size30 (three HV5.out.2.2.1) ?_
              intro V6 hb6 hg6
              have HV6 : Hid (Below w.heap.size w V6 ∧ Blk V6 b 30 [.slice ua nu uc, .slice oa no oc, fv2] ∧ RPt V6 (.slice ua nu uc) (.slice oa no oc) fv2 { R with F := R.F.eraseIdx j } ∧ Blk V6 (b + 1) 30 [.slice none 0 0, .slice none 0 0, .slice none 0 0]) := by
                have hn := HN.out.2.2.2.2
                exact ⟨HV5.out.1.grown hg6.out HV5.out.1.size (fun j hj => by cases hj; omega), by simpa using hb6.out, rp_other HV5.out.2.2.1 HV5.out.2.1 hg6.out, HV5.out.2.2.2.kept hg6.out (by simp)⟩
              clear hb6 hg6
              simp only [Act.put, List.setIfInBounds_toArray, List.set_cons_zero, List.set_cons_succ]
              go_wp2_with (with_reducible change wpList _ _ _ ({ dst := some 49, op := _, type := _, pos := _, after := _, guard := _ } :: _) _ _; refine Hid.out ?_)
              show wpList _ _ _ _ _ _
              refine wpList_load_row rfl 30 (.tmp 4) rfl b rfl 30 #[.slice ua nu uc, .slice oa no oc, fv2] (0, 0) _ HV6.out.2.1 Try.underlying30 rfl size30 ?_
              simp only [Act.put, List.setIfInBounds_toArray, List.set_cons_zero, List.set_cons_succ]
              have HC := rwith_is HV6.out.2.2.1 ⟨o, [], u, 2⟩ (by show (R.F.eraseIdx j).length + 1 ≤ _; have := HLE.out; omega)
              have HC2 : Calls Try.prog 62 #[.agg #[.slice ua nu uc, .slice oa no oc, fv2], .agg #[hv o, hv [], hv u, iv 2]] V6 _ := HC
              rw [hso, show hv [] = .string ⟨#[]⟩ from rfl, hsu] at HC2
              clear HC
              go_wp2_with fail
              refine HC2.mono ?_
              rintro e V7 ⟨fv3, rfl, hr2, hbf⟩
              have HV7 : Hid (Below w.heap.size w V7 ∧ True ∧ RPt V7 (.slice ua nu uc) (.slice oa no oc) fv3 { R with F := R.F.eraseIdx j ++ [⟨o, [], u, 2⟩] } ∧ Blk V7 (b + 1) 30 [.slice none 0 0, .slice none 0 0, .slice none 0 0]) := ⟨below_tr HV6.out.1 hbf, trivial, hr2, HV6.out.2.2.2.below hbf HV6.out.2.2.2.lt⟩
              clear HC2 hr2 hbf
              go_wp2_with (with_reducible change wpList _ _ _ ({ dst := none, op := Op.store 30 _ _, type := _, pos := _, after := _, guard := _ } :: _) _ _; refine Hid.out ?_)
              show wpList _ _ _ _ _ _
              refine wpList_store_blk rfl 30 (.tmp 8) (.tmp 54) rfl (b + 1) 0 30 [.slice none 0 0, .slice none 0 0, .slice none 0 0] [.slice ua nu uc, .slice oa no oc, fv3] rfl rfl HV7.out.2.2.2 (by simp) size30 (three HV7.out.2.2.1) ?_
              intro Ve hbe hge
              have HE : Hid (Blk Ve (b + 1) 30 [.slice ua nu uc, .slice oa no oc, fv3] ∧ RPt Ve (.slice ua nu uc) (.slice oa no oc) (fv3) { R with F := R.F.eraseIdx j ++ [⟨o, [], u, 2⟩] } ∧ Below w.heap.size w Ve) := by
                have hn := HN.out.2.2.2.2
                have hbw : Below w.heap.size w Ve := HV7.out.1.grown hge.out HV7.out.1.size (fun j hj => by cases hj; omega)
                exact ⟨by simpa using hbe.out, rp_other HV7.out.2.2.1 HV7.out.2.2.2 hge.out, hbw⟩
              clear hbe hge
              go_wp2_with fail
              refine rret30u rfl rfl rfl rfl HE.out.1 ?_
              exact ⟨_, _, _, by rw [HF.out]; rfl, by rw [HF.out]; exact HE.out.2⟩
            · have h9 : k < 0 := by omega
              have HF : Hid (q = ({ R with F := R.F ++ [⟨o, [], u, 2⟩] }, 0)) := by show _ = _; rw [← HQ.out]; unfold rJoin; rw [if_neg (fun h => h ho), if_neg (fun h => h hm), if_neg (fun h => by omega), if_neg (fun h => hl h.1), show joF R.F o u = R.F from by unfold joF; rw [if_pos (by rw [HK.out]; exact h9)]]
              clear hl hl2 hm ho h0
              go_wp2_with (with_reducible change wpList _ _ _ ({ dst := some 49, op := _, type := _, pos := _, after := _, guard := _ } :: _) _ _; refine Hid.out ?_)
              show wpList _ _ _ _ _ _
              refine wpList_load_row rfl 30 (.tmp 4) rfl b rfl 30 #[.slice ua nu uc, .slice oa no oc, .slice a m c] (0, 0) _ HV4.out.2.1 Try.underlying30 rfl size30 ?_
              simp only [Act.put, List.setIfInBounds_toArray, List.set_cons_zero, List.set_cons_succ]
              have HC := rwith_is HV4.out.2.2.1 ⟨o, [], u, 2⟩ (by show R.F.length + 1 ≤ _; have := HN.out; omega)
              have HC2 : Calls Try.prog 62 #[.agg #[.slice ua nu uc, .slice oa no oc, .slice a m c], .agg #[hv o, hv [], hv u, iv 2]] V4 _ := HC
              rw [hso, show hv [] = .string ⟨#[]⟩ from rfl, hsu] at HC2
              clear HC
              go_wp2_with fail
              refine HC2.mono ?_
              rintro e V6 ⟨fv2, rfl, hr2, hbf⟩
              have HV6 : Hid (Below w.heap.size w V6 ∧ True ∧ RPt V6 (.slice ua nu uc) (.slice oa no oc) fv2 { R with F := R.F ++ [⟨o, [], u, 2⟩] } ∧ Blk V6 (b + 1) 30 [.slice none 0 0, .slice none 0 0, .slice none 0 0]) := ⟨below_tr HV4.out.1 hbf, trivial, hr2, HV4.out.2.2.2.below hbf HV4.out.2.2.2.lt⟩
              clear HC2 hr2 hbf
              go_wp2_with (with_reducible change wpList _ _ _ ({ dst := none, op := Op.store 30 _ _, type := _, pos := _, after := _, guard := _ } :: _) _ _; refine Hid.out ?_)
              show wpList _ _ _ _ _ _
              refine wpList_store_blk rfl 30 (.tmp 8) (.tmp 54) rfl (b + 1) 0 30 [.slice none 0 0, .slice none 0 0, .slice none 0 0] [.slice ua nu uc, .slice oa no oc, fv2] rfl rfl HV6.out.2.2.2 (by simp) size30 (three HV6.out.2.2.1) ?_
              intro Ve hbe hge
              have HE : Hid (Blk Ve (b + 1) 30 [.slice ua nu uc, .slice oa no oc, fv2] ∧ RPt Ve (.slice ua nu uc) (.slice oa no oc) (fv2) { R with F := R.F ++ [⟨o, [], u, 2⟩] } ∧ Below w.heap.size w Ve) := by
                have hn := HN.out.2.2.2.2
                have hbw : Below w.heap.size w Ve := HV6.out.1.grown hge.out HV6.out.1.size (fun j hj => by cases hj; omega)
                exact ⟨by simpa using hbe.out, rp_other HV6.out.2.2.1 HV6.out.2.2.2 hge.out, hbw⟩
              clear hbe hge
              go_wp2_with fail
              refine rret30u rfl rfl rfl rfl HE.out.1 ?_
              exact ⟨_, _, _, by rw [HF.out]; rfl, by rw [HF.out]; exact HE.out.2⟩
        · have b1 : (r != 1) = true := by simpa using h1
          have b2 : (r != 2) = true := by simpa using h2
          have HF : Hid (q = (R, 2)) := by show _ = _; rw [← HQ.out]; unfold rJoin; rw [if_neg (fun h => h ho), if_neg (fun h => h hm), if_pos ⟨h1, h2⟩]
          clear ho hm
          go_wp2_with (with_reducible change wpList _ _ _ ({ dst := some 30, op := _, type := _, pos := _, after := _, guard := _ } :: _) _ _; refine Hid.out ?_)
          show wpList _ _ _ _ _ _
          refine wpList_load_row rfl 30 (.tmp 4) rfl b rfl 30 #[.slice ua nu uc, .slice oa no oc, .slice a m c] (0, 0) _ HV2.out.2.1 Try.underlying30 rfl size30 ?_
          simp only [Act.put, List.setIfInBounds_toArray, List.set_cons_zero, List.set_cons_succ]
          go_wp2_with (with_reducible change wpList _ _ _ ({ dst := none, op := Op.store 30 _ _, type := _, pos := _, after := _, guard := _ } :: _) _ _; refine Hid.out ?_)
          show wpList _ _ _ _ _ _
          refine wpList_store_blk rfl 30 (.tmp 8) (.tmp 30) rfl (b + 1) 0 30 [.slice none 0 0, .slice none 0 0, .slice none 0 0] [.slice ua nu uc, .slice oa no oc, .slice a m c] rfl rfl HV2.out.2.2.2 (by simp) size30 (three HV2.out.2.2.1) ?_
          intro Ve hbe hge
          have HE : Hid (Blk Ve (b + 1) 30 [.slice ua nu uc, .slice oa no oc, .slice a m c] ∧ RPt Ve (.slice ua nu uc) (.slice oa no oc) (.slice a m c) R ∧ Below w.heap.size w Ve) := by
            have hn := HN.out.2.2.2.2
            have hbw : Below w.heap.size w Ve := HV2.out.1.grown hge.out HV2.out.1.size (fun j hj => by cases hj; omega)
            exact ⟨by simpa using hbe.out, rp_other HV2.out.2.2.1 HV2.out.2.2.2 hge.out, hbw⟩
          clear hbe hge
          go_wp2_with fail
          refine rret30u rfl rfl rfl rfl HE.out.1 ?_
          exact ⟨_, _, _, by rw [HF.out]; rfl, by rw [HF.out]; exact HE.out.2⟩
    · have HCV2 := rhas_b HV1.out.2.2.1.u HV1.out.2.2.1.nu u false (decide_eq_false hm)
      rw [hsu] at HCV2
      have c0V1 : V1.cell? ⟨b, 0, none⟩ = some (.slice ua nu uc) := HV1.out.2.1.cell rfl
      have c1V1 : V1.cell? ⟨b, 1, none⟩ = some (.slice oa no oc) := HV1.out.2.1.cell rfl
      have c2V1 : V1.cell? ⟨b, 2, none⟩ = some (.slice a m c) := HV1.out.2.1.cell rfl
      go_wp2_with fail
      refine HCV2.mono ?_
      rintro e V2 ⟨rfl, hbV2⟩
      have HV2 : Hid (Below w.heap.size w V2 ∧ Blk V2 b 30 [.slice ua nu uc, .slice oa no oc, .slice a m c] ∧ RPt V2 (.slice ua nu uc) (.slice oa no oc) (.slice a m c) R ∧ Blk V2 (b + 1) 30 [.slice none 0 0, .slice none 0 0, .slice none 0 0]) := ⟨below_tr HV1.out.1 hbV2, HV1.out.2.1.below hbV2 HV1.out.2.1.lt, HV1.out.2.2.1.below hbV2, HV1.out.2.2.2.below hbV2 HV1.out.2.2.2.lt⟩
      clear c0V1 c1V1 c2V1
      clear HCV2
      have HF : Hid (q = (R, 111)) := by show _ = _; rw [← HQ.out]; unfold rJoin; rw [if_neg (fun h => h ho), if_pos hm]
      clear hm ho
      go_wp2_with (with_reducible change wpList _ _ _ ({ dst := some 23, op := _, type := _, pos := _, after := _, guard := _ } :: _) _ _; refine Hid.out ?_)
      show wpList _ _ _ _ _ _
      refine wpList_load_row rfl 30 (.tmp 4) rfl b rfl 30 #[.slice ua nu uc, .slice oa no oc, .slice a m c] (0, 0) _ HV2.out.2.1 Try.underlying30 rfl size30 ?_
      simp only [Act.put, List.setIfInBounds_toArray, List.set_cons_zero, List.set_cons_succ]
      go_wp2_with (with_reducible change wpList _ _ _ ({ dst := none, op := Op.store 30 _ _, type := _, pos := _, after := _, guard := _ } :: _) _ _; refine Hid.out ?_)
      show wpList _ _ _ _ _ _
      refine wpList_store_blk rfl 30 (.tmp 8) (.tmp 23) rfl (b + 1) 0 30 [.slice none 0 0, .slice none 0 0, .slice none 0 0] [.slice ua nu uc, .slice oa no oc, .slice a m c] rfl rfl HV2.out.2.2.2 (by simp) size30 (three HV2.out.2.2.1) ?_
      intro Ve hbe hge
      have HE : Hid (Blk Ve (b + 1) 30 [.slice ua nu uc, .slice oa no oc, .slice a m c] ∧ RPt Ve (.slice ua nu uc) (.slice oa no oc) (.slice a m c) R ∧ Below w.heap.size w Ve) := by
        have hn := HN.out.2.2.2.2
        have hbw : Below w.heap.size w Ve := HV2.out.1.grown hge.out HV2.out.1.size (fun j hj => by cases hj; omega)
        exact ⟨by simpa using hbe.out, rp_other HV2.out.2.2.1 HV2.out.2.2.2 hge.out, hbw⟩
      clear hbe hge
      go_wp2_with fail
      refine rret30u rfl rfl rfl rfl HE.out.1 ?_
      exact ⟨_, _, _, by rw [HF.out]; rfl, by rw [HF.out]; exact HE.out.2⟩
  · have HCV1 := rhas_b HA.out.2.2.1.o HA.out.2.2.1.no o false (decide_eq_false ho)
    rw [hso] at HCV1
    have c0A : A.cell? ⟨b, 0, none⟩ = some (.slice ua nu uc) := HA.out.2.1.cell rfl
    have c1A : A.cell? ⟨b, 1, none⟩ = some (.slice oa no oc) := HA.out.2.1.cell rfl
    have c2A : A.cell? ⟨b, 2, none⟩ = some (.slice a m c) := HA.out.2.1.cell rfl
    go_wp2_with fail
    refine HCV1.mono ?_
    rintro e V1 ⟨rfl, hbV1⟩
    have HV1 : Hid (Below w.heap.size w V1 ∧ Blk V1 b 30 [.slice ua nu uc, .slice oa no oc, .slice a m c] ∧ RPt V1 (.slice ua nu uc) (.slice oa no oc) (.slice a m c) R ∧ Blk V1 (b + 1) 30 [.slice none 0 0, .slice none 0 0, .slice none 0 0]) := ⟨below_tr HA.out.1 hbV1, HA.out.2.1.below hbV1 HA.out.2.1.lt, HA.out.2.2.1.below hbV1, HA.out.2.2.2.below hbV1 HA.out.2.2.2.lt⟩
    clear c0A c1A c2A
    clear HCV1
    clear hA hb
    have HF : Hid (q = (R, 111)) := by show _ = _; rw [← HQ.out]; unfold rJoin; rw [if_pos ho]
    clear ho
    go_wp2_with (with_reducible change wpList _ _ _ ({ dst := some 23, op := _, type := _, pos := _, after := _, guard := _ } :: _) _ _; refine Hid.out ?_)
    show wpList _ _ _ _ _ _
    refine wpList_load_row rfl 30 (.tmp 4) rfl b rfl 30 #[.slice ua nu uc, .slice oa no oc, .slice a m c] (0, 0) _ HV1.out.2.1 Try.underlying30 rfl size30 ?_
    simp only [Act.put, List.setIfInBounds_toArray, List.set_cons_zero, List.set_cons_succ]
    go_wp2_with (with_reducible change wpList _ _ _ ({ dst := none, op := Op.store 30 _ _, type := _, pos := _, after := _, guard := _ } :: _) _ _; refine Hid.out ?_)
    show wpList _ _ _ _ _ _
    refine wpList_store_blk rfl 30 (.tmp 8) (.tmp 23) rfl (b + 1) 0 30 [.slice none 0 0, .slice none 0 0, .slice none 0 0] [.slice ua nu uc, .slice oa no oc, .slice a m c] rfl rfl HV1.out.2.2.2 (by simp) size30 (three HV1.out.2.2.1) ?_
    intro Ve hbe hge
    have HE : Hid (Blk Ve (b + 1) 30 [.slice ua nu uc, .slice oa no oc, .slice a m c] ∧ RPt Ve (.slice ua nu uc) (.slice oa no oc) (.slice a m c) R ∧ Below w.heap.size w Ve) := by
      have hn := HN.out.2.2.2.2
      have hbw : Below w.heap.size w Ve := HV1.out.1.grown hge.out HV1.out.1.size (fun j hj => by cases hj; omega)
      exact ⟨by simpa using hbe.out, rp_other HV1.out.2.2.1 HV1.out.2.2.2 hge.out, hbw⟩
    clear hbe hge
    go_wp2_with fail
    refine rret30u rfl rfl rfl rfl HE.out.1 ?_
    exact ⟨_, _, _, by rw [HF.out]; rfl, by rw [HF.out]; exact HE.out.2⟩
#print axioms rjoin_is
end Go.Proofs.Ytfickhhfhdhcbaa.Oct
