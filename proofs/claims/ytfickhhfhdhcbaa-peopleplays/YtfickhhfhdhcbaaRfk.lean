/-
  Layer 15 (people): the document's people: one call as the document has it.
-/
import Derived.Test.YtfickhhfhdhcbaaRfj
namespace Go.Proofs.Ytfickhhfhdhcbaa.Oct
open Go.RowKit
set_option linter.unusedSimpArgs false
set_option linter.unusedVariables false

/-- one call -/
def rModel (R : Rp) (a : Av) : Rp × Int := if a.k = 0 then rAddU R a.u else if a.k = 1 then rAddO R a.x a.u else if a.k = 2 then rJoin R a.x a.u a.r else if a.k = 3 then rLeave R a.x a.u else if a.k = 4 then rTeam R a.x a.t else if a.k = 5 then rPut R a.x a.t a.u else rOut R a.x a.t a.u
set_option maxRecDepth 100000 in
set_option maxHeartbeats 4000000 in
theorem rmodel_is {w : World} {uv ov fv : Value} {R : Rp} (h : RPt w uv ov fv R) (hF : R.F.length ≤ 990) (y : Av) (hy : y.ok) : Calls Try.prog 12 #[.agg #[uv, ov, fv], .agg y.cells.toArray] w (Ro w (rModel R y)) := by
  obtain ⟨K, x, t, u, r⟩ := y
  obtain ⟨hx0, ht0, hu0⟩ := hy
  have hx0 : x.length ≤ 140737488355328 := hx0
  have ht0 : t.length ≤ 140737488355328 := ht0
  have hu0 : u.length ≤ 140737488355328 := hu0
  obtain ⟨ua, uc, rfl, _⟩ := h.u
  obtain ⟨oa, oc, rfl, _⟩ := h.o
  obtain ⟨a, c, rfl, _⟩ := h.f
  obtain ⟨m, hm⟩ : ∃ m, R.F.length = m := ⟨_, rfl⟩
  obtain ⟨nu, hnu⟩ : ∃ m, R.U.length = m := ⟨_, rfl⟩
  obtain ⟨no, hno⟩ : ∃ m, R.O.length = m := ⟨_, rfl⟩
  rw [hm, hnu, hno] at h ⊢
  obtain ⟨sx, hsx, hlx, hqx⟩ := bs_is x
  obtain ⟨st, hst, hlt, hqt⟩ := bs_is t
  obtain ⟨su, hsu, hlu, hqu⟩ := bs_is u
  show Calls Try.prog 12 #[.agg #[.slice ua nu uc, .slice oa no oc, .slice a m c], .agg #[iv K, hv x, hv t, hv u, iv r]] w _
  rw [hsx, hst, hsu]
  have hz30 := zero30
  obtain ⟨b, hb⟩ : ∃ b, w.heap.size = b := ⟨_, rfl⟩
  obtain ⟨A, hA⟩ : ∃ A, ((w.alloc (.cells #[.slice ua nu uc, .slice oa no oc, .slice a m c] 30)).alloc (.cells #[iv K, .string sx, .string st, .string su, iv r] 32)).alloc (.cells #[.slice none 0 0, .slice none 0 0, .slice none 0 0] 30) = A := ⟨_, rfl⟩
  have HA : Hid (Below w.heap.size w A ∧ Blk A b 30 [.slice ua nu uc, .slice oa no oc, .slice a m c] ∧ RPt A (.slice ua nu uc) (.slice oa no oc) (.slice a m c) R ∧ Blk A (b + 1) 32 [iv K, .string sx, .string st, .string su, iv r] ∧ Blk A (b + 2) 30 [.slice none 0 0, .slice none 0 0, .slice none 0 0]) := by
    have hB : Below w.heap.size w A := by rw [← hA]; exact (((Below.refl _ w).alloc (Nat.le_refl _) _).alloc (by simp) _).alloc (by simp; omega) _
    refine ⟨hB, ?_, h.below hB, ?_, ?_⟩
    · rw [← hA, ← hb]; exact ((Blk.new w _ _).alloc _).alloc _
    · rw [← hA, ← hb]
      have := (Blk.new (w.alloc (.cells #[.slice ua nu uc, .slice oa no oc, .slice a m c] 30)) #[iv K, .string sx, .string st, .string su, iv r] 32).alloc (.cells #[.slice none 0 0, .slice none 0 0, .slice none 0 0] 30)
      rwa [World.size_alloc] at this
    · rw [← hA, ← hb]
      have := Blk.new ((w.alloc (.cells #[.slice ua nu uc, .slice oa no oc, .slice a m c] 30)).alloc (.cells #[iv K, .string sx, .string st, .string su, iv r] 32)) #[.slice none 0 0, .slice none 0 0, .slice none 0 0] 30
      rwa [World.size_alloc, World.size_alloc] at this
  have HB : Hid (w.heap.size = b) := hb
  have d0 : A.cell? ⟨b + 1, 0, none⟩ = some (iv K) := HA.out.2.2.2.1.cell rfl
  have d1 : A.cell? ⟨b + 1, 1, none⟩ = some (.string sx) := HA.out.2.2.2.1.cell rfl
  have d2 : A.cell? ⟨b + 1, 2, none⟩ = some (.string st) := HA.out.2.2.2.1.cell rfl
  have d3 : A.cell? ⟨b + 1, 3, none⟩ = some (.string su) := HA.out.2.2.2.1.cell rfl
  have d4 : A.cell? ⟨b + 1, 4, none⟩ = some (iv r) := HA.out.2.2.2.1.cell rfl
  have hF' : R.F.length ≤ 990 := hF
  have HH : Hid (RPt A (.slice ua nu uc) (.slice oa no oc) (.slice a m c) R) := HA.out.2.2.1
  clear h hF hm hnu hno hlx hqx hlt hqt hlu hqu
  go_enter Try.func12, Try.ntmps12
  by_cases h0 : K = 0
  · subst h0
    have HC := raddU_is HH.out hF' u hu0
    rw [hsu] at HC
    obtain ⟨q, hq⟩ : ∃ q, rModel R ⟨0, x, t, u, r⟩ = q := ⟨_, rfl⟩
    rw [hq]
    have hq2 : rAddU R u = q := by rw [← hq]; unfold rModel; simp only []; rfl
    rw [hq2] at HC
    clear hq hq2
    go_wp2_with (with_reducible change wpList _ _ _ ({ dst := some 10, op := _, type := _, pos := _, after := _, guard := _ } :: _) _ _; refine Hid.out ?_)
    show wpList _ _ _ _ _ _
    refine wpList_load_row rfl 30 (.tmp 2) rfl b rfl 30 #[.slice ua nu uc, .slice oa no oc, .slice a m c] (0, 0) _ HA.out.2.1 Try.underlying30 rfl size30 ?_
    simp only [Act.put, List.setIfInBounds_toArray, List.set_cons_zero, List.set_cons_succ]
    go_wp2_with fail
    refine HC.mono ?_
    rintro e V ⟨uv, ov, fv, rfl, HO⟩
    have HV : Hid (Blk V (b + 2) 30 [.slice none 0 0, .slice none 0 0, .slice none 0 0] ∧ Below w.heap.size w V) := ⟨HA.out.2.2.2.2.below HO.out.2 HA.out.2.2.2.2.lt, below_tr HA.out.1 HO.out.2⟩
    clear HC
    go_wp2_with (with_reducible change wpList _ _ _ ({ dst := none, op := Op.store 30 _ _, type := _, pos := _, after := _, guard := _ } :: _) _ _; refine Hid.out ?_)
    show wpList _ _ _ _ _ _
    refine wpList_store_blk rfl 30 (.tmp 4) (.tmp 14) rfl (b + 2) 0 30 [.slice none 0 0, .slice none 0 0, .slice none 0 0] [uv, ov, fv] rfl rfl HV.out.1 (by simp) size30 (three HO.out.1) ?_
    intro Ve hbe hge
    have HE : Hid (Blk Ve (b + 2) 30 [uv, ov, fv] ∧ RPt Ve uv ov fv q.1 ∧ Below w.heap.size w Ve) := by
      have hn := HB.out
      exact ⟨by simpa using hbe.out, rp_other HO.out.1 HV.out.1 hge.out, HV.out.2.grown hge.out HV.out.2.size (fun j hj => by cases hj; omega)⟩
    clear hbe hge
    go_wp2_with fail
    refine rret30u rfl rfl rfl rfl HE.out.1 ?_
    exact ⟨_, _, _, rfl, HE.out.2⟩
  · by_cases h1 : K = 1
    · subst h1
      have HC := raddO_is HH.out hF' x u hx0
      rw [hsx, hsu] at HC
      obtain ⟨q, hq⟩ : ∃ q, rModel R ⟨1, x, t, u, r⟩ = q := ⟨_, rfl⟩
      rw [hq]
      have hq2 : rAddO R x u = q := by rw [← hq]; unfold rModel; simp only []; rfl
      rw [hq2] at HC
      clear hq hq2
      clear h0
      go_wp2_with (with_reducible change wpList _ _ _ ({ dst := some 18, op := _, type := _, pos := _, after := _, guard := _ } :: _) _ _; refine Hid.out ?_)
      show wpList _ _ _ _ _ _
      refine wpList_load_row rfl 30 (.tmp 2) rfl b rfl 30 #[.slice ua nu uc, .slice oa no oc, .slice a m c] (0, 0) _ HA.out.2.1 Try.underlying30 rfl size30 ?_
      simp only [Act.put, List.setIfInBounds_toArray, List.set_cons_zero, List.set_cons_succ]
      go_wp2_with fail
      refine HC.mono ?_
      rintro e V ⟨uv, ov, fv, rfl, HO⟩
      have HV : Hid (Blk V (b + 2) 30 [.slice none 0 0, .slice none 0 0, .slice none 0 0] ∧ Below w.heap.size w V) := ⟨HA.out.2.2.2.2.below HO.out.2 HA.out.2.2.2.2.lt, below_tr HA.out.1 HO.out.2⟩
      clear HC
      go_wp2_with (with_reducible change wpList _ _ _ ({ dst := none, op := Op.store 30 _ _, type := _, pos := _, after := _, guard := _ } :: _) _ _; refine Hid.out ?_)
      show wpList _ _ _ _ _ _
      refine wpList_store_blk rfl 30 (.tmp 4) (.tmp 24) rfl (b + 2) 0 30 [.slice none 0 0, .slice none 0 0, .slice none 0 0] [uv, ov, fv] rfl rfl HV.out.1 (by simp) size30 (three HO.out.1) ?_
      intro Ve hbe hge
      have HE : Hid (Blk Ve (b + 2) 30 [uv, ov, fv] ∧ RPt Ve uv ov fv q.1 ∧ Below w.heap.size w Ve) := by
        have hn := HB.out
        exact ⟨by simpa using hbe.out, rp_other HO.out.1 HV.out.1 hge.out, HV.out.2.grown hge.out HV.out.2.size (fun j hj => by cases hj; omega)⟩
      clear hbe hge
      go_wp2_with fail
      refine rret30u rfl rfl rfl rfl HE.out.1 ?_
      exact ⟨_, _, _, rfl, HE.out.2⟩
    · by_cases h2 : K = 2
      · subst h2
        have HC := rjoin_is HH.out hF' x u r
        rw [hsx, hsu] at HC
        obtain ⟨q, hq⟩ : ∃ q, rModel R ⟨2, x, t, u, r⟩ = q := ⟨_, rfl⟩
        rw [hq]
        have hq2 : rJoin R x u r = q := by rw [← hq]; unfold rModel; simp only []; rfl
        rw [hq2] at HC
        clear hq hq2
        clear h0 h1
        go_wp2_with (with_reducible change wpList _ _ _ ({ dst := some 28, op := _, type := _, pos := _, after := _, guard := _ } :: _) _ _; refine Hid.out ?_)
        show wpList _ _ _ _ _ _
        refine wpList_load_row rfl 30 (.tmp 2) rfl b rfl 30 #[.slice ua nu uc, .slice oa no oc, .slice a m c] (0, 0) _ HA.out.2.1 Try.underlying30 rfl size30 ?_
        simp only [Act.put, List.setIfInBounds_toArray, List.set_cons_zero, List.set_cons_succ]
        go_wp2_with fail
        refine HC.mono ?_
        rintro e V ⟨uv, ov, fv, rfl, HO⟩
        have HV : Hid (Blk V (b + 2) 30 [.slice none 0 0, .slice none 0 0, .slice none 0 0] ∧ Below w.heap.size w V) := ⟨HA.out.2.2.2.2.below HO.out.2 HA.out.2.2.2.2.lt, below_tr HA.out.1 HO.out.2⟩
        clear HC
        go_wp2_with (with_reducible change wpList _ _ _ ({ dst := none, op := Op.store 30 _ _, type := _, pos := _, after := _, guard := _ } :: _) _ _; refine Hid.out ?_)
        show wpList _ _ _ _ _ _
        refine wpList_store_blk rfl 30 (.tmp 4) (.tmp 36) rfl (b + 2) 0 30 [.slice none 0 0, .slice none 0 0, .slice none 0 0] [uv, ov, fv] rfl rfl HV.out.1 (by simp) size30 (three HO.out.1) ?_
        intro Ve hbe hge
        have HE : Hid (Blk Ve (b + 2) 30 [uv, ov, fv] ∧ RPt Ve uv ov fv q.1 ∧ Below w.heap.size w Ve) := by
          have hn := HB.out
          exact ⟨by simpa using hbe.out, rp_other HO.out.1 HV.out.1 hge.out, HV.out.2.grown hge.out HV.out.2.size (fun j hj => by cases hj; omega)⟩
        clear hbe hge
        go_wp2_with fail
        refine rret30u rfl rfl rfl rfl HE.out.1 ?_
        exact ⟨_, _, _, rfl, HE.out.2⟩
      · by_cases h3 : K = 3
        · subst h3
          have HC := rleave_is HH.out hF' x u
          rw [hsx, hsu] at HC
          obtain ⟨q, hq⟩ : ∃ q, rModel R ⟨3, x, t, u, r⟩ = q := ⟨_, rfl⟩
          rw [hq]
          have hq2 : rLeave R x u = q := by rw [← hq]; unfold rModel; simp only []; rfl
          rw [hq2] at HC
          clear hq hq2
          clear h0 h1 h2
          go_wp2_with (with_reducible change wpList _ _ _ ({ dst := some 40, op := _, type := _, pos := _, after := _, guard := _ } :: _) _ _; refine Hid.out ?_)
          show wpList _ _ _ _ _ _
          refine wpList_load_row rfl 30 (.tmp 2) rfl b rfl 30 #[.slice ua nu uc, .slice oa no oc, .slice a m c] (0, 0) _ HA.out.2.1 Try.underlying30 rfl size30 ?_
          simp only [Act.put, List.setIfInBounds_toArray, List.set_cons_zero, List.set_cons_succ]
          go_wp2_with fail
          refine HC.mono ?_
          rintro e V ⟨uv, ov, fv, rfl, HO⟩
          have HV : Hid (Blk V (b + 2) 30 [.slice none 0 0, .slice none 0 0, .slice none 0 0] ∧ Below w.heap.size w V) := ⟨HA.out.2.2.2.2.below HO.out.2 HA.out.2.2.2.2.lt, below_tr HA.out.1 HO.out.2⟩
          clear HC
          go_wp2_with (with_reducible change wpList _ _ _ ({ dst := none, op := Op.store 30 _ _, type := _, pos := _, after := _, guard := _ } :: _) _ _; refine Hid.out ?_)
          show wpList _ _ _ _ _ _
          refine wpList_store_blk rfl 30 (.tmp 4) (.tmp 46) rfl (b + 2) 0 30 [.slice none 0 0, .slice none 0 0, .slice none 0 0] [uv, ov, fv] rfl rfl HV.out.1 (by simp) size30 (three HO.out.1) ?_
          intro Ve hbe hge
          have HE : Hid (Blk Ve (b + 2) 30 [uv, ov, fv] ∧ RPt Ve uv ov fv q.1 ∧ Below w.heap.size w Ve) := by
            have hn := HB.out
            exact ⟨by simpa using hbe.out, rp_other HO.out.1 HV.out.1 hge.out, HV.out.2.grown hge.out HV.out.2.size (fun j hj => by cases hj; omega)⟩
          clear hbe hge
          go_wp2_with fail
          refine rret30u rfl rfl rfl rfl HE.out.1 ?_
          exact ⟨_, _, _, rfl, HE.out.2⟩
        · by_cases h4 : K = 4
          · subst h4
            have HC := rteam_is HH.out hF' x t ht0
            rw [hsx, hst] at HC
            obtain ⟨q, hq⟩ : ∃ q, rModel R ⟨4, x, t, u, r⟩ = q := ⟨_, rfl⟩
            rw [hq]
            have hq2 : rTeam R x t = q := by rw [← hq]; unfold rModel; simp only []; rfl
            rw [hq2] at HC
            clear hq hq2
            clear h0 h1 h2 h3
            go_wp2_with (with_reducible change wpList _ _ _ ({ dst := some 50, op := _, type := _, pos := _, after := _, guard := _ } :: _) _ _; refine Hid.out ?_)
            show wpList _ _ _ _ _ _
            refine wpList_load_row rfl 30 (.tmp 2) rfl b rfl 30 #[.slice ua nu uc, .slice oa no oc, .slice a m c] (0, 0) _ HA.out.2.1 Try.underlying30 rfl size30 ?_
            simp only [Act.put, List.setIfInBounds_toArray, List.set_cons_zero, List.set_cons_succ]
            go_wp2_with fail
            refine HC.mono ?_
            rintro e V ⟨uv, ov, fv, rfl, HO⟩
            have HV : Hid (Blk V (b + 2) 30 [.slice none 0 0, .slice none 0 0, .slice none 0 0] ∧ Below w.heap.size w V) := ⟨HA.out.2.2.2.2.below HO.out.2 HA.out.2.2.2.2.lt, below_tr HA.out.1 HO.out.2⟩
            clear HC
            go_wp2_with (with_reducible change wpList _ _ _ ({ dst := none, op := Op.store 30 _ _, type := _, pos := _, after := _, guard := _ } :: _) _ _; refine Hid.out ?_)
            show wpList _ _ _ _ _ _
            refine wpList_store_blk rfl 30 (.tmp 4) (.tmp 56) rfl (b + 2) 0 30 [.slice none 0 0, .slice none 0 0, .slice none 0 0] [uv, ov, fv] rfl rfl HV.out.1 (by simp) size30 (three HO.out.1) ?_
            intro Ve hbe hge
            have HE : Hid (Blk Ve (b + 2) 30 [uv, ov, fv] ∧ RPt Ve uv ov fv q.1 ∧ Below w.heap.size w Ve) := by
              have hn := HB.out
              exact ⟨by simpa using hbe.out, rp_other HO.out.1 HV.out.1 hge.out, HV.out.2.grown hge.out HV.out.2.size (fun j hj => by cases hj; omega)⟩
            clear hbe hge
            go_wp2_with fail
            refine rret30u rfl rfl rfl rfl HE.out.1 ?_
            exact ⟨_, _, _, rfl, HE.out.2⟩
          · by_cases h5 : K = 5
            · subst h5
              have HC := rput_is HH.out hF' x t u
              rw [hsx, hst, hsu] at HC
              obtain ⟨q, hq⟩ : ∃ q, rModel R ⟨5, x, t, u, r⟩ = q := ⟨_, rfl⟩
              rw [hq]
              have hq2 : rPut R x t u = q := by rw [← hq]; unfold rModel; simp only []; rfl
              rw [hq2] at HC
              clear hq hq2
              clear h0 h1 h2 h3 h4
              go_wp2_with (with_reducible change wpList _ _ _ ({ dst := some 60, op := _, type := _, pos := _, after := _, guard := _ } :: _) _ _; refine Hid.out ?_)
              show wpList _ _ _ _ _ _
              refine wpList_load_row rfl 30 (.tmp 2) rfl b rfl 30 #[.slice ua nu uc, .slice oa no oc, .slice a m c] (0, 0) _ HA.out.2.1 Try.underlying30 rfl size30 ?_
              simp only [Act.put, List.setIfInBounds_toArray, List.set_cons_zero, List.set_cons_succ]
              go_wp2_with fail
              refine HC.mono ?_
              rintro e V ⟨uv, ov, fv, rfl, HO⟩
              have HV : Hid (Blk V (b + 2) 30 [.slice none 0 0, .slice none 0 0, .slice none 0 0] ∧ Below w.heap.size w V) := ⟨HA.out.2.2.2.2.below HO.out.2 HA.out.2.2.2.2.lt, below_tr HA.out.1 HO.out.2⟩
              clear HC
              go_wp2_with (with_reducible change wpList _ _ _ ({ dst := none, op := Op.store 30 _ _, type := _, pos := _, after := _, guard := _ } :: _) _ _; refine Hid.out ?_)
              show wpList _ _ _ _ _ _
              refine wpList_store_blk rfl 30 (.tmp 4) (.tmp 68) rfl (b + 2) 0 30 [.slice none 0 0, .slice none 0 0, .slice none 0 0] [uv, ov, fv] rfl rfl HV.out.1 (by simp) size30 (three HO.out.1) ?_
              intro Ve hbe hge
              have HE : Hid (Blk Ve (b + 2) 30 [uv, ov, fv] ∧ RPt Ve uv ov fv q.1 ∧ Below w.heap.size w Ve) := by
                have hn := HB.out
                exact ⟨by simpa using hbe.out, rp_other HO.out.1 HV.out.1 hge.out, HV.out.2.grown hge.out HV.out.2.size (fun j hj => by cases hj; omega)⟩
              clear hbe hge
              go_wp2_with fail
              refine rret30u rfl rfl rfl rfl HE.out.1 ?_
              exact ⟨_, _, _, rfl, HE.out.2⟩
            · have n0 : (K == 0) = false := by simpa using h0
              have n1 : (K == 1) = false := by simpa using h1
              have n2 : (K == 2) = false := by simpa using h2
              have n3 : (K == 3) = false := by simpa using h3
              have n4 : (K == 4) = false := by simpa using h4
              have n5 : (K == 5) = false := by simpa using h5
              have HC := rout_is HH.out hF' x t u
              rw [hsx, hst, hsu] at HC
              obtain ⟨q, hq⟩ : ∃ q, rModel R ⟨K, x, t, u, r⟩ = q := ⟨_, rfl⟩
              rw [hq]
              have hq2 : rOut R x t u = q := by rw [← hq]; unfold rModel; simp only []; rw [if_neg h0, if_neg h1, if_neg h2, if_neg h3, if_neg h4, if_neg h5]
              rw [hq2] at HC
              clear hq hq2
              go_wp2_with (with_reducible change wpList _ _ _ ({ dst := some 70, op := _, type := _, pos := _, after := _, guard := _ } :: _) _ _; refine Hid.out ?_)
              show wpList _ _ _ _ _ _
              refine wpList_load_row rfl 30 (.tmp 2) rfl b rfl 30 #[.slice ua nu uc, .slice oa no oc, .slice a m c] (0, 0) _ HA.out.2.1 Try.underlying30 rfl size30 ?_
              simp only [Act.put, List.setIfInBounds_toArray, List.set_cons_zero, List.set_cons_succ]
              go_wp2_with fail
              refine HC.mono ?_
              rintro e V ⟨uv, ov, fv, rfl, HO⟩
              have HV : Hid (Blk V (b + 2) 30 [.slice none 0 0, .slice none 0 0, .slice none 0 0] ∧ Below w.heap.size w V) := ⟨HA.out.2.2.2.2.below HO.out.2 HA.out.2.2.2.2.lt, below_tr HA.out.1 HO.out.2⟩
              clear HC
              go_wp2_with (with_reducible change wpList _ _ _ ({ dst := none, op := Op.store 30 _ _, type := _, pos := _, after := _, guard := _ } :: _) _ _; refine Hid.out ?_)
              show wpList _ _ _ _ _ _
              refine wpList_store_blk rfl 30 (.tmp 4) (.tmp 78) rfl (b + 2) 0 30 [.slice none 0 0, .slice none 0 0, .slice none 0 0] [uv, ov, fv] rfl rfl HV.out.1 (by simp) size30 (three HO.out.1) ?_
              intro Ve hbe hge
              have HE : Hid (Blk Ve (b + 2) 30 [uv, ov, fv] ∧ RPt Ve uv ov fv q.1 ∧ Below w.heap.size w Ve) := by
                have hn := HB.out
                exact ⟨by simpa using hbe.out, rp_other HO.out.1 HV.out.1 hge.out, HV.out.2.grown hge.out HV.out.2.size (fun j hj => by cases hj; omega)⟩
              clear hbe hge
              go_wp2_with fail
              refine rret30u rfl rfl rfl rfl HE.out.1 ?_
              exact ⟨_, _, _, rfl, HE.out.2⟩
#print axioms rmodel_is
end Go.Proofs.Ytfickhhfhdhcbaa.Oct
