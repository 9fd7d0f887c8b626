/-
  Layer 19 (audit): next.
-/
import Derived.Test.YtmmpafaegmejlaaDoorNxr
namespace Go.Proofs.YtmmpafaegmejlaaDoor.Oct
open Go.RowKit Sha
set_option linter.unusedSimpArgs false
set_option linter.unusedVariables false

set_option maxRecDepth 100000 in
set_option maxHeartbeats 2000000 in
theorem next_is {w : World} {c : Nat} {l : List En} (h : Ch w c l) (hk : KT w) (hs : ST w) (tick : Int) (who what : BA) (hw : who.size ≤ 140737488355328) (hwt : what.size ≤ 140737488355328) (ht : tick ≤ 9223372036854775807) : Calls Tryd.prog 28 #[.pointer (some ⟨c, 0, none⟩), iv tick, .string who, .string what] w fun e w' => e = .returned (.tuple #[.agg (nxE l tick who what).1.cells.toArray, iv (nxE l tick who what).2]) ∧ Below w.heap.size w w' := by
  have HCh : Hid (Ch w c l) := h
  have HW : Hid (Ch w c l ∧ KT w ∧ ST w) := ⟨h, hk, hs⟩
  obtain ⟨v, hc, ⟨hok, a, cap, rfl, hle, hcap, hr⟩, hn, hsz⟩ := h
  obtain ⟨Z, hZ, HZ⟩ := zero37
  have HBL := built37
  obtain ⟨r, hr0⟩ : ∃ b, w.heap.size = b := ⟨_, rfl⟩
  obtain ⟨A, hA⟩ : ∃ A, w.alloc (.cells Z.toArray 37) = A := ⟨_, rfl⟩
  have hB : Below w.heap.size w A := by rw [← hA]; exact below_al _ _
  have hZA : Blk A r 37 Z := by rw [← hA, ← hr0]; exact Blk.new w _ _
  have HA : Hid (Below w.heap.size w A ∧ Blk A r 37 Z ∧ w.heap.size ≤ r ∧ Z = zE.cells ∧ KT A ∧ ST A ∧ Ch A c l ∧ c < w.heap.size ∧ Blk A c 58 [.slice a l.length cap]) := ⟨hB, hZA, by omega, HZ.out, hk.below hB, hs.below hB, HCh.out.below hB, hc.lt, hc.below hB hc.lt⟩
  obtain ⟨x, hx⟩ : ∃ x, lastE l = x := ⟨_, rfl⟩
  obtain ⟨n, hnl⟩ : ∃ n, l.length = n := ⟨_, rfl⟩
  obtain ⟨m1, hm1⟩ : ∃ n, who.size = n := ⟨_, rfl⟩
  obtain ⟨m2, hm2⟩ : ∃ n, what.size = n := ⟨_, rfl⟩
  have hxok : x.ok := by
    rw [← hx]
    by_cases hne : l = []
    · rw [hne]; exact zE_ok
    · exact hok _ (last_mem hne)
  have HM : Hid (who.size = m1 ∧ what.size = m2 ∧ l.length = n ∧ tick ≤ 9223372036854775807 ∧ n ≤ 1000000 ∧ lastE l = x ∧ m1 ≤ 140737488355328 ∧ m2 ≤ 140737488355328) := ⟨hm1, hm2, hnl, ht, by omega, hx, by omega, by omega⟩
  have hf := field37 x hxok
  have qm1 : (m1 : Int) ≤ 140737488355328 := by omega
  have qm2 : (m2 : Int) ≤ 140737488355328 := by omega
  have qn : (n : Int) ≤ 1000000 := by omega
  rw [hnl] at HA
  clear hB hZA hc HZ hk hs HCh hok hle hcap hr hn hsz hnl hw hwt ht hxok
  obtain ⟨q, hq⟩ : ∃ q, nxE l tick who what = q := ⟨_, rfl⟩
  have hq2 := hq
  unfold nxE at hq2
  rw [hx, hm1, hm2, HM.out.2.2.1] at hq2
  rw [hq]
  clear hq
  go_enter Tryd.func28, Tryd.ntmps28
  go_wp2_with fail
  refine (end_is HA.out.2.2.2.2.2.2.1).mono ?_
  rintro e W1 ⟨rfl, hb⟩
  have H1 : Hid (Below w.heap.size w W1 ∧ Blk W1 r 37 Z ∧ KT W1 ∧ ST W1 ∧ Ch W1 c l ∧ Blk W1 c 58 [.slice a n cap]) := ⟨below_tr HA.out.1 hb, HA.out.2.1.below hb HA.out.2.1.lt, HA.out.2.2.2.2.1.below hb, HA.out.2.2.2.2.2.1.below hb, HA.out.2.2.2.2.2.2.1.below hb, HA.out.2.2.2.2.2.2.2.2.below hb HA.out.2.2.2.2.2.2.2.2.lt⟩
  rw [hx]
  have c0 := H1.out.2.2.2.2.2.cell (i := 0) rfl
  clear hb hA hr0 hx
  by_cases h1 : tick < x.tick
  · have HV : Hid (q = (zE, 2)) := by show q = _; rw [← hq2, if_pos (.inl h1)]
    clear hq2
    go_wp2_with (with_reducible change wpList _ _ _ ({ dst := some 20, op := _, type := _, pos := _, after := _, guard := _ } :: _) _ _; refine Hid.out ?_)
    show wpList _ _ _ _ _ _
    refine wpList_built rfl 37 _ rfl zE.cells.toArray (by rw [← HBL]; simp) ?_
    go_wp2_with (with_reducible change wpList _ _ _ ({ dst := none, op := Op.store 37 _ _, type := _, pos := _, after := _, guard := _ } :: _) _ _; refine Hid.out ?_)
    show wpList _ _ _ _ _ _
    refine wpList_store_blk rfl 37 (.tmp 8) (.tmp 20) rfl r 0 37 Z zE.cells rfl rfl H1.out.2.1 (by rw [HA.out.2.2.2.1]; omega) (info37 zE_ok) (En.one _) ?_
    intro W2 hx hg
    have H2 : Hid (Blk W2 r 37 zE.cells ∧ Below w.heap.size w W2) := ⟨blk_all hx.out (by rw [HA.out.2.2.2.1]), below_gr H1.out.1 hg.out HA.out.2.2.1⟩
    clear hx hg
    go_wp2
    refine ret_cu rfl rfl rfl H2.out.1 Tryd.underlying37 rfl (info37 zE_ok) ⟨?_, H2.out.2⟩
    rw [HV.out]
    rfl
  by_cases h2 : 1099511627776 < tick
  · have HV : Hid (q = (zE, 2)) := by show q = _; rw [← hq2, if_pos (.inr h2)]
    have h1' : x.tick ≤ tick := by omega
    clear hq2 h1
    go_wp2_with (with_reducible change wpList _ _ _ ({ dst := some 20, op := _, type := _, pos := _, after := _, guard := _ } :: _) _ _; refine Hid.out ?_)
    show wpList _ _ _ _ _ _
    refine wpList_built rfl 37 _ rfl zE.cells.toArray (by rw [← HBL]; simp) ?_
    go_wp2_with (with_reducible change wpList _ _ _ ({ dst := none, op := Op.store 37 _ _, type := _, pos := _, after := _, guard := _ } :: _) _ _; refine Hid.out ?_)
    show wpList _ _ _ _ _ _
    refine wpList_store_blk rfl 37 (.tmp 8) (.tmp 20) rfl r 0 37 Z zE.cells rfl rfl H1.out.2.1 (by rw [HA.out.2.2.2.1]; omega) (info37 zE_ok) (En.one _) ?_
    intro W2 hx hg
    have H2 : Hid (Blk W2 r 37 zE.cells ∧ Below w.heap.size w W2) := ⟨blk_all hx.out (by rw [HA.out.2.2.2.1]), below_gr H1.out.1 hg.out HA.out.2.2.1⟩
    clear hx hg
    go_wp2
    refine ret_cu rfl rfl rfl H2.out.1 Tryd.underlying37 rfl (info37 zE_ok) ⟨?_, H2.out.2⟩
    rw [HV.out]
    rfl
  have h1' : x.tick ≤ tick := by omega
  have h2' : tick ≤ 1099511627776 := by omega
  rw [if_neg (fun k => k.elim h1 h2)] at hq2
  clear h1 h2
  by_cases h3 : (16 : Int) < (m1 : Int)
  · have HV : Hid (q = (zE, 3)) := by show q = _; rw [← hq2, if_pos (.inl (by omega))]
    clear hq2
    go_wp2_with (with_reducible change wpList _ _ _ ({ dst := some 38, op := _, type := _, pos := _, after := _, guard := _ } :: _) _ _; refine Hid.out ?_)
    show wpList _ _ _ _ _ _
    refine wpList_built rfl 37 _ rfl zE.cells.toArray (by rw [← HBL]; simp) ?_
    go_wp2_with (with_reducible change wpList _ _ _ ({ dst := none, op := Op.store 37 _ _, type := _, pos := _, after := _, guard := _ } :: _) _ _; refine Hid.out ?_)
    show wpList _ _ _ _ _ _
    refine wpList_store_blk rfl 37 (.tmp 8) (.tmp 38) rfl r 0 37 Z zE.cells rfl rfl H1.out.2.1 (by rw [HA.out.2.2.2.1]; omega) (info37 zE_ok) (En.one _) ?_
    intro W2 hx hg
    have H2 : Hid (Blk W2 r 37 zE.cells ∧ Below w.heap.size w W2) := ⟨blk_all hx.out (by rw [HA.out.2.2.2.1]), below_gr H1.out.1 hg.out HA.out.2.2.1⟩
    clear hx hg
    go_wp2
    refine ret_cu rfl rfl rfl H2.out.1 Tryd.underlying37 rfl (info37 zE_ok) ⟨?_, H2.out.2⟩
    rw [HV.out]
    rfl
  by_cases h4 : (512 : Int) < (m2 : Int)
  · have HV : Hid (q = (zE, 3)) := by show q = _; rw [← hq2, if_pos (.inr (.inl (by omega)))]
    have h3' : (m1 : Int) ≤ 16 := by omega
    clear hq2 h3
    go_wp2_with (with_reducible change wpList _ _ _ ({ dst := some 38, op := _, type := _, pos := _, after := _, guard := _ } :: _) _ _; refine Hid.out ?_)
    show wpList _ _ _ _ _ _
    refine wpList_built rfl 37 _ rfl zE.cells.toArray (by rw [← HBL]; simp) ?_
    go_wp2_with (with_reducible change wpList _ _ _ ({ dst := none, op := Op.store 37 _ _, type := _, pos := _, after := _, guard := _ } :: _) _ _; refine Hid.out ?_)
    show wpList _ _ _ _ _ _
    refine wpList_store_blk rfl 37 (.tmp 8) (.tmp 38) rfl r 0 37 Z zE.cells rfl rfl H1.out.2.1 (by rw [HA.out.2.2.2.1]; omega) (info37 zE_ok) (En.one _) ?_
    intro W2 hx hg
    have H2 : Hid (Blk W2 r 37 zE.cells ∧ Below w.heap.size w W2) := ⟨blk_all hx.out (by rw [HA.out.2.2.2.1]), below_gr H1.out.1 hg.out HA.out.2.2.1⟩
    clear hx hg
    go_wp2
    refine ret_cu rfl rfl rfl H2.out.1 Tryd.underlying37 rfl (info37 zE_ok) ⟨?_, H2.out.2⟩
    rw [HV.out]
    rfl
  by_cases h5 : (4096 : Int) ≤ (n : Int)
  · have HV : Hid (q = (zE, 3)) := by show q = _; rw [← hq2, if_pos (.inr (.inr (by omega)))]
    have h3' : (m1 : Int) ≤ 16 := by omega
    have h4' : (m2 : Int) ≤ 512 := by omega
    clear hq2 h3 h4
    go_wp2_with (with_reducible change wpList _ _ _ ({ dst := some 38, op := _, type := _, pos := _, after := _, guard := _ } :: _) _ _; refine Hid.out ?_)
    show wpList _ _ _ _ _ _
    refine wpList_built rfl 37 _ rfl zE.cells.toArray (by rw [← HBL]; simp) ?_
    go_wp2_with (with_reducible change wpList _ _ _ ({ dst := none, op := Op.store 37 _ _, type := _, pos := _, after := _, guard := _ } :: _) _ _; refine Hid.out ?_)
    show wpList _ _ _ _ _ _
    refine wpList_store_blk rfl 37 (.tmp 8) (.tmp 38) rfl r 0 37 Z zE.cells rfl rfl H1.out.2.1 (by rw [HA.out.2.2.2.1]; omega) (info37 zE_ok) (En.one _) ?_
    intro W2 hx hg
    have H2 : Hid (Blk W2 r 37 zE.cells ∧ Below w.heap.size w W2) := ⟨blk_all hx.out (by rw [HA.out.2.2.2.1]), below_gr H1.out.1 hg.out HA.out.2.2.1⟩
    clear hx hg
    go_wp2
    refine ret_cu rfl rfl rfl H2.out.1 Tryd.underlying37 rfl (info37 zE_ok) ⟨?_, H2.out.2⟩
    rw [HV.out]
    rfl
  have h3' : (m1 : Int) ≤ 16 := by omega
  have h4' : (m2 : Int) ≤ 512 := by omega
  have h5' : (n : Int) < 4096 := by omega
  rw [if_neg (by omega)] at hq2
  obtain ⟨D, hD⟩ : ∃ D, hdE l = D := ⟨_, rfl⟩
  have HV : Hid (q = (⟨(n : Int) + 1, tick, who, what, D⟩, 0) ∧ hdE l = D ∧ D.length = 32) := by
    refine ⟨by rw [← hq2, ← hD], hD, by rw [← hD]; exact hdE_len l⟩
  have HX : Hid ((En.mk ((n : Int) + 1) tick who what D).ok ∧ Z.length = (En.mk ((n : Int) + 1) tick who what D).cells.length) := by
    have : (En.mk ((n : Int) + 1) tick who what D).ok := ⟨HV.out.2.2, by show (n : Int) + 1 ≤ _; omega, HM.out.2.2.2.1, by show who.size ≤ _; rw [hm1]; exact HM.out.2.2.2.2.2.2.1, by show what.size ≤ _; rw [hm2]; exact HM.out.2.2.2.2.2.2.2⟩
    exact ⟨this, by rw [HA.out.2.2.2.1, En.len zE_ok, En.len this]⟩
  have HHD : Hid (∀ V, W1.grownBy V (some r) → Blk V r 37 Z → Calls Tryd.prog 37 #[.pointer (some ⟨c, 0, none⟩)] V fun e V2 => e = .returned (.agg (U D).toArray) ∧ Below V.heap.size V V2) := by
    intro V hV hZ2
    have hbV := below_gr H1.out.1 hV HA.out.2.2.1
    exact head_is (HW.out.1.below hbV) (HW.out.2.1.below hbV) (HW.out.2.2.below hbV) D HV.out.2.1
  clear hq2 h3 h4 h5 hD
  go_wp2_with fail
  refine nx5 (sa := a) (n := n) (cap := cap) (D := D) (Z := Z) ⟨H1.out.2.2.2.2.2.lt, by have := HA.out.2.2.1; have := HA.out.2.2.2.2.2.2.2.1; simp; omega⟩ c0 HV.out.2.2 HX H1.out.2.1 qn HHD ?_
  intro W2 hx2 hg2
  have H2 : Hid (Blk W2 r 37 (En.mk ((n : Int) + 1) tick who what D).cells ∧ Below w.heap.size w W2) := ⟨hx2, below_gr H1.out.1 hg2 HA.out.2.2.1⟩
  clear hx2 hg2
  go_wp2
  refine ret_cu rfl rfl rfl H2.out.1 Tryd.underlying37 rfl (info37 HX.out.1) ⟨?_, H2.out.2⟩
  rw [HV.out.1]
  rfl
#print axioms next_is
end Go.Proofs.YtmmpafaegmejlaaDoor.Oct
