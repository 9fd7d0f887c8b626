/-
  Layer 9 (names): the law NamesParts.
-/
import Derived.Test.YthhdogokigpieaaPartsRange
import Derived.Test.YthhdogokigpieaaLives
namespace Go.Proofs.Ythhdogokigpieaa.Oct
open Go.RowKit Go.Shelf
attribute [local go_sem] Oper.semAt_some

set_option maxRecDepth 100000 in
set_option maxHeartbeats 8000000 in
theorem parts_path (s : ByteArray) (stop : Int) (w : World) (hn : s.size ≤ 10000) (hp : isPath s.data.toList = true) :
    Calls Try.prog 4 #[.string s, .int .i64 stop] w fun e w' => e = .returned (.bool true) ∧ Below w.heap.size w w' := by
  have HN5 : Hid (s.size ≤ 100000) := by show s.size ≤ 100000; omega
  have HN7 : Hid (s.size ≤ 140737488355328) := by show s.size ≤ _; omega
  have HP : Hid (isPath s.data.toList = true) := hp
  obtain ⟨n, hsn⟩ : ∃ n, s.size = n := ⟨_, rfl⟩
  obtain ⟨N, hNN⟩ : ∃ N, (pcs s).length = N := ⟨_, rfl⟩
  have HNN : Hid ((pcs s).length = N) := hNN
  have hN8 : (N : Int) ≤ 8 := by have := (pcs_few s hp).1; omega
  have hN1 : 1 ≤ N := by rw [← hNN]; exact pcs_pos s
  have q0 : (n : Int) ≤ 10000 := by omega
  obtain ⟨P, hPP⟩ : ∃ P, par s = P := ⟨_, rfl⟩
  obtain ⟨u, hUU⟩ : ∃ u, (!P.data.toList == []) = u := ⟨_, rfl⟩
  have HPP : Hid (par s = P) := hPP
  have HUU : Hid ((!P.data.toList == []) = u) := hUU
  clear hPP hUU
  have HB0 : Hid (Below w.heap.size w (((w.alloc (.cells #[.int .i64 stop] 3)).alloc (.cells #[.bool false] 4)).alloc (.cells #[.slice none 0 0] 24))) := (((Below.refl _ w).alloc (Nat.le_refl _) _).alloc (by simp) _).alloc (by simp; omega) _
  clear hn hp
  refine (callsIn_wide (n := 3)).1 ?_
  refine callsIn_of_wp_marks Try.func4 rfl trivial ?_ rfl
  simp only [Try.ntmps4, List.size_toArray, List.length_cons, List.length_nil, Nat.reduceAdd, Nat.reduceSub, Array.replicate_succ, Array.replicate_zero, List.push_toArray, List.append_toArray, List.nil_append, List.cons_append]
  gi_wp2_with (refine ⟨trivial, ?_⟩; gi_at_call 12; refine (callsIn_wide.2 (refPath_bb s true HP.out _ HN5.out)).mono ?_; rintro e w1 ⟨rfl, hB1⟩)
  obtain ⟨W0, hW0⟩ : ∃ W0, W0 = ((w.alloc (.cells #[.int .i64 stop] 3)).alloc (.cells #[.bool false] 4)).alloc (.cells #[.slice none 0 0] 24) := ⟨_, rfl⟩
  rw [← hW0] at hB1 HB0
  have hS0 : W0.heap.size = w.heap.size + 3 := by rw [hW0]; simp
  have b0 : Boxed W0 w.heap.size 3 (.int .i64 stop) := by rw [hW0]; exact ((Boxed.new w 3 _).alloc _).alloc _
  have b1 : Boxed W0 (w.heap.size + 1) 4 (.bool false) := by
    rw [hW0]
    have e := Boxed.new (w.alloc (.cells #[.int .i64 stop] 3)) 4 (.bool false)
    rw [World.size_alloc] at e
    exact e.alloc _
  have b2 : Boxed W0 (w.heap.size + 2) 24 (.slice none 0 0) := by
    rw [hW0]
    have e := Boxed.new ((w.alloc (.cells #[.int .i64 stop] 3)).alloc (.cells #[.bool false] 4)) 24 (.slice none 0 0)
    rw [World.size_alloc, World.size_alloc] at e
    exact e
  clear hW0
  refine ⟨trivial, ?_⟩
  refine (callsIn_wide.2 (refSplit_at s _ HN5.out)).mono ?_
  rintro e w2 ⟨g, c, rfl, HS2, HB2, HGE⟩
  rw [hNN]
  rw [hNN] at HS2
  have hB02 : Below W0.heap.size W0 w2 := hB1.trans (HB2.out.mono hB1.size)
  have c2 : Boxed w2 (w.heap.size + 2) 24 (.slice none 0 0) := (hB02.block _ (by omega)).trans b2
  have hf2 := c2.frozen
  have hc2 := c2.cell
  obtain ⟨_, _, hab, hg2, hel⟩ := HS2.out.2 (by omega)
  simp only [Option.some.injEq, Addr.mk.injEq] at hab
  obtain ⟨rfl, rfl, _⟩ := hab
  have HG0 : Hid (w.heap.size + 2 < g) := by
    have e1 := HGE.out
    have e2 := hB1.size
    show w.heap.size + 2 < g
    omega
  gi_wp2_with fail
  obtain ⟨W2, hW2⟩ : ∃ W2, W2 = w2.setCell ⟨w.heap.size + 1 + 1, 0, none⟩ (.slice (some ⟨g, 0, none⟩) N c) := ⟨_, rfl⟩
  rw [← hW2]
  have d0 : Boxed W2 w.heap.size 3 (.int .i64 stop) := by rw [hW2]; exact Boxed.other ((hB02.block _ (by omega)).trans b0) (by omega) _
  have d1 : Boxed W2 (w.heap.size + 1) 4 (.bool false) := by rw [hW2]; exact Boxed.other ((hB02.block _ (by omega)).trans b1) (by omega) _
  have d2 : Boxed W2 (w.heap.size + 2) 24 (.slice (some ⟨g, 0, none⟩) N c) := by rw [hW2]; exact c2.set _
  have d3 : ∀ i y, (pcs s)[i]? = some y → W2.cell? ⟨g, i, none⟩ = some (.string y) := by
    intro i y hy
    have e := hel i y hy
    rw [Nat.zero_add] at e
    rw [hW2]
    exact (cell_far w2 g i _ _ (by have := HG0.out; omega)).trans e
  have d4 : Below w.heap.size w W2 := by
    rw [hW2]
    exact (HB0.out.trans (hB02.mono (by omega))).setCell (p := ⟨w.heap.size + 1 + 1, 0, none⟩) (by simp; omega) _
  have hsz2 : W2.heap.size = w2.heap.size := by rw [hW2]; simp
  have HGS : Hid (g < W2.heap.size) := by show g < W2.heap.size; rw [hsz2]; exact hg2
  clear hW2 hf2 hc2 c2 hB02 hB1 b0 b1 b2 hel HS2 HB2 HGE hg2 hsz2 HB0 hS0
  refine ⟨trivial, ?_⟩
  refine (callsIn_wide.2 (parts_yes s HP.out _ HN7.out)).mono ?_
  rintro e W3 ⟨b, rfl, HBX, HLE, HSZ, hB3⟩
  have HD : Hid (Stay w s stop N g c b (b + 1) 0 (W3.alloc (.cells #[.int .i64 0] 3))) := by
    have hle : w.heap.size + 2 < W2.heap.size := by have := (Array.getElem?_eq_some_iff.1 d2).1; omega
    have hb3 := HLE.out
    refine ⟨Boxed.alloc ((hB3.block _ (by omega)).trans d0) _, Boxed.alloc ((hB3.block _ (by omega)).trans d1) _, Boxed.alloc ((hB3.block _ hle).trans d2) _, Boxed.alloc HBX.out _, ?_, ?_, ?_⟩
    · have e := Boxed.new W3 3 (.int .i64 0)
      rw [HSZ.out] at e
      exact e
    · intro i y hy
      have e := (hB3.cell (p := ⟨g, i, none⟩) HGS.out).trans (d3 i y hy)
      have hbl := Below.refl W3.heap.size W3
      exact ((hbl.alloc (Nat.le_refl _) (.cells #[.int .i64 0] 3)).cell (p := ⟨g, i, none⟩) (World.block_lt_of_cell? W3 _ e)).trans e
    · exact (d4.trans (hB3.mono d4.size)).alloc (d4.trans (hB3.mono d4.size)).size _
  have HGB : Hid (g < b) := by have := HGS.out; have := HLE.out; show g < b; omega
  have HWB : Hid (w.heap.size + 2 < b) := by have := HG0.out; have := HGB.out; show w.heap.size + 2 < b; omega
  clear d0 d1 d2 d3 d4 hB3 HBX HLE HGS
  have hnil := not_nil30 b
  gi_wp2_with fail
  rw [HSZ.out]
  obtain ⟨WL, hWL⟩ : ∃ WL, WL = W3.alloc (.cells #[.int .i64 0] 3) := ⟨_, rfl⟩
  have HSL : Hid (WL.heap.size = b + 2) := by have := HSZ.out; show WL.heap.size = b + 2; rw [hWL]; simp; omega
  rw [← hWL] at HD ⊢
  clear hWL HSZ
  refine wpIn_loop_rounds 3 ?_
  rw [roundsIn_succ]
  have hk0 := HD.out.kk.cell
  gi_wp2_with fail
  rw [HSL.out]
  obtain ⟨W8, hW8⟩ : ∃ W8, W8 = WL.alloc (.cells #[.int .i64 0] 3) := ⟨_, rfl⟩
  rw [← hW8]
  have D8 : Stay w s stop N g c b (b + 1) 0 W8 := by
    rw [hW8]
    exact HD.out.below ((Below.refl WL.heap.size WL).alloc (Nat.le_refl _) _) (by have := HSL.out; have := HWB.out; omega) (by have := HSL.out; have := HGB.out; omega) (by have := HSL.out; omega) (by have := HSL.out; omega)
  have hB8 : Boxed W8 (b + 2) 3 (.int .i64 0) := by
    rw [hW8, ← HSL.out]; exact Boxed.new WL 3 _
  have hS8 : W8.heap.size = b + 2 + 1 := by rw [hW8]; simp; exact HSL.out
  clear hW8 hk0 hnil HD
  refine parts_range (k := 0) (.inl rfl) hNN hN8 HN7.out D8 hB8 hS8 HGB.out HWB.out (by omega) (by omega) ?_
  rintro e W he ⟨v, hv, hvv⟩ hst _ hsz hK
  refine inBlock_leave he ?_
  have HST : Hid (Stay w s stop N g c b (b + 1) 0 W) := hst
  have HK1 : Hid (W.heap[W8.heap.size]? = some (.deferred (some []))) := hK
  have HZ1 : Hid (W8.heap.size + 1 ≤ W.heap.size) := hsz
  have HS8 : Hid (W8.heap.size = b + 2 + 1) := hS8
  have cv := hv.cell
  have cw := hst.wa.cell
  have ck := hst.kk.cell
  have cs := hst.st.cell
  clear D8 hB8 hst hK hsz hv he hS8
  rcases hvv with rfl | ⟨_, rfl, m, hm⟩
  · gi_wp2_with fail
    all_goals (
      rw [roundsIn_succ]
      obtain ⟨WM, hWM⟩ : ∃ WM, WM = W.alloc (.cells #[.int .i64 1] 3) := ⟨_, rfl⟩
      rw [← hWM]
      have HDM := HST.out.next 1 HGB.out HWB.out
      rw [← hWM] at HDM
      have HBW : Hid (b < W.heap.size) := (Array.getElem?_eq_some_iff.1 HST.out.each).1
      have HSM : Hid (WM.heap.size = W.heap.size + 1) := by show WM.heap.size = W.heap.size + 1; rw [hWM]; simp
      have HKM : Hid (WM.heap[W8.heap.size]? = some (.deferred (some []))) := by
        show WM.heap[W8.heap.size]? = _
        rw [hWM]
        exact (Below.heap_alloc _ _ _ (by have := HZ1.out; omega)).trans HK1.out
      have HDMH : Hid (Stay w s _ N g c b W.heap.size 1 WM) := HDM
      have hk1 := HDM.kk.cell
      clear hWM HDM cv cw ck cs
      gi_wp2_with fail
      rw [HSM.out]
      obtain ⟨W9, hW9⟩ : ∃ W9, W9 = WM.alloc (.cells #[.int .i64 0] 3) := ⟨_, rfl⟩
      rw [← hW9]
      have D9 := HDMH.out.more (.cells #[.int .i64 0] 3) HGB.out HWB.out
      have hB9 := Boxed.new WM 3 (.int .i64 0)
      rw [← hW9] at D9 hB9
      rw [HSM.out] at hB9
      have hS9 : W9.heap.size = W.heap.size + 1 + 1 := by rw [hW9]; simp; exact HSM.out
      have HK9 : Hid (W9.heap[W8.heap.size]? = some (.deferred (some []))) := by
        show W9.heap[W8.heap.size]? = _
        rw [hW9]
        exact (Below.heap_alloc _ _ _ (by have := HZ1.out; have := HSM.out; omega)).trans HKM.out
      clear hW9 hk1
      refine parts_range (k := 1) (.inr rfl) hNN hN8 HN7.out D9 hB9 hS9 HGB.out HWB.out HBW.out (by omega) ?_
      rintro e V he ⟨v, hv, hvv⟩ hst hbl hsz hK
      refine inBlock_leave he ?_
      obtain rfl : v = (N : Int) := by
        rcases hvv with h | ⟨h, _⟩
        · exact h
        · omega
      have HKA : Hid (V.heap[W8.heap.size]? = some (.deferred (some []))) := (hbl.block _ (by have := HZ1.out; omega)).trans HK9.out
      have HKB : Hid (V.heap[W9.heap.size]? = some (.deferred (some []))) := hK
      have HSTV : Hid (Stay w s _ N g c b W.heap.size 1 V) := hst
      have HW9 : Hid (W9.heap.size = W.heap.size + 1 + 1) := hS9
      have cv := hv.cell
      have cw := hst.wa.cell
      have ck := hst.kk.cell
      have cs := hst.st.cell
      clear D9 hB9 hst hK hsz hv he hS9 hvv hbl HK9 HKM HDMH
      gi_wp2_with fail
      rw [roundsIn_succ]
      obtain ⟨VM, hVM⟩ : ∃ VM, VM = V.alloc (.cells #[.int .i64 2] 3) := ⟨_, rfl⟩
      rw [← hVM]
      have HDV := HSTV.out.next 2 HGB.out HWB.out
      rw [← hVM] at HDV
      have HVA : Hid (VM.heap[W8.heap.size]? = some (.deferred (some []))) := by
        show VM.heap[W8.heap.size]? = _
        rw [hVM]; exact (Below.heap_alloc _ _ _ (Array.getElem?_eq_some_iff.1 HKA.out).1).trans HKA.out
      have HVB : Hid (VM.heap[W9.heap.size]? = some (.deferred (some []))) := by
        show VM.heap[W9.heap.size]? = _
        rw [hVM]; exact (Below.heap_alloc _ _ _ (Array.getElem?_eq_some_iff.1 HKB.out).1).trans HKB.out
      have HDVH : Hid (Stay w s _ N g c b V.heap.size 2 VM) := HDV
      have hk2 := HDV.kk.cell
      clear hVM HDV cv cw ck cs
      gi_wp2_with (first
        | (refine ⟨trivial, ?_⟩; gi_at_call 15; refine (callsIn_wide.2 (parent_b s P u HPP.out HUU.out _ HN7.out)).mono ?_; rintro e V1 ⟨rfl, hB⟩; have HV1 : Hid (Below VM.heap.size VM V1) := hB; clear hB)
        | (refine ⟨trivial, ?_⟩; gi_at_call 16; refine (callsIn_wide.2 (refParent_b s P u HPP.out HUU.out _ HN5.out)).mono ?_; rintro e V2 ⟨rfl, hB⟩; have HV2 : Hid (Below VM.heap.size VM V2) := HV1.out.trans (hB.mono HV1.out.size); clear hB)
        | (refine ⟨trivial, ?_⟩; gi_at_call 8; refine (callsIn_wide.2 (lives_is _)).mono ?_; rintro e V3 ⟨rfl, hB⟩; have HV3 : Hid (Below VM.heap.size VM V3) := HV2.out.trans (hB.mono HV2.out.size); have hre := boxed_kept HDVH.out.re HV3.out; have hrc := hre.cell; have hrf := hre.frozen; clear hB))
      exact parts_end (HDVH.out.be.trans (HV3.out.mono HDVH.out.be.size)) hre ((HV3.out.block _ (Array.getElem?_eq_some_iff.1 HVA.out).1).trans HVA.out) ((HV3.out.block _ (Array.getElem?_eq_some_iff.1 HVB.out).1).trans HVB.out) (by have := HW9.out; have := HZ1.out; omega) (by have := HS8.out; have := HWB.out; omega) (by have := HW9.out; have := HBW.out; have := HWB.out; omega) rfl)
  · by_cases hmN : v = (N : Int)
    · subst hmN
      gi_wp2_with fail
      all_goals (
        rw [roundsIn_succ]
        obtain ⟨WM, hWM⟩ : ∃ WM, WM = W.alloc (.cells #[.int .i64 1] 3) := ⟨_, rfl⟩
        rw [← hWM]
        have HDM := HST.out.next 1 HGB.out HWB.out
        rw [← hWM] at HDM
        have HBW : Hid (b < W.heap.size) := (Array.getElem?_eq_some_iff.1 HST.out.each).1
        have HSM : Hid (WM.heap.size = W.heap.size + 1) := by show WM.heap.size = W.heap.size + 1; rw [hWM]; simp
        have HKM : Hid (WM.heap[W8.heap.size]? = some (.deferred (some []))) := by
          show WM.heap[W8.heap.size]? = _
          rw [hWM]
          exact (Below.heap_alloc _ _ _ (by have := HZ1.out; omega)).trans HK1.out
        have HDMH : Hid (Stay w s _ N g c b W.heap.size 1 WM) := HDM
        have hk1 := HDM.kk.cell
        clear hWM HDM cv cw ck cs
        gi_wp2_with fail
        rw [HSM.out]
        obtain ⟨W9, hW9⟩ : ∃ W9, W9 = WM.alloc (.cells #[.int .i64 0] 3) := ⟨_, rfl⟩
        rw [← hW9]
        have D9 := HDMH.out.more (.cells #[.int .i64 0] 3) HGB.out HWB.out
        have hB9 := Boxed.new WM 3 (.int .i64 0)
        rw [← hW9] at D9 hB9
        rw [HSM.out] at hB9
        have hS9 : W9.heap.size = W.heap.size + 1 + 1 := by rw [hW9]; simp; exact HSM.out
        have HK9 : Hid (W9.heap[W8.heap.size]? = some (.deferred (some []))) := by
          show W9.heap[W8.heap.size]? = _
          rw [hW9]
          exact (Below.heap_alloc _ _ _ (by have := HZ1.out; have := HSM.out; omega)).trans HKM.out
        clear hW9 hk1
        refine parts_range (k := 1) (.inr rfl) hNN hN8 HN7.out D9 hB9 hS9 HGB.out HWB.out HBW.out (by omega) ?_
        rintro e V he ⟨v, hv, hvv⟩ hst hbl hsz hK
        refine inBlock_leave he ?_
        obtain rfl : v = (N : Int) := by
          rcases hvv with h | ⟨h, _⟩
          · exact h
          · omega
        have HKA : Hid (V.heap[W8.heap.size]? = some (.deferred (some []))) := (hbl.block _ (by have := HZ1.out; omega)).trans HK9.out
        have HKB : Hid (V.heap[W9.heap.size]? = some (.deferred (some []))) := hK
        have HSTV : Hid (Stay w s _ N g c b W.heap.size 1 V) := hst
        have HW9 : Hid (W9.heap.size = W.heap.size + 1 + 1) := hS9
        have cv := hv.cell
        have cw := hst.wa.cell
        have ck := hst.kk.cell
        have cs := hst.st.cell
        clear D9 hB9 hst hK hsz hv he hS9 hvv hbl HK9 HKM HDMH
        gi_wp2_with fail
        rw [roundsIn_succ]
        obtain ⟨VM, hVM⟩ : ∃ VM, VM = V.alloc (.cells #[.int .i64 2] 3) := ⟨_, rfl⟩
        rw [← hVM]
        have HDV := HSTV.out.next 2 HGB.out HWB.out
        rw [← hVM] at HDV
        have HVA : Hid (VM.heap[W8.heap.size]? = some (.deferred (some []))) := by
          show VM.heap[W8.heap.size]? = _
          rw [hVM]; exact (Below.heap_alloc _ _ _ (Array.getElem?_eq_some_iff.1 HKA.out).1).trans HKA.out
        have HVB : Hid (VM.heap[W9.heap.size]? = some (.deferred (some []))) := by
          show VM.heap[W9.heap.size]? = _
          rw [hVM]; exact (Below.heap_alloc _ _ _ (Array.getElem?_eq_some_iff.1 HKB.out).1).trans HKB.out
        have HDVH : Hid (Stay w s _ N g c b V.heap.size 2 VM) := HDV
        have hk2 := HDV.kk.cell
        clear hVM HDV cv cw ck cs
        gi_wp2_with (first
          | (refine ⟨trivial, ?_⟩; gi_at_call 15; refine (callsIn_wide.2 (parent_b s P u HPP.out HUU.out _ HN7.out)).mono ?_; rintro e V1 ⟨rfl, hB⟩; have HV1 : Hid (Below VM.heap.size VM V1) := hB; clear hB)
          | (refine ⟨trivial, ?_⟩; gi_at_call 16; refine (callsIn_wide.2 (refParent_b s P u HPP.out HUU.out _ HN5.out)).mono ?_; rintro e V2 ⟨rfl, hB⟩; have HV2 : Hid (Below VM.heap.size VM V2) := HV1.out.trans (hB.mono HV1.out.size); clear hB)
          | (refine ⟨trivial, ?_⟩; gi_at_call 8; refine (callsIn_wide.2 (lives_is _)).mono ?_; rintro e V3 ⟨rfl, hB⟩; have HV3 : Hid (Below VM.heap.size VM V3) := HV2.out.trans (hB.mono HV2.out.size); have hre := boxed_kept HDVH.out.re HV3.out; have hrc := hre.cell; have hrf := hre.frozen; clear hB))
        exact parts_end (HDVH.out.be.trans (HV3.out.mono HDVH.out.be.size)) hre ((HV3.out.block _ (Array.getElem?_eq_some_iff.1 HVA.out).1).trans HVA.out) ((HV3.out.block _ (Array.getElem?_eq_some_iff.1 HVB.out).1).trans HVB.out) (by have := HW9.out; have := HZ1.out; omega) (by have := HS8.out; have := HWB.out; omega) (by have := HW9.out; have := HBW.out; have := HWB.out; omega) rfl)
    · have e1 : (v == (N : Int)) = false := by simpa using hmN
      have e2 : (v != (N : Int)) = true := by simpa using hmN
      clear hmN
      gi_wp2_with fail
      all_goals (
        rw [roundsIn_succ]
        obtain ⟨WM, hWM⟩ : ∃ WM, WM = W.alloc (.cells #[.int .i64 1] 3) := ⟨_, rfl⟩
        rw [← hWM]
        have HDM := HST.out.next 1 HGB.out HWB.out
        rw [← hWM] at HDM
        have HBW : Hid (b < W.heap.size) := (Array.getElem?_eq_some_iff.1 HST.out.each).1
        have HSM : Hid (WM.heap.size = W.heap.size + 1) := by show WM.heap.size = W.heap.size + 1; rw [hWM]; simp
        have HKM : Hid (WM.heap[W8.heap.size]? = some (.deferred (some []))) := by
          show WM.heap[W8.heap.size]? = _
          rw [hWM]
          exact (Below.heap_alloc _ _ _ (by have := HZ1.out; omega)).trans HK1.out
        have HDMH : Hid (Stay w s _ N g c b W.heap.size 1 WM) := HDM
        have hk1 := HDM.kk.cell
        clear hWM HDM cv cw ck cs
        gi_wp2_with fail
        rw [HSM.out]
        obtain ⟨W9, hW9⟩ : ∃ W9, W9 = WM.alloc (.cells #[.int .i64 0] 3) := ⟨_, rfl⟩
        rw [← hW9]
        have D9 := HDMH.out.more (.cells #[.int .i64 0] 3) HGB.out HWB.out
        have hB9 := Boxed.new WM 3 (.int .i64 0)
        rw [← hW9] at D9 hB9
        rw [HSM.out] at hB9
        have hS9 : W9.heap.size = W.heap.size + 1 + 1 := by rw [hW9]; simp; exact HSM.out
        have HK9 : Hid (W9.heap[W8.heap.size]? = some (.deferred (some []))) := by
          show W9.heap[W8.heap.size]? = _
          rw [hW9]
          exact (Below.heap_alloc _ _ _ (by have := HZ1.out; have := HSM.out; omega)).trans HKM.out
        clear hW9 hk1
        refine parts_range (k := 1) (.inr rfl) hNN hN8 HN7.out D9 hB9 hS9 HGB.out HWB.out HBW.out (by omega) ?_
        rintro e V he ⟨v, hv, hvv⟩ hst hbl hsz hK
        refine inBlock_leave he ?_
        obtain rfl : v = (N : Int) := by
          rcases hvv with h | ⟨h, _⟩
          · exact h
          · omega
        have HKA : Hid (V.heap[W8.heap.size]? = some (.deferred (some []))) := (hbl.block _ (by have := HZ1.out; omega)).trans HK9.out
        have HKB : Hid (V.heap[W9.heap.size]? = some (.deferred (some []))) := hK
        have HSTV : Hid (Stay w s _ N g c b W.heap.size 1 V) := hst
        have HW9 : Hid (W9.heap.size = W.heap.size + 1 + 1) := hS9
        have cv := hv.cell
        have cw := hst.wa.cell
        have ck := hst.kk.cell
        have cs := hst.st.cell
        clear D9 hB9 hst hK hsz hv he hS9 hvv hbl HK9 HKM HDMH
        gi_wp2_with fail
        rw [roundsIn_succ]
        obtain ⟨VM, hVM⟩ : ∃ VM, VM = V.alloc (.cells #[.int .i64 2] 3) := ⟨_, rfl⟩
        rw [← hVM]
        have HDV := HSTV.out.next 2 HGB.out HWB.out
        rw [← hVM] at HDV
        have HVA : Hid (VM.heap[W8.heap.size]? = some (.deferred (some []))) := by
          show VM.heap[W8.heap.size]? = _
          rw [hVM]; exact (Below.heap_alloc _ _ _ (Array.getElem?_eq_some_iff.1 HKA.out).1).trans HKA.out
        have HVB : Hid (VM.heap[W9.heap.size]? = some (.deferred (some []))) := by
          show VM.heap[W9.heap.size]? = _
          rw [hVM]; exact (Below.heap_alloc _ _ _ (Array.getElem?_eq_some_iff.1 HKB.out).1).trans HKB.out
        have HDVH : Hid (Stay w s _ N g c b V.heap.size 2 VM) := HDV
        have hk2 := HDV.kk.cell
        clear hVM HDV cv cw ck cs
        gi_wp2_with (first
          | (refine ⟨trivial, ?_⟩; gi_at_call 15; refine (callsIn_wide.2 (parent_b s P u HPP.out HUU.out _ HN7.out)).mono ?_; rintro e V1 ⟨rfl, hB⟩; have HV1 : Hid (Below VM.heap.size VM V1) := hB; clear hB)
          | (refine ⟨trivial, ?_⟩; gi_at_call 16; refine (callsIn_wide.2 (refParent_b s P u HPP.out HUU.out _ HN5.out)).mono ?_; rintro e V2 ⟨rfl, hB⟩; have HV2 : Hid (Below VM.heap.size VM V2) := HV1.out.trans (hB.mono HV1.out.size); clear hB)
          | (refine ⟨trivial, ?_⟩; gi_at_call 8; refine (callsIn_wide.2 (lives_is _)).mono ?_; rintro e V3 ⟨rfl, hB⟩; have HV3 : Hid (Below VM.heap.size VM V3) := HV2.out.trans (hB.mono HV2.out.size); have hre := boxed_kept HDVH.out.re HV3.out; have hrc := hre.cell; have hrf := hre.frozen; clear hB))
        exact parts_end (HDVH.out.be.trans (HV3.out.mono HDVH.out.be.size)) hre ((HV3.out.block _ (Array.getElem?_eq_some_iff.1 HVA.out).1).trans HVA.out) ((HV3.out.block _ (Array.getElem?_eq_some_iff.1 HVB.out).1).trans HVB.out) (by have := HW9.out; have := HZ1.out; omega) (by have := HS8.out; have := HWB.out; omega) (by have := HW9.out; have := HBW.out; have := HWB.out; omega) rfl)
#print axioms parts_path
end Go.Proofs.Ythhdogokigpieaa.Oct
