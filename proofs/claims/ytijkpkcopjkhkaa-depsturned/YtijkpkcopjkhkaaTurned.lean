/-
  Layer 12 (deps): DepsTurned.
-/
import Derived.Test.YtijkpkcopjkhkaaTurnedReg
import Derived.Test.YtijkpkcopjkhkaaRot
import Derived.Test.YtijkpkcopjkhkaaBehind
namespace Go.Proofs.Ytijkpkcopjkhkaa.Oct
open Go.RowKit

theorem rev_take {ds : List Hs} {j r : Nat} {d : Hs} (hr : ds.length = j + r + 1) (hd : ds[r]? = some d) : ds.reverse.take (j + 1) = ds.reverse.take j ++ [d] := by
  rw [List.take_add_one]
  have : ds.reverse[j]? = some d := by
    rw [List.getElem?_reverse (by omega)]
    rw [show ds.length - 1 - j = r by omega]
    exact hd
  rw [this]; rfl
theorem Alike.refl (l : List It) : Alike l l := ⟨rfl, Iff.rfl, fun _ => Iff.rfl, fun _ _ => Iff.rfl⟩

set_option maxRecDepth 100000 in
set_option maxHeartbeats 4000000 in
theorem turned_law (l : List It) (a : Option Addr) (len cap : Nat) (t : Int) (h : Hs) (w : World) (hi : Its w a len l) (hc : len ≤ cap ∧ cap ≤ maxLen) (hl : h.length = 32) :
    Calls Try.prog 6 #[.slice a len cap, .int .i64 t, .agg (U h).toArray] w (Law w) := by
  obtain ⟨W, hW⟩ : ∃ W, w.alloc (.cells (U h).toArray 34) = W := ⟨_, rfl⟩
  have HB : Hid (Below w.heap.size w W ∧ W.rangeAt w.heap.size 0 (U h) ∧ w.heap.size < W.heap.size) := ⟨by rw [← hW]; exact (Below.refl _ w).alloc (Nat.le_refl _) _, by rw [← hW]; exact new34 w h, by rw [← hW]; simp⟩
  have HW : Hid (w.alloc (.cells (U h).toArray 34) = W) := hW
  have HI : Hid (Its W a len l ∧ h.length = 32 ∧ l.length = len) := ⟨hi.below HB.out.1, hl, hi.1⟩
  have H8 : Hid (Calls Try.prog 8 #[.slice a len cap] W (LightP W len l)) := light_is W a len cap l (hi.below HB.out.1) hc
  have q5 : (len : Int) ≤ 9223372036854775807 := by have h1 := hc.1; have h2 := hc.2; unfold maxLen at h2; omega
  clear hW hi hl hc
  go_enter Try.func6, Try.ntmps6
  go_wp2_with fail
  rw [HW.out]
  refine H8.out.mono ?_
  rintro e w' ⟨b, rfl, HL, rfl⟩
  cases b with
  | false =>
    go_wp2_with fail
    refine (lives_is W).mono ?_
    rintro e w1 ⟨rfl, HB1⟩
    go_wp2
    go_ret
    exact ⟨rfl, HB.out.1.trans (HB1.out.mono HB.out.1.size)⟩
  | true =>
    by_cases h60 : 60 < len
    · have q1 : (60 : Int) < (len : Int) := by omega
      clear h60
      go_wp2_with fail
      refine (lives_is W).mono ?_
      rintro e w1 ⟨rfl, HB1⟩
      go_wp2
      go_ret
      exact ⟨rfl, HB.out.1.trans (HB1.out.mono HB.out.1.size)⟩
    · have q1 : ¬ (60 : Int) < (len : Int) := by omega
      have HM : Hid (len ≤ 60 ∧ many l ≤ 90000) := ⟨by omega, by have := (HL.out rfl).2; omega⟩
      obtain ⟨Z, hZl, hZ⟩ := zero36
      have HZ : Hid (Z.length = 33) := hZl
      have hU : 0 ≤ IntKind.u64.wrap t := by simp [IntKind.wrap, IntKind.signed, IntKind.bits]; omega
      obtain ⟨k, hk⟩ : ∃ k : Nat, len ≠ 0 → (IntKind.u64.wrap t).tmod (len : Int) = (k : Int) ∧ k < len := ⟨((IntKind.u64.wrap t).tmod (len : Int)).toNat, fun h0 => by
        have h1 : 0 ≤ (IntKind.u64.wrap t).tmod (len : Int) := Int.tmod_nonneg _ hU
        have h2 := Int.tmod_lt_of_pos (IntKind.u64.wrap t) (show (0 : Int) < (len : Int) by omega)
        exact ⟨by omega, by omega⟩⟩
      have HKK : Hid (len ≠ 0 → (IntKind.u64.wrap t).tmod (len : Int) = (k : Int) ∧ k < len) := hk
      clear h60 hZl hk hU
      go_wp2
      go_loopw [27, 7] (fun u v wr => ∃ (i : Nat) (p : Option Addr) (c : Nat) (ms : List It), u = .int .i64 (i : Int) ∧ v = .slice p i c ∧ Hid (i ≤ len ∧ Below W.heap.size W wr ∧ MRow wr p i ms ∧ ms.map kd = ((rotL l k i).map kr).reverse)) (fun u _ _ => len - (intOf u).toNat)
      case atStart => exact ⟨0, none, 0, [], rfl, rfl, ⟨Nat.zero_le _, Below.refl _ _, MRow.nil _ _, by simp [rotL]⟩⟩
      case round =>
        obtain ⟨i, pm, cm, ms, rfl, rfl, HJ⟩ := hrel
        by_cases hin : i < len
        · have hk := HKK.out (by omega)
          have q2 := hk.1
          have q3 : (k : Int) < (len : Int) := by omega
          have q4 : (i : Int) < (len : Int) := by omega
          obtain ⟨f, hf⟩ : ∃ f, rotN len k i = f := ⟨_, rfl⟩
          have hfl : f < len := by rw [← hf]; exact Nat.mod_lt _ (by omega)
          have q6 : ((i : Int) + (k : Int)).tmod (len : Int) = (f : Int) := by
            rw [← hf, ← Int.natCast_add]; exact (Int.ofNat_tmod (i + k) len).symm
          have q7 : (f : Int) < (len : Int) := by omega
          obtain ⟨x, hx⟩ : ∃ x, l[f]? = some x := ⟨_, List.getElem?_eq_getElem (by rw [HI.out.2.2]; exact hfl)⟩
          obtain ⟨b, off, rfl, hb, hel⟩ := HI.out.1.2 (by omega)
          have HX : Hid (i < len ∧ l[rotN l.length k i]? = some x ∧ x.name.length = 32) := ⟨hin, by rw [HI.out.2.2, hf]; exact hx, (hel f x hx).1⟩
          have HRA : Hid (wr.rangeAt b (off + f * 33) x.cells) := rangeAt_same (hel f x hx).2.1 (HJ.out.2.1.block b hb)
          have HDW : Hid (HsR W x.a x.n x.deps) := (hel f x hx).2.2.1
          have HXN : Hid (x.n ≤ 90000) := by show _ ≤ _; have h1 := dep_le l f x hx; have h2 := HDW.out.1; have h3 := HM.out.2; omega
          have hdp := cells_dep wr x (hel f x hx).1
          clear hel hx hin hb hfl hf hk
          go_wp2_with (first
            | (with_reducible change wpList _ _ _ ({ dst := some 44, op := _, type := _, pos := _, after := _, guard := _ } :: _) _ _
               refine wpList_load_mid rfl 36 (.tmp 43) rfl b (off + f * 33) rfl x.cells _ HRA.out Try.underlying36 rfl (info36 x HX.out.2.2) ?_)
            | (with_reducible change wpList _ _ _ ({ dst := none, op := Op.store 36 _ _, type := _, pos := _, after := _, guard := _ } :: _) _ _
               refine wpList_store_fresh rfl 36 (.tmp 9) (.tmp 44) rfl Z x.cells 36 rfl rfl (by rw [x.cells_length HX.out.2.2, HZ.out]) (info36 x HX.out.2.2) (cells_one x) ?_)
            | fail)
          obtain ⟨V, hV⟩ : ∃ V, wr.alloc (.cells x.cells.toArray 36) = V := ⟨_, rfl⟩
          obtain ⟨xb, hxb⟩ : ∃ xb, wr.heap.size = xb := ⟨_, rfl⟩
          have HV : Hid (Below W.heap.size W V ∧ Blk V xb 36 x.cells ∧ MRow V pm i ms) := by
            have h1 : Below wr.heap.size wr V := by rw [← hV]; exact (Below.refl _ wr).alloc (Nat.le_refl _) _
            refine ⟨bt HJ.out.2.1 h1, ?_, HJ.out.2.2.1.below h1⟩
            rw [← hV, ← hxb]
            simpa using Blk.new wr x.cells.toArray 36
          rw [hV, hxb]
          clear hV hxb HRA hdp q2 q3 q6 q7
          obtain ⟨W1, hW1⟩ : ∃ W1, W1 = wr := ⟨_, rfl⟩
          subst hW1
          have q8 : (x.n : Int) ≤ 90000 := by have := HXN.out; omega
          go_loopw [48, 10] (fun u v wr => ∃ (j : Nat) (pd : Option Addr) (cd : Nat), u = .int .i64 (j : Int) ∧ v = .slice pd j cd ∧ Hid (j ≤ x.n ∧ Below V.heap.size V wr ∧ wr.ownsRow V.heap.size 34 32 (.slice pd j cd) j (UU (x.deps.reverse.take j)))) (fun u _ _ => x.n - (intOf u).toNat)
          case atStart => exact ⟨0, none, 0, rfl, rfl, ⟨Nat.zero_le _, Below.refl _ _, ⟨by simp [UU], .inl ⟨rfl, rfl⟩⟩⟩⟩
          case round =>
            obtain ⟨j, pd, cd, rfl, rfl, HK⟩ := hrel
            have HDL : Hid (x.deps.length = x.n ∧ ∀ d ∈ x.deps, d.length = 32) := ⟨HDW.out.1, HDW.out.2.1⟩
            by_cases hj : j < x.n
            · obtain ⟨r, hr⟩ : ∃ r, x.n = j + r + 1 := ⟨x.n - 1 - j, by omega⟩
              obtain ⟨d, hd⟩ : ∃ d, x.deps[r]? = some d := ⟨_, List.getElem?_eq_getElem (by rw [HDL.out.1]; omega)⟩
              obtain ⟨g2, off2, hxa, hg2, hel2⟩ := HDW.out.2.2 (by omega)
              have HBW : Hid (Below W.heap.size W wr) := bt HV.out.1 HK.out.2.1
              have HD : Hid (j < x.n ∧ d.length = 32 ∧ wr.rangeAt g2 (off2 + r * 32) (U d) ∧ x.deps.length = j + r + 1 ∧ x.deps[r]? = some d) := ⟨hj, HDL.out.2 d (List.mem_of_getElem? hd), rangeAt_same (hel2 r d hd) (HBW.out.block g2 hg2), by rw [HDL.out.1]; exact hr, hd⟩
              have c32 : wr.cell? ⟨xb, 32, none⟩ = some (.slice (some ⟨g2, off2, none⟩) x.n x.c) := by
                rw [← hxa]
                refine (HV.out.2.1.below HK.out.2.1 HV.out.2.1.lt).cell ?_
                simp [It.cells, U_length, HX.out.2.2]
              have e1 : (x.n : Int) - 1 - (j : Int) = (r : Int) := by omega
              have q9 : (j : Int) < (x.n : Int) := by omega
              have q10 : (r : Int) < (x.n : Int) := by omega
              clear hj hd hel2 hr hxa
              go_wp2_with (first
                | (with_reducible change wpList _ _ _ ({ dst := some 61, op := _, type := _, pos := _, after := _, guard := _ } :: _) _ _
                   refine wpList_load_mid rfl 34 (.tmp 60) rfl g2 (off2 + r * 32) rfl (U d) _ HD.out.2.2.1 Try.underlying34 rfl (info34 d HD.out.2.1) ?_)
                | (with_reducible change wpList _ _ _ ({ dst := some 62, op := _, type := _, pos := _, after := _, guard := _ } :: _) _ _
                   refine wpList_bslice1 rfl (.tmp 61) rfl d HD.out.2.1 rfl ?_)
                | (with_reducible change wpList _ _ _ ({ dst := some 63, op := _, type := _, pos := _, after := _, guard := _ } :: _) _ _
                   refine Hid.out ?_)
                | fail)
              show wpList _ _ _ _ _ _
              have HB6 : Hid (Below V.heap.size V (wr.alloc (.cells (U d).toArray 34))) := bt HK.out.2.1 ((Below.refl _ wr).alloc (Nat.le_refl _) _)
              refine wpList_app rfl (.tmp 51) (.tmp 62) rfl V.heap.size (.slice pd j cd) j (x.deps.reverse.take j) (some ⟨wr.heap.size, 0, none⟩) 1 1 [d] rfl rfl (HK.out.2.2.alloc _) (HsR.one wr d HD.out.2.1) (by have := HXN.out; have := HD.out.1; omega) HB6.out.size ?_
              intro v' w' r1 r2 r3
              have HB7 : Hid (Below V.heap.size V w') := below_row HB6.out r2 (HK.out.2.2.alloc _)
              rw [← rev_take HD.out.2.2.2.1 HD.out.2.2.2.2] at r1
              obtain ⟨pd', cd', rfl, _, _, _⟩ := own_read r1 (fun y hy => HDL.out.2 y (by simpa using List.mem_of_mem_take hy))
              have HR1 : Hid (w'.ownsRow V.heap.size 34 32 (.slice pd' (j + 1) cd') (j + 1) (UU (x.deps.reverse.take (j + 1)))) := r1
              clear r1 r2 r3
              simp only [Act.put, List.setIfInBounds_toArray, List.set_cons_zero, List.set_cons_succ]
              go_wp2
              refine ⟨⟨j + 1, pd', cd', by simp, rfl, ⟨HD.out.1, HB7.out, HR1.out⟩⟩, ?_⟩
              have := HD.out.1; simp [intOf]; omega
            · have q9 : ¬ (j : Int) < (x.n : Int) := by omega
              have HJN : Hid (j = x.n ∧ wr.rangeAt xb 0 (U x.name)) := ⟨by have := HK.out.1; omega, (HV.out.2.1.below HK.out.2.1 HV.out.2.1.lt).name⟩
              clear hj
              have HY : Hid (HsR wr pd j x.deps.reverse ∧ j ≤ cd) := by
                have h1 := HK.out.2.2
                rw [List.take_of_length_le (by rw [List.length_reverse, HDL.out.1, HJN.out.1]; exact Nat.le_refl _)] at h1
                obtain ⟨a', c', e, h2, h3, _⟩ := own_read h1 (fun y hy => HDL.out.2 y (by simpa using hy))
                cases e
                exact ⟨h2, h3⟩
              go_wp2_with (first
                | (with_reducible change wpList _ _ _ ({ dst := some 66, op := _, type := _, pos := _, after := _, guard := _ } :: _) _ _
                   refine wpList_load_mid rfl 34 (.tmp 65) rfl xb 0 rfl (U x.name) _ HJN.out.2 Try.underlying34 rfl (info34 x.name HX.out.2.2) ?_)
                | (with_reducible change wpList _ _ _ ({ dst := some 68, op := _, type := _, pos := _, after := _, guard := _ } :: _) _ _
                   refine wpList_build36 rfl (.tmp 66) (.tmp 67) rfl x.name HX.out.2.2 x.deps.reverse pd j cd rfl rfl ?_)
                | (with_reducible change wpList _ _ _ ({ dst := some 69, op := _, type := _, pos := _, after := _, guard := _ } :: _) _ _
                   refine Hid.out ?_)
                | fail)
              show wpList _ _ _ _ _ _
              obtain ⟨y, hy⟩ : ∃ y : It, y = ⟨x.name, x.deps.reverse, pd, j, cd⟩ := ⟨_, rfl⟩
              have HYO : Hid (ItOk wr y ∧ kd y = kr x) := by
                subst hy
                exact ⟨⟨HX.out.2.2, HY.out.1, HY.out.2, by show j ≤ _; have := HXN.out; have := HJN.out.1; omega⟩, rfl⟩
              rw [← hy]
              refine wpList_bslice36 rfl (.tmp 68) rfl y HYO.out.1.1 rfl ?_
              simp only [Act.put, List.setIfInBounds_toArray, List.set_cons_zero, List.set_cons_succ]
              have HB6 : Hid (Below wr.heap.size wr (wr.alloc (.cells y.cells.toArray 36)) ∧ Bs 36 33 (wr.alloc (.cells y.cells.toArray 36)).heap.size (wr.alloc (.cells y.cells.toArray 36)) (.slice (some ⟨wr.heap.size, 0, none⟩) 1 1) 1 y.cells) := ⟨(Below.refl _ wr).alloc (Nat.le_refl _) _, bs_new wr y HYO.out.1.1 _⟩
              generalize hA1 : wr.alloc (.cells y.cells.toArray 36) = A1 at HB6 ⊢
              generalize hg1 : (⟨wr.heap.size, 0, none⟩ : Addr) = g1 at HB6 ⊢
              clear hA1 hg1 hy
              have HMR : Hid (MRow A1 pm i ms) := (HV.out.2.2.below HK.out.2.1).below HB6.out.1
              go_wp2_with (first
                | (with_reducible change wpList _ _ _ ({ dst := some 71, op := _, type := _, pos := _, after := _, guard := _ } :: _) _ _
                   refine Hid.out ?_)
                | fail)
              show wpList _ _ _ _ _ _
              refine wpList_append_its rfl (.tmp 69) (.tmp 70) rfl A1.heap.size (.slice (some g1) 1 1) 1 y.cells pm i cm (CC ms) rfl rfl HB6.out.2 HMR.out.2.1 (Nat.le_refl _) (by have := HX.out.1; have := HM.out.1; omega) ?_
              intro v' w' r1 r2
              rw [Nat.add_comm 1 i] at r1
              obtain ⟨pm', cm', rfl, _, r4, _⟩ := r1.read
              have HB7 : Hid (Below wr.heap.size wr w') := bt HB6.out.1 r2
              have HNR : Hid (MRow w' pm' (i + 1) (y :: ms)) := by
                have hm := HMR.out.below r2
                refine ⟨by simp [hm.1], ?_, fun z hz => ?_⟩
                · rw [show CC (y :: ms) = y.cells ++ CC ms by simp [CC]]; exact r4
                · rcases List.mem_cons.1 hz with rfl | hz
                  · exact HYO.out.1.below HB7.out
                  · exact hm.2.2 z hz
              clear r1 r2 r4
              simp only [Act.put, List.setIfInBounds_toArray, List.set_cons_zero, List.set_cons_succ]
              go_wp2
              refine ⟨⟨i + 1, pm', cm', y :: ms, by simp, rfl, ⟨HX.out.1, bt (bt HV.out.1 HK.out.2.1) HB7.out, HNR.out, ?_⟩⟩, ?_⟩
              · rw [rotL_succ HX.out.2.1, List.map_append, List.reverse_append, List.map_cons, HYO.out.2, HJ.out.2.2.2]
                rfl
              · have := HX.out.1; simp [intOf]; omega
        · have q2 : ¬ (i : Int) < (len : Int) := by omega
          obtain rfl : i = len := by have := HJ.out.1; omega
          have HAL : Hid (Alike l ms ∧ many ms ≤ 90000) := by
            by_cases h0 : i = 0
            · subst h0
              have e1 : l = [] := List.eq_nil_of_length_eq_zero HI.out.2.2
              have e2 : ms = [] := List.eq_nil_of_length_eq_zero HJ.out.2.2.1.1
              rw [e1, e2]
              exact ⟨Alike.refl _, by simp [many]⟩
            · have h1 := HJ.out.2.2.2
              have h2 : k < l.length := by rw [HI.out.2.2]; exact (HKK.out h0).2
              rw [← HI.out.2.2] at h1
              have h3 := turned_alike h2 h1
              exact ⟨h3.1, by rw [h3.2]; exact HM.out.2⟩
          clear hin
          go_wp2_with fail
          refine (order_is wr a i cap l (HI.out.1.below HJ.out.2.1) (by have := HM.out; omega) HM.out.2).mono ?_
          rintro e w3 ⟨pa, na, ca, er, hs, rfl, HR1, HO1, HB3⟩
          have HM3 : Hid (MRow w3 pm i ms) := HJ.out.2.2.1.below HB3.out
          go_wp2_with fail
          refine (order_is w3 pm i cm ms HM3.out.its (by have := HM.out; omega) HAL.out.2).mono ?_
          rintro e w4 ⟨pb, nb, cb, er2, hs2, rfl, HR2, HO2, HB4⟩
          obtain ⟨rfl, rfl⟩ := OrdA.same HAL.out.1 HO1.out HO2.out
          have HBW : Hid (Below W.heap.size W w4) := bt (bt HJ.out.2.1 HB3.out) HB4.out
          go_wp2
          refine turned_region (l := l) (m := ms) (h := h) (hs := hs) ⟨rangeAt_same HB.out.2.1 (HBW.out.block _ HB.out.2.2), Nat.lt_of_lt_of_le HB.out.2.2 HBW.out.size⟩ ⟨HR1.out.1.below HB4.out, HR2.out.1, HR1.out.2, HR2.out.2⟩ ⟨HI.out.1.below HBW.out, (HM3.out.below HB4.out).its, HI.out.2.1, by have := HM.out.1; omega, HM.out.2, HAL.out.2, HAL.out.1⟩ ?_
          intro p1 n1 c1 p2 n2 c2 p3 n3 c3 p4 n4 c4 p5 n5 c5 p6 n6 c6 b1 V5 hV5
          have HV5 : Hid (Below w.heap.size w V5) := bt (bt HB.out.1 HBW.out) hV5
          clear hV5
          go_wp2
          go_ret
          exact ⟨rfl, HV5.out⟩
#print axioms turned_law
end Go.Proofs.Ytijkpkcopjkhkaa.Oct
