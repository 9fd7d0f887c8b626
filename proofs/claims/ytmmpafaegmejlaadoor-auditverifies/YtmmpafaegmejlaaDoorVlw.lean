/-
  Layer 19 (audit): the law AuditVerifies.
-/
import Derived.Test.YtmmpafaegmejlaaDoorVst
namespace Go.Proofs.YtmmpafaegmejlaaDoor.Oct
open Go.RowKit Sha
set_option linter.unusedSimpArgs false
set_option linter.unusedVariables false

set_option maxRecDepth 100000 in
set_option maxHeartbeats 8000000 in
theorem verifies_law {w : World} {a : Option Addr} {n cap : Nat} {l : List En} {Dh : List UInt8} (h : EsR w (.slice a l.length cap) l) (hn : l.length = n) (hd : Dh.length = 32) (hk : KT w) (hs : ST w) : Calls Tryd.prog 4 #[.slice a n cap, .agg (U Dh).toArray] w fun e w' => e = .returned (.bool true) ∧ Below w.heap.size w w' := by
  have HE : Hid (EsR w (.slice a l.length cap) l ∧ l.length = n ∧ Dh.length = 32) := ⟨h, hn, hd⟩
  have HK : Hid (KT w ∧ ST w) := ⟨hk, hs⟩
  obtain ⟨hok, a', cap', heq, hle, hcap, hr⟩ := h
  cases heq
  have qn : (n : Int) ≤ 9223372036854775807 := by unfold maxLen at hcap; omega
  obtain ⟨C, hC⟩ : ∃ C, U Dh = C := ⟨_, rfl⟩
  obtain ⟨b, hb⟩ : ∃ b, w.heap.size = b := ⟨_, rfl⟩
  obtain ⟨A, hA⟩ : ∃ A, w.alloc (.cells C.toArray 35) = A := ⟨_, rfl⟩
  have hB : Below w.heap.size w A := by rw [← hA]; exact below_al _ _
  have hbA : Blk A b 35 (U Dh) := by rw [hC, ← hA, ← hb]; exact Blk.new w _ _
  have HB : Hid (Below w.heap.size w A ∧ Blk A b 35 (U Dh)) := ⟨hB, hbA⟩
  rw [hn] at hr
  have HRR : Hid (0 < n → ∃ b off, a = some ⟨b, off, none⟩ ∧ b < w.heap.size ∧ ∀ i e, l[i]? = some e → w.rangeAt b (off + i * 36) e.cells) := hr
  rw [hC]
  clear hok hle hcap hr hn hd hk hs hB hbA hC
  go_enter Tryd.func4, Tryd.ntmps4
  by_cases hbig : 200 < (n : Int)
  · go_wp2_with fail
    refine (lives_is A (HK.out.1.below HB.out.1) (HK.out.2.below HB.out.1)).mono ?_
    rintro e X2 ⟨rfl, hb2⟩
    have HF : Hid (Below w.heap.size w X2) := below_tr HB.out.1 hb2
    clear hb2 hb hA
    go_wp2
    go_ret
    exact ⟨rfl, HF.out⟩
  have qn2 : (n : Int) ≤ 200 := by omega
  clear hbig qn
  go_wp2
  clear hA hb
  go_loopw [17, 5] (fun u v wr => ∃ i t : Nat, u = iv (i : Int) ∧ v = iv (t : Int) ∧ t ≤ 100000 ∧ Hid (i ≤ n ∧ (∀ j e, j < i → l[j]? = some e → e.who.size + e.what.size ≤ t) ∧ Below A.heap.size A wr)) (fun u _ _ => n - (intOf u).toNat)
  case atStart => exact ⟨0, 0, rfl, rfl, by omega, Nat.zero_le _, fun j e hj => absurd hj (by omega), Below.refl _ _⟩
  case round =>
    obtain ⟨i, t, rfl, rfl, ht, HI⟩ := hrel
    by_cases hi : i = n
    · subst hi
      have HW : Hid (Below w.heap.size w wr ∧ KT wr ∧ ST wr ∧ (∀ e ∈ l, e.rz) ∧ (∀ e ∈ l, e.sz) ∧ Blk wr b 35 (U Dh) ∧ l.length ≤ 200 ∧ EsR wr (.slice a i cap) l) := by
        have hb := below_tr HB.out.1 HI.out.2.2
        have hall : ∀ e ∈ l, e.who.size + e.what.size ≤ 100000 := fun e he => by
          obtain ⟨j, hj, he2⟩ := List.mem_iff_getElem.1 he
          have := HI.out.2.1 j e (by have := HE.out.2.1; omega) (by rw [List.getElem?_eq_getElem hj, he2])
          omega
        refine ⟨hb, HK.out.1.below hb, HK.out.2.below hb, fun e he => by show _ ≤ _; have := hall e he; omega, fun e he => by show _ ≤ _; have := hall e he; omega, HB.out.2.below HI.out.2.2 HB.out.2.lt, by have := HE.out.2.1; omega, ?_⟩
        have := HE.out.1.below hb
        rw [HE.out.2.1] at this
        exact this
      obtain ⟨k, hkv⟩ := vf_some l
      have HKV : Hid (VfP l k ∧ Dh.length = 32 ∧ l.length = i) := ⟨hkv, HE.out.2.2, HE.out.2.1⟩
      clear hkv HI
      obtain ⟨W0, hW0⟩ : ∃ W0, W0 = wr := ⟨_, rfl⟩
      subst hW0
      go_wp2_with fail
      refine (refVerify_is HW.out.2.2.2.2.2.2.2 (by have := HW.out.2.2.2.2.2.2.1; omega) HW.out.2.2.2.1 k HKV.out.1).mono ?_
      rintro e W1 ⟨rfl, hb1⟩
      have H1 : Hid (Below W0.heap.size W0 W1) := hb1
      clear hb1
      go_wp2
      go_loopw [43] (fun u wq => ∃ j : Nat, u = iv (j : Int) ∧ Hid (j ≤ i ∧ Below W0.heap.size W0 wq)) (fun u _ => i - (intOf u).toNat)
      case atStart => exact ⟨0, rfl, Nat.zero_le _, H1.out⟩
      case round =>
        obtain ⟨j, rfl, HJ⟩ := hrel
        by_cases hj : j = i
        · subst hj
          have HX : Hid (Below W0.heap.size W0 wr) := HJ.out.2
          clear HJ
          go_wp2_with fail
          refine (fresh_is (HW.out.2.2.2.2.2.2.2.below HX.out) (by have := HW.out.2.2.2.2.2.2.1; omega)).mono ?_
          rintro e Y1 ⟨v1, rfl, ho1, hb1⟩
          have HY1 : Hid (EsR Y1 v1 l ∧ Below W0.heap.size W0 Y1) := ⟨ho1.out.esr, below_tr HX.out hb1⟩
          clear ho1 hb1
          go_wp2_with fail
          refine (load_is HY1.out.1 HW.out.2.2.2.2.1 (by have := HW.out.2.2.2.2.2.2.1; omega) (HW.out.2.1.below HY1.out.2) (HW.out.2.2.1.below HY1.out.2)).mono ?_
          intro e Y2 hld
          rcases hld with ⟨⟨p, hp1, hp2⟩, rfl, hb2⟩ | ⟨hall, L, c, v2, rfl, hlg, hb2⟩
          · have q0 : 0 ≤ k := by
              rcases HKV.out.1 with ⟨_, hh⟩ | ⟨p2, rfl, _⟩
              · exact absurd (hh p hp1) hp2
              · omega
            have HY2 : Hid (Below W0.heap.size W0 Y2 ∧ ¬ ∀ i, i < l.length → okAt l i) := ⟨below_tr HY1.out.2 hb2, fun h => hp2 (h p hp1)⟩
            clear hb2 hp1 hp2
            dsimp only
            go_wp2_with fail
            refine (fresh_is (HW.out.2.2.2.2.2.2.2.below HY2.out.1) (by have := HW.out.2.2.2.2.2.2.1; omega)).mono ?_
            rintro e Y3 ⟨v3, rfl, ho3, hb3⟩
            have HY3 : Hid (EsR Y3 v3 l ∧ Below W0.heap.size W0 Y3) := ⟨ho3.out.esr, below_tr HY2.out.1 hb3⟩
            clear ho3 hb3
            go_wp2_with fail
            refine (verify_k HKV.out.1 HY3.out.1 HW.out.2.2.2.2.1 (by have := HW.out.2.2.2.2.2.2.1; omega) (HW.out.2.1.below HY3.out.2) (HW.out.2.2.1.below HY3.out.2)).mono ?_
            rintro e Y4 ⟨rfl, hb4⟩
            have HY4 : Hid (Below W0.heap.size W0 Y4) := below_tr HY3.out.2 hb4
            clear hb4
            obtain ⟨D, hD⟩ : ∃ D, hdE l = D := ⟨_, rfl⟩
            have HD : Hid (hdE l = D ∧ D.length = 32) := ⟨hD, by rw [← hD]; exact hdE_len l⟩
            have HQ : Hid (∀ V, Below Y4.heap.size Y4 V → Below W0.heap.size W0 V ∧ EsR V (.slice a j cap) l ∧ KT V ∧ ST V) := fun V hV => by
              have hb := below_tr HY4.out hV
              exact ⟨hb, HW.out.2.2.2.2.2.2.2.below hb, HW.out.2.1.below hb, HW.out.2.2.1.below hb⟩
            have HBk : Hid (Blk Y4 b 35 (U Dh)) := HW.out.2.2.2.2.2.1.below HY4.out HW.out.2.2.2.2.2.1.lt
            have hll : l.length ≤ 1000000 := by have := HW.out.2.2.2.2.2.2.1; omega
            clear hD
            go_wp2_with fail
            refine vs21b (D := D) ⟨HBk.out.range0, HBk.out.lt⟩ HKV.out.2.1 (fun V hV => holds_is (HQ.out V hV).2.1 HW.out.2.2.2.2.1 hll (HQ.out V hV).2.2.1 (HQ.out V hV).2.2.2 HKV.out.2.1 false ⟨(fun h => nomatch h), fun h => absurd h.1 HY2.out.2⟩) (fun V hV => refHead_is (HQ.out V hV).2.1 hll HW.out.2.2.2.1 D HD.out.1) (fun V hV => holds_is (HQ.out V hV).2.1 HW.out.2.2.2.2.1 hll (HQ.out V hV).2.2.1 (HQ.out V hV).2.2.2 HD.out.2 false ⟨(fun h => nomatch h), fun h => absurd h.1 HY2.out.2⟩) (fun V hV => lives_is V (HQ.out V hV).2.2.1 (HQ.out V hV).2.2.2) q0 ?_
            intro V hV
            have HV : Hid (Below w.heap.size w V) := below_tr HW.out.1 (HQ.out V hV).1
            clear hV
            go_wp2
            go_ret
            exact ⟨rfl, HV.out⟩
          · have hk1 : k = -1 := HKV.out.1.one (vf_ok hall)
            subst hk1
            have HY2 : Hid (Below W0.heap.size W0 Y2 ∧ (∀ i, i < l.length → okAt l i)) := ⟨below_tr HY1.out.2 hb2, hall⟩
            have HLG : Hid (Lg Y2 Y1.heap.size L c v2 l) := hlg
            clear hb2 hlg hall
            dsimp only
            go_wp2_with fail
            refine (fresh_is (HW.out.2.2.2.2.2.2.2.below HY2.out.1) (by have := HW.out.2.2.2.2.2.2.1; omega)).mono ?_
            rintro e Y3 ⟨v3, rfl, ho3, hb3⟩
            have HY3 : Hid (EsR Y3 v3 l ∧ Below W0.heap.size W0 Y3 ∧ Lg Y3 Y1.heap.size L c v2 l) := ⟨ho3.out.esr, below_tr HY2.out.1 hb3, HLG.out.below hb3⟩
            clear ho3 hb3
            go_wp2_with fail
            refine (verify_k HKV.out.1 HY3.out.1 HW.out.2.2.2.2.1 (by have := HW.out.2.2.2.2.2.2.1; omega) (HW.out.2.1.below HY3.out.2.1) (HW.out.2.2.1.below HY3.out.2.1)).mono ?_
            rintro e Y4 ⟨rfl, hb4⟩
            have HY4 : Hid (Below W0.heap.size W0 Y4) := below_tr HY3.out.2.1 hb4
            have HL4 : Hid (Lg Y4 Y1.heap.size L c v2 l) := HY3.out.2.2.below hb4
            clear hb4
            obtain ⟨D, hD⟩ : ∃ D, hdE l = D := ⟨_, rfl⟩
            have HD : Hid (hdE l = D ∧ D.length = 32) := ⟨hD, by rw [← hD]; exact hdE_len l⟩
            have HQ : Hid (∀ V, Below Y4.heap.size Y4 V → Below W0.heap.size W0 V ∧ EsR V (.slice a j cap) l ∧ KT V ∧ ST V) := fun V hV => by
              have hb := below_tr HY4.out hV
              exact ⟨hb, HW.out.2.2.2.2.2.2.2.below hb, HW.out.2.1.below hb, HW.out.2.2.1.below hb⟩
            have HBk : Hid (Blk Y4 b 35 (U Dh)) := HW.out.2.2.2.2.2.1.below HY4.out HW.out.2.2.2.2.2.1.lt
            have hll : l.length ≤ 1000000 := by have := HW.out.2.2.2.2.2.2.1; omega
            clear hD
            go_wp2_with fail
            refine vs21a (l := l) (D := D) (E := decide (Dh = D)) ⟨HBk.out.range0, HBk.out.lt⟩ HKV.out.2.1 (fun V hV => holds_is (HQ.out V hV).2.1 HW.out.2.2.2.2.1 hll (HQ.out V hV).2.2.1 (HQ.out V hV).2.2.2 HKV.out.2.1 _ ⟨fun h => ⟨HY2.out.2, HD.out.1.trans (of_decide_eq_true h).symm⟩, fun h => decide_eq_true (h.2.symm.trans HD.out.1)⟩) (fun V hV => refHead_is (HQ.out V hV).2.1 hll HW.out.2.2.2.1 D HD.out.1) (fun V hV => holds_is (HQ.out V hV).2.1 HW.out.2.2.2.2.1 hll (HQ.out V hV).2.2.1 (HQ.out V hV).2.2.2 HD.out.2 true ⟨fun _ => ⟨HY2.out.2, HD.out.1⟩, fun _ => rfl⟩) (fun V hV => lives_is V (HQ.out V hV).2.2.1 (HQ.out V hV).2.2.2) (fun W => eqHb Dh D HKV.out.2.1 HD.out.2 W) (fun V hV => (entries_is (HL4.out.below hV)).mono (fun e V2 h => by obtain ⟨v', h1, h2, h3⟩ := h; exact ⟨v', h1, h2.out.esr, h3⟩)) (fun V v2 hV h => same_is h (HQ.out V hV).2.1 hll hll true ⟨fun _ => rfl, fun _ => rfl⟩) ?_
            intro V ve hV
            have HV : Hid (Below w.heap.size w V) := below_tr HW.out.1 (HQ.out V hV).1
            clear hV
            go_wp2
            go_ret
            exact ⟨rfl, HV.out⟩
        · have q2 : j < i := by have := HJ.out.1; omega
          have q1 : (j : Int) < (i : Int) := by omega
          obtain ⟨x, hx⟩ : ∃ x, l[j]? = some x := ⟨_, List.getElem?_eq_getElem (by have := HKV.out.2.2; omega)⟩
          obtain ⟨s, off, rfl, hs1, hs2⟩ := HRR.out (by omega)
          have hxm := List.mem_of_getElem? hx
          have hbw := below_tr HW.out.1 HJ.out.2
          obtain ⟨D, hD⟩ : ∃ D, dgE x = D := ⟨_, rfl⟩
          have HD : Hid (dgE x = D ∧ D.length = 32) := ⟨hD, by rw [← hD]; exact dgE_len x⟩
          have HXX : Hid (x.ok ∧ x.rz ∧ x.sz ∧ j < i) := ⟨HE.out.1.1 x hxm, HW.out.2.2.2.1 x hxm, HW.out.2.2.2.2.1 x hxm, q2⟩
          have HR : Hid (wr.rangeAt s (off + j * 36) x.cells ∧ s < wr.heap.size) := ⟨rangeAt_same (hs2 j x hx) (hbw.block s hs1), Nat.lt_of_lt_of_le hs1 hbw.size⟩
          clear hj hx hs1 hs2 hxm hbw hD
          go_wp2_with fail
          refine vs15 (D := D) HXX.out.1 HR (fun V hV => digest_is x HXX.out.1 HXX.out.2.2.1 D HD.out.1 V (HW.out.2.1.below (below_tr HJ.out.2 hV)) (HW.out.2.2.1.below (below_tr HJ.out.2 hV))) (fun V hV => refDigest_is x HXX.out.1 HXX.out.2.1 D HD.out.1 V) (fun W => by rw [neHb D D HD.out.2 HD.out.2 W, decide_eq_true rfl]; rfl) q1 q2 ?_
          intro V hV
          have HF : Hid (j + 1 ≤ i ∧ Below W0.heap.size W0 V) := ⟨HXX.out.2.2.2, below_tr HJ.out.2 hV⟩
          clear hV
          go_wp2
          go_roundw
          case rel => exact ⟨j + 1, rfl, HF.out⟩
          case measure => show i - (j + 1) < i - j; have := HXX.out.2.2.2; omega
    · have q2 : i < n := by have := HI.out.1; omega
      have q1 : (i : Int) < (n : Int) := by omega
      obtain ⟨x, hx⟩ : ∃ x, l[i]? = some x := ⟨_, List.getElem?_eq_getElem (by have := HE.out.2.1; omega)⟩
      obtain ⟨s, off, rfl, hs1, hs2⟩ := HRR.out (by omega)
      have hxo := HE.out.1.1 x (List.mem_of_getElem? hx)
      have hbw := below_tr HB.out.1 HI.out.2.2
      have HS : Hid (s < wr.heap.size) := Nat.lt_of_lt_of_le hs1 hbw.size
      have k2 : wr.cell? ⟨s, off + i * 36 + 2, none⟩ = some (.string x.who) := (hbw.cell (p := ⟨s, off + i * 36 + 2, none⟩) hs1).trans (hs2 i x hx 2 (.string x.who) rfl)
      have k3 : wr.cell? ⟨s, off + i * 36 + 3, none⟩ = some (.string x.what) := (hbw.cell (p := ⟨s, off + i * 36 + 3, none⟩) hs1).trans (hs2 i x hx 3 (.string x.what) rfl)
      have qw : (x.who.size : Int) ≤ 140737488355328 := by have := hxo.2.2.2.1; omega
      have qa : (x.what.size : Int) ≤ 140737488355328 := by have := hxo.2.2.2.2; omega
      have qt : (t : Int) ≤ 100000 := by omega
      have HX : Hid (l[i]? = some x ∧ i < n) := ⟨hx, q2⟩
      clear hi hx hs1 hs2 hxo hbw
      go_wp2_with fail
      refine vs7 HS k2 k3 q1 q2 qw qa qt ?_
      intro V hV
      have HV : Hid (Below A.heap.size A V) := below_tr HI.out.2.2 hV
      clear hV k2 k3
      by_cases hb : t + (x.who.size + x.what.size) ≤ 100000
      · have q3 : (t : Int) + ((x.who.size : Int) + (x.what.size : Int)) ≤ 100000 := by omega
        have HF : Hid (i + 1 ≤ n ∧ (∀ j e, j < i + 1 → l[j]? = some e → e.who.size + e.what.size ≤ t + (x.who.size + x.what.size)) ∧ Below A.heap.size A V) := by
          refine ⟨HX.out.2, fun j e hj he => ?_, HV.out⟩
          by_cases ej : j = i
          · subst ej
            rw [HX.out.1] at he
            cases he
            omega
          · have := HI.out.2.1 j e (by omega) he; omega
        go_wp2
        go_roundw
        case rel => exact ⟨i + 1, t + (x.who.size + x.what.size), by simp, by simp, hb, HF.out⟩
        case measure =>
          have := HX.out.2
          simp only [intOf]
          omega
      · have q3 : 100000 < (t : Int) + ((x.who.size : Int) + (x.what.size : Int)) := by omega
        clear hb
        go_wp2_with fail
        refine (lives_is V (HK.out.1.below (below_tr HB.out.1 HV.out)) (HK.out.2.below (below_tr HB.out.1 HV.out))).mono ?_
        rintro e X2 ⟨rfl, hb2⟩
        have HF : Hid (Below w.heap.size w X2) := below_tr (below_tr HB.out.1 HV.out) hb2
        clear hb2
        go_wp2
        go_ret
        exact ⟨rfl, HF.out⟩
#print axioms verifies_law
end Go.Proofs.YtmmpafaegmejlaaDoor.Oct
