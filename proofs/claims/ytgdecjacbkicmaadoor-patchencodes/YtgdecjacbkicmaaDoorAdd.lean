/-
  Layer 10 (patch): isAdd, whole.
-/
import Derived.Test.YtgdecjacbkicmaaDoorAda
import Derived.Test.YtgdecjacbkicmaaDoorAdb
namespace Go.Proofs.YtgdecjacbkicmaaDoor.Oct
open Go.RowKit
set_option maxRecDepth 100000
set_option linter.unusedSimpArgs false
set_option linter.unusedVariables false

set_option maxHeartbeats 2000000 in
theorem isAdd_is (w : World) (a : Option Addr) (n c : Nat) (D : List Hs) (o : OpV) (hr : HsR w a n D) (ho : o.ok) (hs : Strs w o.la o.ln o.ts) (hn : n ≤ 100000) (B : Bool) (hB : addB D o = B) :
    Calls Tryd.prog 39 #[.agg o.cells.toArray, .slice a n c] w fun e w' => e = .returned (.bool B) ∧ Below w.heap.size w w' := by
  obtain ⟨d, hd⟩ : ∃ d, w.heap.size = d := ⟨_, rfl⟩
  obtain ⟨W, hW⟩ : ∃ W, w.alloc (.cells o.cells.toArray 45) = W := ⟨_, rfl⟩
  have hk : OpB W d o := ⟨by rw [← hW, ← hd]; exact Blk.new w _ _, ho⟩
  have hbW : Below w.heap.size w W := by rw [← hW]; exact below_al _ _
  have HB0 : Hid (Below w.heap.size w W) := hbW
  have HL : Hid (d < W.heap.size) := hk.blk.lt
  have HU : Hid (W.rangeAt d 2 o.up.cells) := hk.up
  have HDn : Hid (W.rangeAt d 35 o.dn.cells) := hk.dn
  have c0 := hk.kind
  have c68 := hk.lines
  have HV : Hid (o.up.ok ∧ o.dn.ok) := ⟨ho.1, ho.2.1⟩
  obtain ⟨kd, hkd⟩ : ∃ m, o.kind = m := ⟨_, rfl⟩
  obtain ⟨la, hla⟩ : ∃ m, o.la = m := ⟨_, rfl⟩
  obtain ⟨ln, hln⟩ : ∃ m, o.ln = m := ⟨_, rfl⟩
  obtain ⟨lc, hlc⟩ : ∃ m, o.lc = m := ⟨_, rfl⟩
  obtain ⟨K, hK⟩ : ∃ b, (kd == 1) = b := ⟨_, rfl⟩
  obtain ⟨L, hL⟩ : ∃ b, decide (0 < (ln : Int)) = b := ⟨_, rfl⟩
  obtain ⟨NB, hNB⟩ : ∃ b, o.ts.any bad = b := ⟨_, rfl⟩
  obtain ⟨uT, huT⟩ : ∃ b, eqVx o.up vTop = b := ⟨_, rfl⟩
  obtain ⟨UL, hUL⟩ : ∃ b, lineOf D o.up = b := ⟨_, rfl⟩
  obtain ⟨dB, hdB⟩ : ∃ b, eqVx o.dn vBot = b := ⟨_, rfl⟩
  obtain ⟨DL, hDL⟩ : ∃ b, lineOf D o.dn = b := ⟨_, rfl⟩
  obtain ⟨NE, hNE⟩ : ∃ b, (!eqVx o.up o.dn) = b := ⟨_, rfl⟩
  have hdk : decide (o.kind = 1) = K := by rw [← hK, hkd, Bool.eq_iff_iff]; simp
  unfold addB at hB
  rw [hdk, hln, hL, hNB, huT, hUL, hdB, hDL, hNE] at hB
  have H70 : Hid (∀ V, Below W.heap.size W V → Calls Tryd.prog 62 #[.slice la ln lc, .func (.func 63) #[] #[]] V fun e V2 => e = .returned (.bool NB) ∧ Below V.heap.size V V2) := fun V hV => by
    rw [← hla, ← hln]
    exact anyBad_is V o.la o.ln lc o.ts (hs.below (below_tr hbW hV)) ho.2.2.2.2.2.1 ho.2.2.2.1 NB hNB
  have H72 : Hid (∀ V, Below W.heap.size W V → Calls Tryd.prog 64 #[] V fun e V2 => e = .returned (.agg vTop.cells.toArray) ∧ Below V.heap.size V V2) := fun V _ => top_is V _ rfl
  have H74 : Hid (∀ V, Below W.heap.size W V → Calls Tryd.prog 66 #[] V fun e V2 => e = .returned (.agg vBot.cells.toArray) ∧ Below V.heap.size V V2) := fun V _ => bot_is V _ rfl
  have H73u : Hid (∀ V, Below W.heap.size W V → Calls Tryd.prog 65 #[.slice a n c, .agg o.up.cells.toArray] V fun e V2 => e = .returned (.bool UL) ∧ Below V.heap.size V V2) := fun V hV => isLineOf_is V a n c D o.up (hr.below (below_tr hbW hV)) ho.1 hn UL hUL
  have H73d : Hid (∀ V, Below W.heap.size W V → Calls Tryd.prog 65 #[.slice a n c, .agg o.dn.cells.toArray] V fun e V2 => e = .returned (.bool DL) ∧ Below V.heap.size V V2) := fun V hV => isLineOf_is V a n c D o.dn (hr.below (below_tr hbW hV)) ho.2.1 hn DL hDL
  have HK : Hid ((kd == 1) = K) := hK
  have HN : Hid (decide (0 < (ln : Int)) = L) := hL
  have HUT : Hid (eqVx o.up vTop = uT) := huT
  have HDB : Hid (eqVx o.dn vBot = dB) := hdB
  have HNE : Hid ((!eqVx o.up o.dn) = NE) := hNE
  rw [hkd] at c0
  rw [hla, hln, hlc] at c68
  clear hk hkd hla hln hlc hK hL hNB huT hUL hdB hDL hNE hdk hr ho hs hn hbW
  cases K with
  | true =>
    cases L with
    | true =>
      cases NB with
      | true =>
        simp only [Bool.true_and, Bool.false_and, Bool.and_false, Bool.and_true, Bool.true_or, Bool.or_true, Bool.or_false, Bool.false_or, Bool.not_true, Bool.not_false] at hB
        subst hB
        go_enter Tryd.func39, Tryd.ntmps39
        go_wp2_with fail
        refine ad2 HL HU HDn c0 c68 HV HK HN H70 H72 H74 HUT H73u HDB H73d HNE ?_
        intro V1 hb1
        have HF : Hid (Below w.heap.size w V1) := below_tr HB0.out hb1
        clear hb1 hW
        go_wp2
        go_ret
        exact ⟨rfl, HF.out⟩
      | false =>
        cases uT with
        | true =>
          cases dB with
          | true =>
            cases NE with
            | true =>
              simp only [Bool.true_and, Bool.false_and, Bool.and_false, Bool.and_true, Bool.true_or, Bool.or_true, Bool.or_false, Bool.false_or, Bool.not_true, Bool.not_false] at hB
              subst hB
              go_enter Tryd.func39, Tryd.ntmps39
              go_wp2_with fail
              refine ad5 HL HU HDn c0 c68 HV HK HN H70 H72 H74 HUT H73u HDB H73d HNE ?_
              intro V1 hb1
              have HF : Hid (Below w.heap.size w V1) := below_tr HB0.out hb1
              clear hb1 hW
              go_wp2
              go_ret
              exact ⟨rfl, HF.out⟩
            | false =>
              simp only [Bool.true_and, Bool.false_and, Bool.and_false, Bool.and_true, Bool.true_or, Bool.or_true, Bool.or_false, Bool.false_or, Bool.not_true, Bool.not_false] at hB
              subst hB
              go_enter Tryd.func39, Tryd.ntmps39
              go_wp2_with fail
              refine ad6 HL HU HDn c0 c68 HV HK HN H70 H72 H74 HUT H73u HDB H73d HNE ?_
              intro V1 hb1
              have HF : Hid (Below w.heap.size w V1) := below_tr HB0.out hb1
              clear hb1 hW
              go_wp2
              go_ret
              exact ⟨rfl, HF.out⟩
          | false =>
            cases DL with
            | true =>
              cases NE with
              | true =>
                simp only [Bool.true_and, Bool.false_and, Bool.and_false, Bool.and_true, Bool.true_or, Bool.or_true, Bool.or_false, Bool.false_or, Bool.not_true, Bool.not_false] at hB
                subst hB
                go_enter Tryd.func39, Tryd.ntmps39
                go_wp2_with fail
                refine ad7 HL HU HDn c0 c68 HV HK HN H70 H72 H74 HUT H73u HDB H73d HNE ?_
                intro V1 hb1
                have HF : Hid (Below w.heap.size w V1) := below_tr HB0.out hb1
                clear hb1 hW
                go_wp2
                go_ret
                exact ⟨rfl, HF.out⟩
              | false =>
                simp only [Bool.true_and, Bool.false_and, Bool.and_false, Bool.and_true, Bool.true_or, Bool.or_true, Bool.or_false, Bool.false_or, Bool.not_true, Bool.not_false] at hB
                subst hB
                go_enter Tryd.func39, Tryd.ntmps39
                go_wp2_with fail
                refine ad8 HL HU HDn c0 c68 HV HK HN H70 H72 H74 HUT H73u HDB H73d HNE ?_
                intro V1 hb1
                have HF : Hid (Below w.heap.size w V1) := below_tr HB0.out hb1
                clear hb1 hW
                go_wp2
                go_ret
                exact ⟨rfl, HF.out⟩
            | false =>
              simp only [Bool.true_and, Bool.false_and, Bool.and_false, Bool.and_true, Bool.true_or, Bool.or_true, Bool.or_false, Bool.false_or, Bool.not_true, Bool.not_false] at hB
              subst hB
              go_enter Tryd.func39, Tryd.ntmps39
              go_wp2_with fail
              refine ad4 HL HU HDn c0 c68 HV HK HN H70 H72 H74 HUT H73u HDB H73d HNE ?_
              intro V1 hb1
              have HF : Hid (Below w.heap.size w V1) := below_tr HB0.out hb1
              clear hb1 hW
              go_wp2
              go_ret
              exact ⟨rfl, HF.out⟩
        | false =>
          cases UL with
          | true =>
            cases dB with
            | true =>
              cases NE with
              | true =>
                simp only [Bool.true_and, Bool.false_and, Bool.and_false, Bool.and_true, Bool.true_or, Bool.or_true, Bool.or_false, Bool.false_or, Bool.not_true, Bool.not_false] at hB
                subst hB
                go_enter Tryd.func39, Tryd.ntmps39
                go_wp2_with fail
                refine ad10 HL HU HDn c0 c68 HV HK HN H70 H72 H74 HUT H73u HDB H73d HNE ?_
                intro V1 hb1
                have HF : Hid (Below w.heap.size w V1) := below_tr HB0.out hb1
                clear hb1 hW
                go_wp2
                go_ret
                exact ⟨rfl, HF.out⟩
              | false =>
                simp only [Bool.true_and, Bool.false_and, Bool.and_false, Bool.and_true, Bool.true_or, Bool.or_true, Bool.or_false, Bool.false_or, Bool.not_true, Bool.not_false] at hB
                subst hB
                go_enter Tryd.func39, Tryd.ntmps39
                go_wp2_with fail
                refine ad11 HL HU HDn c0 c68 HV HK HN H70 H72 H74 HUT H73u HDB H73d HNE ?_
                intro V1 hb1
                have HF : Hid (Below w.heap.size w V1) := below_tr HB0.out hb1
                clear hb1 hW
                go_wp2
                go_ret
                exact ⟨rfl, HF.out⟩
            | false =>
              cases DL with
              | true =>
                cases NE with
                | true =>
                  simp only [Bool.true_and, Bool.false_and, Bool.and_false, Bool.and_true, Bool.true_or, Bool.or_true, Bool.or_false, Bool.false_or, Bool.not_true, Bool.not_false] at hB
                  subst hB
                  go_enter Tryd.func39, Tryd.ntmps39
                  go_wp2_with fail
                  refine ad12 HL HU HDn c0 c68 HV HK HN H70 H72 H74 HUT H73u HDB H73d HNE ?_
                  intro V1 hb1
                  have HF : Hid (Below w.heap.size w V1) := below_tr HB0.out hb1
                  clear hb1 hW
                  go_wp2
                  go_ret
                  exact ⟨rfl, HF.out⟩
                | false =>
                  simp only [Bool.true_and, Bool.false_and, Bool.and_false, Bool.and_true, Bool.true_or, Bool.or_true, Bool.or_false, Bool.false_or, Bool.not_true, Bool.not_false] at hB
                  subst hB
                  go_enter Tryd.func39, Tryd.ntmps39
                  go_wp2_with fail
                  refine ad13 HL HU HDn c0 c68 HV HK HN H70 H72 H74 HUT H73u HDB H73d HNE ?_
                  intro V1 hb1
                  have HF : Hid (Below w.heap.size w V1) := below_tr HB0.out hb1
                  clear hb1 hW
                  go_wp2
                  go_ret
                  exact ⟨rfl, HF.out⟩
              | false =>
                simp only [Bool.true_and, Bool.false_and, Bool.and_false, Bool.and_true, Bool.true_or, Bool.or_true, Bool.or_false, Bool.false_or, Bool.not_true, Bool.not_false] at hB
                subst hB
                go_enter Tryd.func39, Tryd.ntmps39
                go_wp2_with fail
                refine ad9 HL HU HDn c0 c68 HV HK HN H70 H72 H74 HUT H73u HDB H73d HNE ?_
                intro V1 hb1
                have HF : Hid (Below w.heap.size w V1) := below_tr HB0.out hb1
                clear hb1 hW
                go_wp2
                go_ret
                exact ⟨rfl, HF.out⟩
          | false =>
            simp only [Bool.true_and, Bool.false_and, Bool.and_false, Bool.and_true, Bool.true_or, Bool.or_true, Bool.or_false, Bool.false_or, Bool.not_true, Bool.not_false] at hB
            subst hB
            go_enter Tryd.func39, Tryd.ntmps39
            go_wp2_with fail
            refine ad3 HL HU HDn c0 c68 HV HK HN H70 H72 H74 HUT H73u HDB H73d HNE ?_
            intro V1 hb1
            have HF : Hid (Below w.heap.size w V1) := below_tr HB0.out hb1
            clear hb1 hW
            go_wp2
            go_ret
            exact ⟨rfl, HF.out⟩
    | false =>
      simp only [Bool.true_and, Bool.false_and, Bool.and_false, Bool.and_true, Bool.true_or, Bool.or_true, Bool.or_false, Bool.false_or, Bool.not_true, Bool.not_false] at hB
      subst hB
      go_enter Tryd.func39, Tryd.ntmps39
      go_wp2_with fail
      refine ad1 HL HU HDn c0 c68 HV HK HN H70 H72 H74 HUT H73u HDB H73d HNE ?_
      intro V1 hb1
      have HF : Hid (Below w.heap.size w V1) := below_tr HB0.out hb1
      clear hb1 hW
      go_wp2
      go_ret
      exact ⟨rfl, HF.out⟩
  | false =>
    simp only [Bool.true_and, Bool.false_and, Bool.and_false, Bool.and_true, Bool.true_or, Bool.or_true, Bool.or_false, Bool.false_or, Bool.not_true, Bool.not_false] at hB
    subst hB
    go_enter Tryd.func39, Tryd.ntmps39
    go_wp2_with fail
    refine ad0 HL HU HDn c0 c68 HV HK HN H70 H72 H74 HUT H73u HDB H73d HNE ?_
    intro V1 hb1
    have HF : Hid (Below w.heap.size w V1) := below_tr HB0.out hb1
    clear hb1 hW
    go_wp2
    go_ret
    exact ⟨rfl, HF.out⟩
end Go.Proofs.YtgdecjacbkicmaaDoor.Oct
