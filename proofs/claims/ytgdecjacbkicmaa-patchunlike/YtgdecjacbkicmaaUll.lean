/-
  Layer 10 (patch): the law Unlike.
-/
import Derived.Test.YtgdecjacbkicmaaUlr
namespace Go.Proofs.Ytgdecjacbkicmaa.Oct
open Go.RowKit
set_option maxRecDepth 100000
set_option linter.unusedSimpArgs false
set_option linter.unusedVariables false

set_option maxHeartbeats 4000000 in
theorem unlike_law (w : World) (p q : PV) (hp : PR w p) (hq : PR w q) : Calls Try.prog 5 #[.agg p.cells.toArray, .agg q.cells.toArray] w fun e w' => e = .returned (.bool true) ∧ Below w.heap.size w w' := by
  obtain ⟨d2, hd2⟩ : ∃ d, w.heap.size = d := ⟨_, rfl⟩
  obtain ⟨W1, hW1⟩ : ∃ W, w.alloc (.cells p.cells.toArray 25) = W := ⟨_, rfl⟩
  obtain ⟨d3, hd3⟩ : ∃ d, W1.heap.size = d := ⟨_, rfl⟩
  obtain ⟨W, hW⟩ : ∃ W, W1.alloc (.cells q.cells.toArray 25) = W := ⟨_, rfl⟩
  have b1 : Below w.heap.size w W1 := by rw [← hW1]; exact below_al _ _
  have b2 : Below W1.heap.size W1 W := by rw [← hW]; exact below_al _ _
  have k2 : Blk W d2 25 p.cells := by have h : Blk W1 d2 25 p.cells := by rw [← hW1, ← hd2]; exact Blk.new w _ _
                                      exact h.below b2 h.lt
  have k3 : Blk W d3 25 q.cells := by rw [← hW, ← hd3]; exact Blk.new W1 _ _
  have HP : Hid (PR W p ∧ PR W q ∧ Below w.heap.size w W ∧ Blk W d2 25 p.cells ∧ Blk W d3 25 q.cells) := ⟨hp.below (below_tr b1 b2), hq.below (below_tr b1 b2), below_tr b1 b2, k2, k3⟩
  clear hp hq b1 b2 k2 k3
  go_enter Try.func5, Try.ntmps5
  go_wp2_with (with_reducible change wpList _ _ _ ({ dst := some 9, op := _, type := _, pos := _, after := _, guard := _ } :: _) _ _; refine Hid.out ?_)
  show wpList _ _ _ _ _ _
  refine wpList_load_mid rfl 25 (.tmp 2) rfl d2 0 rfl p.cells _ HP.out.2.2.2.1.range0 Try.underlying25 rfl (info25 p) ?_
  clear hd2 hW1 hd3 hW
  go_wp2_with fail
  refine (light_is W p HP.out.1).mono ?_
  rintro e V1 ⟨B1, rfl, hl1, hb1⟩
  have H1 : Hid ((B1 = true → LT p) ∧ PR V1 p ∧ PR V1 q ∧ Below w.heap.size w V1 ∧ Blk V1 d2 25 p.cells ∧ Blk V1 d3 25 q.cells) := ⟨hl1.out, HP.out.1.below hb1, HP.out.2.1.below hb1, below_tr HP.out.2.2.1 hb1, HP.out.2.2.2.1.below hb1 HP.out.2.2.2.1.lt, HP.out.2.2.2.2.below hb1 HP.out.2.2.2.2.lt⟩
  clear hl1 hb1 HP
  cases B1 with
  | false =>
    go_wp2_with fail
    refine (lives_is V1).mono ?_
    rintro e V9 ⟨rfl, hb9⟩
    have HF : Hid (Below w.heap.size w V9) := below_tr H1.out.2.2.2.1 hb9
    clear hb9
    go_wp2
    go_ret
    exact ⟨rfl, HF.out⟩
  | true =>
  go_wp2_with (with_reducible change wpList _ _ _ ({ dst := some 13, op := _, type := _, pos := _, after := _, guard := _ } :: _) _ _; refine Hid.out ?_)
  show wpList _ _ _ _ _ _
  refine wpList_load_want (by kernel_rfl) 25 (.tmp 3) rfl d3 0 rfl q.cells _ H1.out.2.2.2.2.2.range0 Try.underlying25 rfl (info25 q) ?_
  go_wp2_with fail
  refine (light_is V1 q H1.out.2.2.1).mono ?_
  rintro e V2 ⟨B2, rfl, hl2, hb2⟩
  have H2 : Hid (LT p ∧ (B2 = true → LT q) ∧ PR V2 p ∧ PR V2 q ∧ Below w.heap.size w V2 ∧ Blk V2 d2 25 p.cells ∧ Blk V2 d3 25 q.cells) := ⟨H1.out.1 (by trivial), hl2.out, H1.out.2.1.below hb2, H1.out.2.2.1.below hb2, below_tr H1.out.2.2.2.1 hb2, H1.out.2.2.2.2.1.below hb2 H1.out.2.2.2.2.1.lt, H1.out.2.2.2.2.2.below hb2 H1.out.2.2.2.2.2.lt⟩
  clear hl2 hb2 H1
  cases B2 with
  | false =>
    go_wp2_with fail
    refine (lives_is V2).mono ?_
    rintro e V9 ⟨rfl, hb9⟩
    have HF : Hid (Below w.heap.size w V9) := below_tr H2.out.2.2.2.2.1 hb9
    clear hb9
    go_wp2
    go_ret
    exact ⟨rfl, HF.out⟩
  | true =>
  obtain ⟨B, hB⟩ : ∃ B, sameP p q = B := ⟨_, rfl⟩
  obtain ⟨lp, lq', pp, pq, bw, kp, kq⟩ := H2.out
  have lq := lq' (by trivial)
  have HL : Hid (d2 < V2.heap.size ∧ d3 < V2.heap.size) := ⟨kp.lt, kq.lt⟩
  have HR : Hid (V2.rangeAt d2 0 p.cells ∧ V2.rangeAt d3 0 q.cells) := ⟨kp.range0, kq.range0⟩
  have HS : Hid (∀ V, Below V2.heap.size V2 V → Calls Try.prog 18 #[.agg p.cells.toArray, .agg q.cells.toArray] V fun e V3 => e = .returned (.bool B) ∧ Below V.heap.size V V3) := fun V hV => same_is V p q (pp.below hV) (pq.below hV) B hB
  have HR15 : Hid (∀ V, Below V2.heap.size V2 V → Calls Try.prog 15 #[.agg p.cells.toArray, .agg q.cells.toArray] V fun e V3 => e = .returned (.bool B) ∧ Below V.heap.size V V3) := fun V hV => rsame_is V p q (pp.below hV) (pq.below hV) (by have := lp.1; omega) (by have := lq.1; omega) B hB
  have HT : Hid (∀ V, Below V2.heap.size V2 V → Calls Try.prog 9 #[.agg p.cells.toArray] V fun e V3 => ∃ qt : PV, e = .returned (.agg qt.cells.toArray) ∧ Hid (PR V3 qt ∧ Tw p qt) ∧ Below V.heap.size V V3) := fun V hV => twin_is V p (pp.below hV) ⟨by have := lp.1; omega, by have := lp.2.1; omega, fun o ho => by have := lp.2.2 o ho; omega⟩
  have HS2 : Hid (∀ (V : World) (qt : PV), Below V2.heap.size V2 V → Hid (PR V qt ∧ Tw p qt) → Calls Try.prog 18 #[.agg p.cells.toArray, .agg qt.cells.toArray] V fun e V3 => e = .returned (.bool true) ∧ Below V.heap.size V V3) := fun V qt hV ht => same_is V p qt (pp.below hV) ht.out.1 true ht.out.2.same
  have HPP : Hid (PR V2 p ∧ PR V2 q ∧ Below w.heap.size w V2 ∧ Blk V2 d2 25 p.cells ∧ Blk V2 d3 25 q.cells ∧ sameP p q = B) := ⟨pp, pq, bw, kp, kq, hB⟩
  obtain ⟨EP, hEP⟩ : ∃ E, chk p = E := ⟨_, rfl⟩
  obtain ⟨EQ, hEQ⟩ : ∃ E, chk q = E := ⟨_, rfl⟩
  have HE : Hid (chk p = EP ∧ chk q = EQ) := ⟨hEP, hEQ⟩
  clear H2 lp lq' lq pp pq bw kp kq hB hEP hEQ
  cases B with
  | true =>
    go_wp2_with fail
    refine ul3t HL HR HS HR15 HT HS2 ?_
    intro V3 qt hb3
    have H3 : Hid (PR V3 p ∧ PR V3 q ∧ Below w.heap.size w V3 ∧ Blk V3 d2 25 p.cells ∧ Blk V3 d3 25 q.cells ∧ sameP p q = true) := ⟨HPP.out.1.below hb3, HPP.out.2.1.below hb3, below_tr HPP.out.2.2.1 hb3, HPP.out.2.2.2.1.below hb3 HPP.out.2.2.2.1.lt, HPP.out.2.2.2.2.1.below hb3 HPP.out.2.2.2.2.1.lt, HPP.out.2.2.2.2.2⟩
    clear hb3 HPP HL HR HS HR15 HT HS2
    go_wp2_with (with_reducible change wpList _ _ _ ({ dst := some 33, op := _, type := _, pos := _, after := _, guard := _ } :: _) _ _; refine Hid.out ?_)
    show wpList _ _ _ _ _ _
    refine wpList_load_mid rfl 25 (.tmp 2) rfl d2 0 rfl p.cells _ H3.out.2.2.2.1.range0 Try.underlying25 rfl (info25 p) ?_
    go_wp2_with fail
    refine (encode_any V3 p H3.out.1 EP HE.out.1).mono ?_
    rintro e V4 ⟨va, na, ca, rfl, ha, hb4⟩
    have H4 : Hid ((EP = 0 → In V4 va na ca (ptB p)) ∧ PR V4 p ∧ PR V4 q ∧ Below w.heap.size w V4 ∧ Blk V4 d2 25 p.cells ∧ Blk V4 d3 25 q.cells ∧ sameP p q = true) := ⟨ha.out, H3.out.1.below hb4, H3.out.2.1.below hb4, below_tr H3.out.2.2.1 hb4, H3.out.2.2.2.1.below hb4 H3.out.2.2.2.1.lt, H3.out.2.2.2.2.1.below hb4 H3.out.2.2.2.2.1.lt, H3.out.2.2.2.2.2⟩
    clear ha hb4 H3
    go_wp2_with (with_reducible change wpList _ _ _ ({ dst := some 38, op := _, type := _, pos := _, after := _, guard := _ } :: _) _ _; refine Hid.out ?_)
    show wpList _ _ _ _ _ _
    refine wpList_load_mid rfl 25 (.tmp 3) rfl d3 0 rfl q.cells _ H4.out.2.2.2.2.2.1.range0 Try.underlying25 rfl (info25 q) ?_
    go_wp2_with fail
    refine (encode_any V4 q H4.out.2.2.1 EQ HE.out.2).mono ?_
    rintro e V5 ⟨vb, nb, cb, rfl, hbb, hb5⟩
    have H5 : Hid ((EP = 0 → In V5 va na ca (ptB p)) ∧ (EQ = 0 → In V5 vb nb cb (ptB q)) ∧ PR V5 p ∧ PR V5 q ∧ Below w.heap.size w V5 ∧ Blk V5 d2 25 p.cells ∧ Blk V5 d3 25 q.cells ∧ sameP p q = true) := ⟨fun h => (H4.out.1 h).below hb5, hbb.out, H4.out.2.1.below hb5, H4.out.2.2.1.below hb5, below_tr H4.out.2.2.2.1 hb5, H4.out.2.2.2.2.1.below hb5 H4.out.2.2.2.2.1.lt, H4.out.2.2.2.2.2.1.below hb5 H4.out.2.2.2.2.2.1.lt, H4.out.2.2.2.2.2.2⟩
    clear hbb hb5 H4
    by_cases hEP : EP = 0
    · subst hEP
      by_cases hEQ : EQ = 0
      · subst hEQ
        have HL : Hid (d2 < V5.heap.size ∧ d3 < V5.heap.size) := ⟨H5.out.2.2.2.2.2.1.lt, H5.out.2.2.2.2.2.2.1.lt⟩
        have HR : Hid (V5.rangeAt d2 0 p.cells ∧ V5.rangeAt d3 0 q.cells) := ⟨H5.out.2.2.2.2.2.1.range0, H5.out.2.2.2.2.2.2.1.range0⟩
        have HA : Hid (In V5 va na ca (ptB p) ∧ In V5 vb nb cb (ptB q)) := ⟨H5.out.1 rfl, H5.out.2.1 rfl⟩
        have HXY : Hid (((⟨(ptB p).toArray⟩ : BA).toList == (⟨(ptB q).toArray⟩ : BA).toList) = true) := by
          have hu := unlike H5.out.2.2.1 H5.out.2.2.2.1 HE.out.1 HE.out.2
          show _ = true
          rw [ba_eq, ← H5.out.2.2.2.2.2.2.2, Bool.eq_iff_iff, decide_eq_true_eq, ← hu]
          constructor
          · intro h
            have h2 : (ptB p).toArray = (ptB q).toArray := congrArg ByteArray.data h
            simpa using h2
          · intro h
            rw [h]
        have HS : Hid (∀ V, Below V5.heap.size V5 V → Calls Try.prog 18 #[.agg p.cells.toArray, .agg q.cells.toArray] V fun e V3 => e = .returned (.bool true) ∧ Below V.heap.size V V3) := fun V hV => same_is V p q (H5.out.2.2.1.below hV) (H5.out.2.2.2.1.below hV) true H5.out.2.2.2.2.2.2.2
        have H8 : Hid (∀ V, Below V5.heap.size V5 V → Calls Try.prog 8 #[] V fun e V3 => e = .returned (.bool true) ∧ Below V.heap.size V V3) := fun V _ => lives_is V
        go_wp2_with fail
        refine ul9t HL HR HA HXY HS H8 ?_
        intro V6 hb6
        have HF : Hid (Below w.heap.size w V6) := below_tr H5.out.2.2.2.2.1 hb6
        clear hb6
        go_wp2
        go_ret
        exact ⟨rfl, HF.out⟩
      · have e2 : (EQ != 0) = true := by simpa using hEQ
        clear hEQ
        go_wp2_with fail
        refine (lives_is V5).mono ?_
        rintro e V9 ⟨rfl, hb9⟩
        have HF : Hid (Below w.heap.size w V9) := below_tr H5.out.2.2.2.2.1 hb9
        clear hb9
        go_wp2
        go_ret
        exact ⟨rfl, HF.out⟩
    · have e1 : (EP != 0) = true := by simpa using hEP
      clear hEP
      go_wp2_with fail
      refine (lives_is V5).mono ?_
      rintro e V9 ⟨rfl, hb9⟩
      have HF : Hid (Below w.heap.size w V9) := below_tr H5.out.2.2.2.2.1 hb9
      clear hb9
      go_wp2
      go_ret
      exact ⟨rfl, HF.out⟩
  | false =>
    go_wp2_with fail
    refine ul3f HL HR HS HR15 HT HS2 ?_
    intro V3 qt hb3
    have H3 : Hid (PR V3 p ∧ PR V3 q ∧ Below w.heap.size w V3 ∧ Blk V3 d2 25 p.cells ∧ Blk V3 d3 25 q.cells ∧ sameP p q = false) := ⟨HPP.out.1.below hb3, HPP.out.2.1.below hb3, below_tr HPP.out.2.2.1 hb3, HPP.out.2.2.2.1.below hb3 HPP.out.2.2.2.1.lt, HPP.out.2.2.2.2.1.below hb3 HPP.out.2.2.2.2.1.lt, HPP.out.2.2.2.2.2⟩
    clear hb3 HPP HL HR HS HR15 HT HS2
    go_wp2_with (with_reducible change wpList _ _ _ ({ dst := some 33, op := _, type := _, pos := _, after := _, guard := _ } :: _) _ _; refine Hid.out ?_)
    show wpList _ _ _ _ _ _
    refine wpList_load_mid rfl 25 (.tmp 2) rfl d2 0 rfl p.cells _ H3.out.2.2.2.1.range0 Try.underlying25 rfl (info25 p) ?_
    go_wp2_with fail
    refine (encode_any V3 p H3.out.1 EP HE.out.1).mono ?_
    rintro e V4 ⟨va, na, ca, rfl, ha, hb4⟩
    have H4 : Hid ((EP = 0 → In V4 va na ca (ptB p)) ∧ PR V4 p ∧ PR V4 q ∧ Below w.heap.size w V4 ∧ Blk V4 d2 25 p.cells ∧ Blk V4 d3 25 q.cells ∧ sameP p q = false) := ⟨ha.out, H3.out.1.below hb4, H3.out.2.1.below hb4, below_tr H3.out.2.2.1 hb4, H3.out.2.2.2.1.below hb4 H3.out.2.2.2.1.lt, H3.out.2.2.2.2.1.below hb4 H3.out.2.2.2.2.1.lt, H3.out.2.2.2.2.2⟩
    clear ha hb4 H3
    go_wp2_with (with_reducible change wpList _ _ _ ({ dst := some 38, op := _, type := _, pos := _, after := _, guard := _ } :: _) _ _; refine Hid.out ?_)
    show wpList _ _ _ _ _ _
    refine wpList_load_mid rfl 25 (.tmp 3) rfl d3 0 rfl q.cells _ H4.out.2.2.2.2.2.1.range0 Try.underlying25 rfl (info25 q) ?_
    go_wp2_with fail
    refine (encode_any V4 q H4.out.2.2.1 EQ HE.out.2).mono ?_
    rintro e V5 ⟨vb, nb, cb, rfl, hbb, hb5⟩
    have H5 : Hid ((EP = 0 → In V5 va na ca (ptB p)) ∧ (EQ = 0 → In V5 vb nb cb (ptB q)) ∧ PR V5 p ∧ PR V5 q ∧ Below w.heap.size w V5 ∧ Blk V5 d2 25 p.cells ∧ Blk V5 d3 25 q.cells ∧ sameP p q = false) := ⟨fun h => (H4.out.1 h).below hb5, hbb.out, H4.out.2.1.below hb5, H4.out.2.2.1.below hb5, below_tr H4.out.2.2.2.1 hb5, H4.out.2.2.2.2.1.below hb5 H4.out.2.2.2.2.1.lt, H4.out.2.2.2.2.2.1.below hb5 H4.out.2.2.2.2.2.1.lt, H4.out.2.2.2.2.2.2⟩
    clear hbb hb5 H4
    by_cases hEP : EP = 0
    · subst hEP
      by_cases hEQ : EQ = 0
      · subst hEQ
        have HL : Hid (d2 < V5.heap.size ∧ d3 < V5.heap.size) := ⟨H5.out.2.2.2.2.2.1.lt, H5.out.2.2.2.2.2.2.1.lt⟩
        have HR : Hid (V5.rangeAt d2 0 p.cells ∧ V5.rangeAt d3 0 q.cells) := ⟨H5.out.2.2.2.2.2.1.range0, H5.out.2.2.2.2.2.2.1.range0⟩
        have HA : Hid (In V5 va na ca (ptB p) ∧ In V5 vb nb cb (ptB q)) := ⟨H5.out.1 rfl, H5.out.2.1 rfl⟩
        have HXY : Hid (((⟨(ptB p).toArray⟩ : BA).toList == (⟨(ptB q).toArray⟩ : BA).toList) = false) := by
          have hu := unlike H5.out.2.2.1 H5.out.2.2.2.1 HE.out.1 HE.out.2
          show _ = false
          rw [ba_eq, ← H5.out.2.2.2.2.2.2.2, Bool.eq_iff_iff, decide_eq_true_eq, ← hu]
          constructor
          · intro h
            have h2 : (ptB p).toArray = (ptB q).toArray := congrArg ByteArray.data h
            simpa using h2
          · intro h
            rw [h]
        have HS : Hid (∀ V, Below V5.heap.size V5 V → Calls Try.prog 18 #[.agg p.cells.toArray, .agg q.cells.toArray] V fun e V3 => e = .returned (.bool false) ∧ Below V.heap.size V V3) := fun V hV => same_is V p q (H5.out.2.2.1.below hV) (H5.out.2.2.2.1.below hV) false H5.out.2.2.2.2.2.2.2
        have H8 : Hid (∀ V, Below V5.heap.size V5 V → Calls Try.prog 8 #[] V fun e V3 => e = .returned (.bool true) ∧ Below V.heap.size V V3) := fun V _ => lives_is V
        go_wp2_with fail
        refine ul9f HL HR HA HXY HS H8 ?_
        intro V6 hb6
        have HF : Hid (Below w.heap.size w V6) := below_tr H5.out.2.2.2.2.1 hb6
        clear hb6
        go_wp2
        go_ret
        exact ⟨rfl, HF.out⟩
      · have e2 : (EQ != 0) = true := by simpa using hEQ
        clear hEQ
        go_wp2_with fail
        refine (lives_is V5).mono ?_
        rintro e V9 ⟨rfl, hb9⟩
        have HF : Hid (Below w.heap.size w V9) := below_tr H5.out.2.2.2.2.1 hb9
        clear hb9
        go_wp2
        go_ret
        exact ⟨rfl, HF.out⟩
    · have e1 : (EP != 0) = true := by simpa using hEP
      clear hEP
      go_wp2_with fail
      refine (lives_is V5).mono ?_
      rintro e V9 ⟨rfl, hb9⟩
      have HF : Hid (Below w.heap.size w V9) := below_tr H5.out.2.2.2.2.1 hb9
      clear hb9
      go_wp2
      go_ret
      exact ⟨rfl, HF.out⟩
#print axioms unlike_law
end Go.Proofs.Ytgdecjacbkicmaa.Oct
