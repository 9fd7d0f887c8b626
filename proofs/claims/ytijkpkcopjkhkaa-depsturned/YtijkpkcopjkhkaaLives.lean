/-
  Layer 12 (deps): lives.
-/
import Derived.Test.YtijkpkcopjkhkaaLivesReg
namespace Go.Proofs.Ytijkpkcopjkhkaa.Oct
open Go.RowKit

section
variable {ops : Array Oper} {rest : List Oper} {o : Oper} {a : Act} {w : World} {Q : Exit → Act → World → Prop}
theorem wpList_b1 (hg : o.guard = none) (t : TypeId) (k : Nat) (x : Operand) (hop : o.op = Op.build t #[(k, x)]) (u v : Value) (hx : a.eval x = u) (hrun : ∀ W, (Instr.build t #[(k, u)]).run Try.prog W = .ok v W)
    (hK : wpList Try.prog ops Q rest (a.put o.dst v) w) : wpList Try.prog ops Q (o :: rest) a w := by
  refine wpList_plain hg fun K' hK' => ?_
  unfold Oper.wp execOp
  simp [hop, hx, hrun, Result.andThen]
  exact hK' _ _ hK
theorem wpList_b2 (hg : o.guard = none) (t : TypeId) (x y : Operand) (hop : o.op = Op.build t #[(0, x), (1, y)]) (u u2 v : Value) (hx : a.eval x = u) (hy : a.eval y = u2) (hrun : ∀ W, (Instr.build t #[(0, u), (1, u2)]).run Try.prog W = .ok v W)
    (hK : wpList Try.prog ops Q rest (a.put o.dst v) w) : wpList Try.prog ops Q (o :: rest) a w := by
  refine wpList_plain hg fun K' hK' => ?_
  unfold Oper.wp execOp
  simp [hop, hx, hy, hrun, Result.andThen]
  exact hK' _ _ hK
theorem wpList_bsl1 (hg : o.guard = none) (x : Operand) (hop : o.op = Op.buildSlice 26 1 #[(0, x)]) (hx1 : a.eval x = .agg (U (hx 1)).toArray)
    (hK : wpList Try.prog ops Q rest (a.put o.dst (.slice (some ⟨w.heap.size, 0, none⟩) 1 1)) (w.alloc (.cells (UU [hx 1]).toArray 34))) : wpList Try.prog ops Q (o :: rest) a w := by
  refine wpList_plain hg fun K' hK' => ?_
  unfold Oper.wp execOp
  simp [hop, hx1, run_bs1, Result.andThen]
  exact hK' _ _ hK
theorem wpList_bsl12 (hg : o.guard = none) (x y : Operand) (hop : o.op = Op.buildSlice 26 2 #[(0, x), (1, y)]) (hx1 : a.eval x = .agg (U (hx 1)).toArray) (hx2 : a.eval y = .agg (U (hx 2)).toArray)
    (hK : wpList Try.prog ops Q rest (a.put o.dst (.slice (some ⟨w.heap.size, 0, none⟩) 2 2)) (w.alloc (.cells (UU [hx 1, hx 2]).toArray 34))) : wpList Try.prog ops Q (o :: rest) a w :=
  wpList_plain hg fun _ hK' => wp_bs12 x y hop hx1 hx2 (hK' _ _ hK)
theorem wpList_bits (hg : o.guard = none) (x y z : Operand) (hop : o.op = Op.buildSlice 22 3 #[(0, x), (1, y), (2, z)]) (p p' : Option Addr) (hx1 : a.eval x = .agg (i3 p).cells.toArray) (hx2 : a.eval y = .agg i1.cells.toArray) (hx3 : a.eval z = .agg (i2 p').cells.toArray)
    (hK : wpList Try.prog ops Q rest (a.put o.dst (.slice (some ⟨w.heap.size, 0, none⟩) 3 3)) (w.alloc (.cells ((i3 p).cells ++ i1.cells ++ (i2 p').cells).toArray 36))) : wpList Try.prog ops Q (o :: rest) a w := by
  refine wpList_plain hg fun K' hK' => ?_
  unfold Oper.wp execOp
  simp only [hop, hx1, hx2, hx3, run_its, Result.andThen, Sem.run_bind, Sem.run_pure, List.map_toArray, List.map_cons, List.map_nil]
  exact hK' _ _ hK
end
theorem rise12 : [hx 1, hx 2].Pairwise LtH := by simp [lt12]
theorem rise23 : [hx 2, hx 3].Pairwise LtH := by simp [lt23]

theorem its_new (W : World) (p p' : Option Addr) (h3 : HsR (W.alloc (.cells ((i3 p).cells ++ i1.cells ++ (i2 p').cells).toArray 36)) p 2 [hx 1, hx 2]) (h2 : HsR (W.alloc (.cells ((i3 p).cells ++ i1.cells ++ (i2 p').cells).toArray 36)) p' 1 [hx 1]) :
    Its (W.alloc (.cells ((i3 p).cells ++ i1.cells ++ (i2 p').cells).toArray 36)) (some ⟨W.heap.size, 0, none⟩) 3 [i3 p, i1, i2 p'] := by
  have hl3 : (i3 p).cells.length = 33 := It.cells_length _ (hx_len 3)
  have hl1 : i1.cells.length = 33 := It.cells_length _ (hx_len 1)
  have hr : (W.alloc (.cells ((i3 p).cells ++ i1.cells ++ (i2 p').cells).toArray 36)).rangeAt W.heap.size 0 ((i3 p).cells ++ i1.cells ++ (i2 p').cells) := by
    intro j v hj
    have := (Blk.new W ((i3 p).cells ++ i1.cells ++ (i2 p').cells).toArray 36).cell (i := 0 + j) (v := v) (by simpa using hj)
    exact this
  have r12 := rangeAt_left hr
  have r3 := rangeAt_right hr
  have ra := rangeAt_left r12
  have rb := rangeAt_right r12
  rw [hl3] at rb
  rw [List.length_append, hl3, hl1] at r3
  refine ⟨rfl, fun _ => ⟨_, _, rfl, by simp, fun i x hi => ?_⟩⟩
  match i, hi with
  | 0, hi =>
    simp at hi; subst hi
    exact ⟨hx_len 3, by simpa using ra, h3, Nat.le_refl _, by show 2 ≤ _; omega⟩
  | 1, hi =>
    simp at hi; subst hi
    exact ⟨hx_len 1, by simpa using rb, HsR.nil _ _, Nat.le_refl _, by show 0 ≤ _; omega⟩
  | 2, hi =>
    simp at hi; subst hi
    exact ⟨hx_len 2, by simpa using r3, h2, Nat.le_refl _, by show 1 ≤ _; omega⟩
  | i + 3, hi => simp at hi
theorem many_lv (p p' : Option Addr) : many [i3 p, i1, i2 p'] = 3 := rfl
attribute [local irreducible] hx i1 i2 i3
set_option maxRecDepth 100000 in
set_option maxHeartbeats 1000000 in
theorem lives_is (w : World) : Calls Try.prog 9 #[] w fun e w' => e = .returned (.bool true) ∧ Hid (Below w.heap.size w w') := by
  obtain ⟨Y, hYl, hY⟩ := zero34
  have HZ : Hid (Y.length = 32) := hYl
  clear hYl
  have H0 : Hid (Blk (((w.alloc (.cells Y.toArray 34)).alloc (.cells Y.toArray 34)).alloc (.cells Y.toArray 34)) w.heap.size 34 Y ∧ Blk (((w.alloc (.cells Y.toArray 34)).alloc (.cells Y.toArray 34)).alloc (.cells Y.toArray 34)) (w.heap.size + 1) 34 Y ∧ Blk (((w.alloc (.cells Y.toArray 34)).alloc (.cells Y.toArray 34)).alloc (.cells Y.toArray 34)) (w.heap.size + 1 + 1) 34 Y ∧ Below w.heap.size w (((w.alloc (.cells Y.toArray 34)).alloc (.cells Y.toArray 34)).alloc (.cells Y.toArray 34))) := by
    refine ⟨((by simpa using Blk.new w Y.toArray 34 : Blk _ _ 34 Y).alloc _).alloc _, Blk.alloc ?_ _, ?_, ?_⟩
    · have := Blk.new (w.alloc (.cells Y.toArray 34)) Y.toArray 34
      simpa using this
    · have := Blk.new ((w.alloc (.cells Y.toArray 34)).alloc (.cells Y.toArray 34)) Y.toArray 34
      simpa using this
    · exact (((Below.refl _ w).alloc (Nat.le_refl _) _).alloc (by simp) _).alloc (by simp; omega) _
  go_enter Try.func9, Try.ntmps9
  go_wp2_with (first
    | (with_reducible change wpList _ _ _ ({ dst := some 7, op := _, type := _, pos := _, after := _, guard := _ } :: _) _ _
       refine wpList_b1 rfl 34 0 _ rfl _ _ rfl run_b34_1 ?_)
    | (with_reducible change wpList _ _ _ ({ dst := some 8, op := _, type := _, pos := _, after := _, guard := _ } :: _) _ _
       refine wpList_b1 rfl 34 0 _ rfl _ _ rfl run_b34_2 ?_)
    | (with_reducible change wpList _ _ _ ({ dst := some 9, op := _, type := _, pos := _, after := _, guard := _ } :: _) _ _
       refine wpList_b1 rfl 34 0 _ rfl _ _ rfl run_b34_3 ?_)
    | (with_reducible change wpList _ _ _ ({ dst := none, op := Op.store 34 (Operand.tmp 1) _, type := _, pos := _, after := _, guard := _ } :: _) _ _
       refine wpList_store_blk rfl 34 (.tmp 1) (.tmp 7) rfl w.heap.size 0 34 Y (U (hx 1)) rfl rfl H0.out.1 (by rw [U_length, hx_len, HZ.out]; omega) (info34 (hx 1) (hx_len 1)) (U_one _) ?_
       intro V1 S1 T1)
    | (with_reducible change wpList _ _ _ ({ dst := none, op := Op.store 34 (Operand.tmp 2) _, type := _, pos := _, after := _, guard := _ } :: _) _ _
       refine wpList_store_blk rfl 34 (.tmp 2) (.tmp 8) rfl (w.heap.size + 1) 0 34 Y (U (hx 2)) rfl rfl (H0.out.2.1.kept T1.out (by simp)) (by rw [U_length, hx_len, HZ.out]; omega) (info34 (hx 2) (hx_len 2)) (U_one _) ?_
       intro V2 S2 T2)
    | (with_reducible change wpList _ _ _ ({ dst := none, op := Op.store 34 (Operand.tmp 3) _, type := _, pos := _, after := _, guard := _ } :: _) _ _
       refine wpList_store_blk rfl 34 (.tmp 3) (.tmp 9) rfl (w.heap.size + 1 + 1) 0 34 Y (U (hx 3)) rfl rfl ((H0.out.2.2.1.kept T1.out (by simp; omega)).kept T2.out (by simp)) (by rw [U_length, hx_len, HZ.out]; omega) (info34 (hx 3) (hx_len 3)) (U_one _) ?_
       intro V3 S3 T3)
    | (with_reducible change wpList _ _ _ ({ dst := some 10, op := _, type := _, pos := _, after := _, guard := _ } :: _) _ _
       refine Hid.out ?_)
    | fail)
  show wpList _ _ _ _ _ _
  have HV : Hid (Below w.heap.size w V3 ∧ V3.rangeAt w.heap.size 0 (U (hx 1)) ∧ V3.rangeAt (w.heap.size + 1) 0 (U (hx 2)) ∧ V3.rangeAt (w.heap.size + 1 + 1) 0 (U (hx 3)) ∧ w.heap.size + 1 + 1 < V3.heap.size) := by
    have e1 : ∀ k, Y.take 0 ++ U (hx k) ++ Y.drop (0 + (U (hx k)).length) = U (hx k) := fun k => by
      rw [List.drop_of_length_le (by rw [U_length, hx_len, HZ.out]; omega)]; simp
    have k1 : Blk V1 w.heap.size 34 (U (hx 1)) := by have := S1.out; rw [e1 1] at this; exact this
    have k2 : Blk V2 (w.heap.size + 1) 34 (U (hx 2)) := by have := S2.out; rw [e1 2] at this; exact this
    have k3 : Blk V3 (w.heap.size + 1 + 1) 34 (U (hx 3)) := by have := S3.out; rw [e1 3] at this; exact this
    have k2' := k2.kept T3.out (by simp)
    have k1' := (k1.kept T2.out (by simp)).kept T3.out (by simp; omega)
    refine ⟨below_grownBy (below_grownBy (below_grownBy H0.out.2.2.2 T1.out (Nat.le_refl _) (Nat.le_refl _)) T2.out (by omega) (Nat.le_refl _)) T3.out (by omega) (Nat.le_refl _), ?_, ?_, ?_, k3.lt⟩
    · have := k1'.range 0 32
      rw [List.drop_zero, List.take_of_length_le (by rw [U_length, hx_len]; omega)] at this
      exact this
    · have := k2'.range 0 32
      rw [List.drop_zero, List.take_of_length_le (by rw [U_length, hx_len]; omega)] at this
      exact this
    · have := k3.range 0 32
      rw [List.drop_zero, List.take_of_length_le (by rw [U_length, hx_len]; omega)] at this
      exact this
  clear S1 S2 S3 T1 T2 T3 H0
  have hb1 := below_new V3 (.cells (UU [hx 1, hx 2]).toArray 34)
  have HV1 : Hid ((V3.alloc (.cells (UU [hx 1, hx 2]).toArray 34)).rangeAt w.heap.size 0 (U (hx 1)) ∧ (V3.alloc (.cells (UU [hx 1, hx 2]).toArray 34)).rangeAt (w.heap.size + 1) 0 (U (hx 2))) := ⟨rangeAt_same HV.out.2.1 (hb1.block _ (by have := HV.out.2.2.2.2; omega)), rangeAt_same HV.out.2.2.1 (hb1.block _ (by have := HV.out.2.2.2.2; omega))⟩
  clear hb1
  go_wp2_with (first
    | (with_reducible change wpList _ _ _ ({ dst := some 10, op := _, type := _, pos := _, after := _, guard := _ } :: _) _ _
       refine wpList_load_mid rfl 34 (.tmp 3) rfl (w.heap.size + 1 + 1) 0 rfl (U (hx 3)) _ HV.out.2.2.2.1 Try.underlying34 rfl (info34 (hx 3) (hx_len 3)) ?_)
    | (with_reducible change wpList _ _ _ ({ dst := some 11, op := _, type := _, pos := _, after := _, guard := _ } :: _) _ _
       refine wpList_load_mid rfl 34 (.tmp 1) rfl w.heap.size 0 rfl (U (hx 1)) _ HV.out.2.1 Try.underlying34 rfl (info34 (hx 1) (hx_len 1)) ?_)
    | (with_reducible change wpList _ _ _ ({ dst := some 12, op := _, type := _, pos := _, after := _, guard := _ } :: _) _ _
       refine wpList_load_mid rfl 34 (.tmp 2) rfl (w.heap.size + 1) 0 rfl (U (hx 2)) _ HV.out.2.2.1 Try.underlying34 rfl (info34 (hx 2) (hx_len 2)) ?_)
    | (with_reducible change wpList _ _ _ ({ dst := some 13, op := _, type := _, pos := _, after := _, guard := _ } :: _) _ _
       refine Hid.out ?_)
    | fail)
  show wpList _ _ _ _ _ _
  refine wpList_bsl12 rfl (.tmp 11) (.tmp 12) rfl rfl rfl ?_
  simp only [Act.put, List.setIfInBounds_toArray, List.set_cons_zero, List.set_cons_succ]
  have HN1 : Hid (HsR (V3.alloc (.cells (UU [hx 1, hx 2]).toArray 34)) (some ⟨V3.heap.size, 0, none⟩) 2 [hx 1, hx 2] ∧ Below V3.heap.size V3 (V3.alloc (.cells (UU [hx 1, hx 2]).toArray 34))) := ⟨HsR.new V3 [hx 1, hx 2] hx12l, below_new V3 _⟩
  generalize hA1 : V3.alloc (.cells (UU [hx 1, hx 2]).toArray 34) = A1 at HV1 HN1 ⊢
  generalize hg1 : (⟨V3.heap.size, 0, none⟩ : Addr) = g1 at HN1 ⊢
  refine wpList_b2 rfl 36 (.tmp 10) (.tmp 13) rfl (.agg (U (hx 3)).toArray) (.slice (some g1) 2 2) (.agg (i3 (some g1)).cells.toArray) rfl rfl (fun W => run_it3 W _) ?_
  simp only [Act.put, List.setIfInBounds_toArray, List.set_cons_zero, List.set_cons_succ]
  refine wpList_load_mid rfl 34 (.tmp 1) rfl w.heap.size 0 rfl (U (hx 1)) _ HV1.out.1 Try.underlying34 rfl (info34 (hx 1) (hx_len 1)) ?_
  simp only [Act.put, List.setIfInBounds_toArray, List.set_cons_zero, List.set_cons_succ]
  refine wpList_b1 rfl 36 0 (.tmp 15) rfl (.agg (U (hx 1)).toArray) (.agg i1.cells.toArray) rfl run_it1 ?_
  simp only [Act.put, List.setIfInBounds_toArray, List.set_cons_zero, List.set_cons_succ]
  refine wpList_load_mid rfl 34 (.tmp 2) rfl (w.heap.size + 1) 0 rfl (U (hx 2)) _ HV1.out.2 Try.underlying34 rfl (info34 (hx 2) (hx_len 2)) ?_
  simp only [Act.put, List.setIfInBounds_toArray, List.set_cons_zero, List.set_cons_succ]
  refine wpList_load_mid rfl 34 (.tmp 1) rfl w.heap.size 0 rfl (U (hx 1)) _ HV1.out.1 Try.underlying34 rfl (info34 (hx 1) (hx_len 1)) ?_
  simp only [Act.put, List.setIfInBounds_toArray, List.set_cons_zero, List.set_cons_succ]
  refine wpList_bsl1 rfl (.tmp 18) rfl rfl ?_
  simp only [Act.put, List.setIfInBounds_toArray, List.set_cons_zero, List.set_cons_succ]
  have HN2 : Hid (HsR (A1.alloc (.cells (UU [hx 1]).toArray 34)) (some ⟨A1.heap.size, 0, none⟩) 1 [hx 1] ∧ Below A1.heap.size A1 (A1.alloc (.cells (UU [hx 1]).toArray 34))) := ⟨HsR.new A1 [hx 1] (by intro h hh; simp at hh; subst hh; exact hx_len 1), below_new A1 _⟩
  generalize hA2 : A1.alloc (.cells (UU [hx 1]).toArray 34) = A2 at HN2 ⊢
  generalize hg2 : (⟨A1.heap.size, 0, none⟩ : Addr) = g2 at HN2 ⊢
  refine wpList_b2 rfl 36 (.tmp 17) (.tmp 19) rfl (.agg (U (hx 2)).toArray) (.slice (some g2) 1 1) (.agg (i2 (some g2)).cells.toArray) rfl rfl (fun W => run_it2 W _) ?_
  simp only [Act.put, List.setIfInBounds_toArray, List.set_cons_zero, List.set_cons_succ]
  refine wpList_bits rfl (.tmp 14) (.tmp 16) (.tmp 20) rfl (some g1) (some g2) rfl rfl rfl ?_
  simp only [Act.put, List.setIfInBounds_toArray, List.set_cons_zero, List.set_cons_succ]
  have HN3 : Hid (Its (A2.alloc (.cells ((i3 (some g1)).cells ++ i1.cells ++ (i2 (some g2)).cells).toArray 36)) (some ⟨A2.heap.size, 0, none⟩) 3 [i3 (some g1), i1, i2 (some g2)] ∧ Below A2.heap.size A2 (A2.alloc (.cells ((i3 (some g1)).cells ++ i1.cells ++ (i2 (some g2)).cells).toArray 36))) := by
    have hb := below_new A2 (.cells ((i3 (some g1)).cells ++ i1.cells ++ (i2 (some g2)).cells).toArray 36)
    exact ⟨its_new A2 (some g1) (some g2) ((HN1.out.1.below HN2.out.2).below hb) (HN2.out.1.below hb), hb⟩
  generalize hA3 : A2.alloc (.cells ((i3 (some g1)).cells ++ i1.cells ++ (i2 (some g2)).cells).toArray 36) = A3 at HN3 ⊢
  generalize hg3 : (⟨A2.heap.size, 0, none⟩ : Addr) = g3 at HN3 ⊢
  clear hA1 hA2 hA3 hg1 hg2 hg3
  have HEX : Hid (Exam (i3 (some g1)) i1 (i2 (some g2)) (hx 1) (hx 2) (hx 3) ∧ many [i3 (some g1), i1, i2 (some g2)] ≤ 90000) := ⟨exam_is _ _, by rw [many_lv]; omega⟩
  have H11 : Hid (Calls Try.prog 11 #[.slice (some g3) 3 3] A3 fun e V => ∃ p n c, e = .returned (.tuple #[.slice p n c, .int .i64 0]) ∧ Hid (HsR V p n [hx 1, hx 2, hx 3] ∧ n ≤ 100000) ∧ Hid (Below A3.heap.size A3 V)) := by
    refine (order_is A3 (some g3) 3 3 _ HN3.out.1 (by omega) HEX.out.2).mono ?_
    rintro e V ⟨p, n, c, er, hs, rfl, G1, G2, G3⟩
    obtain ⟨rfl, rfl⟩ := HEX.out.1.ord G2.out
    exact ⟨p, n, c, rfl, G1, G3⟩
  go_wp2_with fail
  refine H11.out.mono ?_
  rintro e A ⟨po, no, co, rfl, G1, G2⟩
  go_wp2
  have HB3 : Hid (Below V3.heap.size V3 A ∧ Below w.heap.size w A) := by
    have h1 := HN1.out.2.trans (HN2.out.2.mono HN1.out.2.size)
    have h2 := h1.trans (HN3.out.2.mono h1.size)
    have h3 := h2.trans (G2.out.mono h2.size)
    exact ⟨h3, HV.out.1.trans (h3.mono HV.out.1.size)⟩
  have HIA : Hid (Its A (some g3) 3 [i3 (some g1), i1, i2 (some g2)]) := HN3.out.1.below G2.out
  have hsz := HV.out.2.2.2.2
  have hsz2 := HB3.out.1.size
  refine lives_region (b1 := w.heap.size) (b2 := w.heap.size + 1) (b3 := w.heap.size + 1 + 1) ⟨⟨rangeAt_same HV.out.2.1 (HB3.out.1.block _ (by omega)), rangeAt_same HV.out.2.2.1 (HB3.out.1.block _ (by omega)), rangeAt_same HV.out.2.2.2.1 (HB3.out.1.block _ hsz)⟩, by omega, by omega, by omega⟩ (fun V hV => ?_) (fun V hV => ?_) (fun V hV => ?_) (fun V hV => ?_) G1 ?_
  · refine (needs_is V (some g3) 3 3 _ (hx 3) (HIA.out.below hV) (hx_len 3) (by omega) HEX.out.2).mono ?_
    rintro e V1 ⟨p, n, c, rs, rfl, F1, F2⟩
    have : rs = [hx 1, hx 2] := rise_eq F1.out.2.2.1 rise12 (fun x => (F1.out.2.2.2 x).trans ⟨fun h => (HEX.out.1.needs x).1 h.2, fun h => ⟨by omega, (HEX.out.1.needs x).2 h⟩⟩)
    subst this
    exact ⟨p, n, c, rfl, ⟨F1.out.1, F1.out.2.1⟩, F2⟩
  · refine (above_is V (some g3) 3 3 _ (hx 1) (HIA.out.below hV) (hx_len 1) (by omega) HEX.out.2).mono ?_
    rintro e V1 ⟨p, n, c, rs, rfl, F1, F2⟩
    have : rs = [hx 2, hx 3] := rise_eq F1.out.2.2.1 rise23 (fun x => (F1.out.2.2.2 x).trans ⟨fun h => (HEX.out.1.above x).1 h.2, fun h => ⟨by omega, (HEX.out.1.above x).2 h⟩⟩)
    subst this
    exact ⟨p, n, c, rfl, ⟨F1.out.1, F1.out.2.1⟩, F2⟩
  · refine (closed_is V (some g3) 3 3 _ (HIA.out.below hV) (by omega) HEX.out.2).mono ?_
    rintro e V1 ⟨b, rfl, F1, F2⟩
    have : b = true := F1.out.2 ⟨by omega, HEX.out.1.nodup, HEX.out.1.whole⟩
    subst this
    exact ⟨rfl, F2⟩
  · refine (missing_is V (some g3) 3 3 _ (HIA.out.below hV) (by omega) HEX.out.2).mono ?_
    rintro e V1 ⟨p, n, c, rs, rfl, F1, F2⟩
    have : rs = [] := by
      cases rs with
      | nil => rfl
      | cons x t => exact absurd ((F1.out.2.2.2 x).1 (by simp)).2 (HEX.out.1.whole x)
    subst this
    obtain rfl : n = 0 := F1.out.1.1.symm
    exact ⟨p, c, rfl, F2⟩
  show ∀ _, _
  intro s34 p40 n40 c40 s43 p49 n49 c49 s52 p61 c61 V hV
  have HF : Hid (Below w.heap.size w V) := HB3.out.2.trans (hV.mono HB3.out.2.size)
  clear hV hsz hsz2
  go_wp2
  go_ret
  exact ⟨rfl, HF⟩
#print axioms lives_is
end Go.Proofs.Ytijkpkcopjkhkaa.Oct
