/-
  Layer 10 (patch): the law Encodes.
-/
import Derived.Test.YtgdecjacbkicmaaDoorQkEnm
import Derived.Deep.MidRow
import Derived.Deep.RegionHeld
/- Layer 10 (patch): the law Encodes. -/
namespace Go.Proofs.YtgdecjacbkicmaaDoor.Oct
open Go.RowKit
set_option maxRecDepth 100000
set_option linter.unusedSimpArgs false
set_option linter.unusedVariables false

theorem wpList_eqH {ops : Array Oper} {rest : List Oper} {o : Oper} {a : Act} {w : World} {Q : Exit → Act → World → Prop} (hw : Region.wanted o (yielded ops a.tmps) = true) (p q : Operand) (hop : o.op = .binOp .eql 36 p q 36) (x : Hs) (hx : x.length = 32) (h1 : a.eval p = .agg (U x).toArray) (h2 : a.eval q = .agg (U x).toArray)
    (h : wpList Tryd.prog ops Q rest (a.put o.dst (.bool true)) w) : wpList Tryd.prog ops Q (o :: rest) a w := by
  refine Go.BigFrame.wpList_want hw fun K hK => ?_
  have he := eqHb x x hx hx w
  rw [decide_eq_true (rfl : x = x)] at he
  have hg : (eqGuard BinOp.eql 36 p q (.agg (U x).toArray) (.agg (U x).toArray)).run Tryd.prog w = .ok () w := by
    first
    | (simp [eqGuard, go_sem]; done)
    | (unfold eqGuard; simp [go_sem, Tryd.underlying36]; done)
    | (unfold eqGuard; go_simp; done)
  unfold Oper.wp execOp
  simp only [hop, h1, h2, Sem.run_bind, Sem.run_pure, hg, Result.andThen_ok, he]
  exact hK _ _ h
set_option maxHeartbeats 8000000 in
theorem encodes_law (w : World) (p : PV) (hp : PR w p) (hk : KS w) : Calls Tryd.prog 3 #[.agg p.cells.toArray] w fun e w' => e = .returned (.bool true) ∧ Below w.heap.size w w' := by
  obtain ⟨d1, hd1⟩ : ∃ d, w.heap.size = d := ⟨_, rfl⟩
  obtain ⟨W, hW⟩ : ∃ W, w.alloc (.cells p.cells.toArray 25) = W := ⟨_, rfl⟩
  have hkb : Blk W d1 25 p.cells := by rw [← hW, ← hd1]; exact Blk.new w _ _
  have hbw : Below w.heap.size w W := by rw [← hW]; exact below_al _ _
  have HP : Hid (PR W p ∧ Below w.heap.size w W ∧ Blk W d1 25 p.cells ∧ KS W) := ⟨hp.below hbw, hbw, hkb, hk.below hbw⟩
  obtain ⟨Z, hZ, HZ⟩ := zero47
  have HZL : Hid (Z.length = 32) := by show _ = _; rw [HZ.out]; rfl
  clear hp hkb hbw hk HZ
  go_enter Tryd.func3, Tryd.ntmps3
  go_wp2_with (with_reducible change wpList _ _ _ ({ dst := some 11, op := _, type := _, pos := _, after := _, guard := _ } :: _) _ _; refine Hid.out ?_)
  show wpList _ _ _ _ _ _
  refine wpList_load_mid rfl 25 (.tmp 1) rfl d1 0 rfl p.cells _ HP.out.2.2.1.range0 Tryd.underlying25 rfl (info25 p) ?_
  clear hd1 hW
  go_wp2_with fail
  refine (light_is W p HP.out.1).mono ?_
  rintro e V1 ⟨B1, rfl, hl1, hb1⟩
  have H1 : Hid ((B1 = true → LT p) ∧ PR V1 p ∧ Below w.heap.size w V1 ∧ Blk V1 d1 25 p.cells ∧ KS V1) := ⟨hl1.out, HP.out.1.below hb1, below_tr HP.out.2.1 hb1, HP.out.2.2.1.below hb1 HP.out.2.2.1.lt, HP.out.2.2.2.below hb1⟩
  clear hl1 hb1 HP
  cases B1 with
  | false =>
    go_wp2_with fail
    refine (lives_is V1).mono ?_
    rintro e V9 ⟨rfl, hb9⟩
    have HF : Hid (Below w.heap.size w V9) := below_tr H1.out.2.2.1 hb9
    clear hb9
    go_wp2
    go_ret
    exact ⟨rfl, HF.out⟩
  | true =>
  have hlt : LT p := H1.out.1 (by trivial)
  obtain ⟨E, hE⟩ : ∃ E, chk p = E := ⟨_, rfl⟩
  obtain ⟨L, hL⟩ : ∃ L, ebs p E = L := ⟨_, rfl⟩
  obtain ⟨H, hH⟩ : ∃ H, ehs p E = H := ⟨_, rfl⟩
  have HE : Hid (chk p = E ∧ ebs p E = L ∧ ehs p E = H ∧ H.length = 32 ∧ p.dn ≤ 1000 ∧ p.on ≤ 1000 ∧ (∀ o ∈ p.O, o.ln ≤ 1000)) := ⟨hE, hL, hH, by rw [← hH]; exact ehs_len p E, by have := hlt.1; omega, by have := hlt.2.1; omega, fun o ho => by have := hlt.2.2 o ho; omega⟩
  clear hlt hE hL hH
  go_wp2_with (with_reducible change wpList _ _ _ ({ dst := some 16, op := _, type := _, pos := _, after := _, guard := _ } :: _) _ _; refine Hid.out ?_)
  show wpList _ _ _ _ _ _
  refine wpList_load_mid rfl 25 (.tmp 1) rfl d1 0 rfl p.cells _ H1.out.2.2.2.1.range0 Tryd.underlying25 rfl (info25 p) ?_
  go_wp2_with fail
  refine (twin_is V1 p H1.out.2.1 HE.out.2.2.2.2).mono ?_
  rintro e V2 ⟨q, rfl, hq, hb2⟩
  have H2 : Hid (PR V2 q ∧ Tw p q ∧ PR V2 p ∧ Below w.heap.size w V2 ∧ Blk V2 d1 25 p.cells ∧ KS V2) := ⟨hq.out.1, hq.out.2, H1.out.2.1.below hb2, below_tr H1.out.2.2.1 hb2, H1.out.2.2.2.1.below hb2 H1.out.2.2.2.1.lt, H1.out.2.2.2.2.below hb2⟩
  clear hq hb2 H1
  go_wp2_with fail
  refine (encode_ebs V2 q H2.out.1 E (H2.out.2.1.chk.trans HE.out.1) L (by have h := HE.out.2.1; unfold ebs at h ⊢; rw [H2.out.2.1.bytes]; exact h)).mono ?_
  rintro e V3 ⟨va, n, c, rfl, hin, hb3⟩
  have H3 : Hid (PR V3 p ∧ Below w.heap.size w V3 ∧ Blk V3 d1 25 p.cells ∧ KS V3 ∧ In V3 va n c L) := ⟨H2.out.2.2.1.below hb3, below_tr H2.out.2.2.2.1 hb3, H2.out.2.2.2.2.1.below hb3 H2.out.2.2.2.2.1.lt, H2.out.2.2.2.2.2.below hb3, hin⟩
  clear hin hb3 H2
  go_wp2_with (with_reducible change wpList _ _ _ ({ dst := some 22, op := _, type := _, pos := _, after := _, guard := _ } :: _) _ _; refine Hid.out ?_)
  show wpList _ _ _ _ _ _
  refine wpList_load_mid rfl 25 (.tmp 1) rfl d1 0 rfl p.cells _ H3.out.2.2.1.range0 Tryd.underlying25 rfl (info25 p) ?_
  go_wp2_with fail
  refine (rencode_is V3 p H3.out.1 (by have := HE.out.2.2.2.2.1; omega) E HE.out.1 L HE.out.2.1).mono ?_
  rintro e V4 ⟨vb, m, cb, rfl, hin, hb4⟩
  have H4 : Hid (PR V4 p ∧ Below w.heap.size w V4 ∧ Blk V4 d1 25 p.cells ∧ KS V4 ∧ In V4 va n c L ∧ In V4 vb m cb L) := ⟨H3.out.1.below hb4, below_tr H3.out.2.1 hb4, H3.out.2.2.1.below hb4 H3.out.2.2.1.lt, H3.out.2.2.2.1.below hb4, H3.out.2.2.2.2.below hb4, hin⟩
  clear hin hb4 H3
  go_wp2_with (with_reducible change wpList _ _ _ ({ dst := some 27, op := _, type := _, pos := _, after := _, guard := _ } :: _) _ _; refine Hid.out ?_)
  show wpList _ _ _ _ _ _
  refine wpList_load_mid rfl 25 (.tmp 1) rfl d1 0 rfl p.cells _ H4.out.2.2.1.range0 Tryd.underlying25 rfl (info25 p) ?_
  go_wp2_with fail
  refine (pname_is V4 p H4.out.1 (by have := HE.out.2.2.2.2.1; omega) H4.out.2.2.2.1 E HE.out.1 H HE.out.2.2.1).mono ?_
  rintro e V5 ⟨rfl, hb5⟩
  obtain ⟨d7, hd7⟩ : ∃ d, V5.heap.size = d := ⟨_, rfl⟩
  have HD7 : Hid (V5.heap.size = d7) := hd7
  have H5 : Hid (PR V5 p ∧ Below w.heap.size w V5 ∧ Blk V5 d1 25 p.cells ∧ KS V5 ∧ In V5 va n c L ∧ In V5 vb m cb L) := ⟨H4.out.1.below hb5, below_tr H4.out.2.1 hb5, H4.out.2.2.1.below hb5 H4.out.2.2.1.lt, H4.out.2.2.2.1.below hb5, H4.out.2.2.2.2.1.below hb5, H4.out.2.2.2.2.2.below hb5⟩
  clear hb5 H4
  go_wp2_with (with_reducible change wpList _ _ _ ({ dst := none, op := Op.store 36 _ _, type := _, pos := _, after := _, guard := _ } :: _) _ _; refine Hid.out ?_)
  show wpList _ _ _ _ _ _
  refine wpList_store_blk rfl 36 (.tmp 7) (.tmp 29) rfl d7 0 36 Z (U H) rfl rfl (by rw [← HD7.out]; exact Blk.new V5 _ _) (by rw [HZL.out, U_length, HE.out.2.2.2.1]; omega) (info47 _ HE.out.2.2.2.1) (U_one _) ?_
  intro V6 hx6 hg6
  have hbV : Below V5.heap.size V5 V6 := below_gr (below_al V5 _) hg6.out (by rw [HD7.out]; exact Nat.le_refl _)
  have H6 : Hid (PR V6 p ∧ Below w.heap.size w V6 ∧ Blk V6 d1 25 p.cells ∧ KS V6 ∧ In V6 va n c L ∧ In V6 vb m cb L ∧ Blk V6 d7 36 (U H)) := ⟨H5.out.1.below hbV, below_tr H5.out.2.1 hbV, H5.out.2.2.1.below hbV H5.out.2.2.1.lt, H5.out.2.2.2.1.below hbV, H5.out.2.2.2.2.1.below hbV, H5.out.2.2.2.2.2.below hbV, blk_all hx6.out (by rw [HZL.out, U_length, HE.out.2.2.2.1])⟩
  clear hx6 hg6 hbV hd7 H5
  go_wp2_with (with_reducible change wpList _ _ _ ({ dst := some 32, op := _, type := _, pos := _, after := _, guard := _ } :: _) _ _; refine Hid.out ?_)
  show wpList _ _ _ _ _ _
  refine wpList_load_mid rfl 25 (.tmp 1) rfl d1 0 rfl p.cells _ H6.out.2.2.1.range0 Tryd.underlying25 rfl (info25 p) ?_
  go_wp2_with fail
  refine (prname_is V6 p H6.out.1 (by have := HE.out.2.2.2.2.1; omega) H6.out.2.2.2.1 E HE.out.1 H HE.out.2.2.1).mono ?_
  rintro e V7 ⟨rfl, hb7⟩
  obtain ⟨d9, hd9⟩ : ∃ d, V7.heap.size = d := ⟨_, rfl⟩
  have HD9 : Hid (V7.heap.size = d9) := hd9
  have H7 : Hid (Below w.heap.size w V7 ∧ In V7 va n c L ∧ In V7 vb m cb L ∧ Blk V7 d7 36 (U H)) := ⟨below_tr H6.out.2.1 hb7, H6.out.2.2.2.2.1.below hb7, H6.out.2.2.2.2.2.1.below hb7, H6.out.2.2.2.2.2.2.below hb7 H6.out.2.2.2.2.2.2.lt⟩
  clear hb7 H6
  go_wp2_with (with_reducible change wpList _ _ _ ({ dst := none, op := Op.store 36 _ _, type := _, pos := _, after := _, guard := _ } :: _) _ _; refine Hid.out ?_)
  show wpList _ _ _ _ _ _
  refine wpList_store_blk rfl 36 (.tmp 9) (.tmp 34) rfl d9 0 36 Z (U H) rfl rfl (by rw [← HD9.out]; exact Blk.new V7 _ _) (by rw [HZL.out, U_length, HE.out.2.2.2.1]; omega) (info47 _ HE.out.2.2.2.1) (U_one _) ?_
  intro V8 hx8 hg8
  have hbV : Below V7.heap.size V7 V8 := below_gr (below_al V7 _) hg8.out (by rw [HD9.out]; exact Nat.le_refl _)
  have H8 : Hid (Below w.heap.size w V8 ∧ In V8 va n c L ∧ In V8 vb m cb L ∧ Blk V8 d7 36 (U H) ∧ Blk V8 d9 36 (U H)) := ⟨below_tr H7.out.1 hbV, H7.out.2.1.below hbV, H7.out.2.2.1.below hbV, H7.out.2.2.2.below hbV H7.out.2.2.2.lt, blk_all hx8.out (by rw [HZL.out, U_length, HE.out.2.2.2.1])⟩
  obtain ⟨S, hS⟩ : ∃ S : BA, (⟨L.toArray⟩ : BA) = S := ⟨_, rfl⟩
  have hcv1 : (convert 28 9 (.slice va n c)).run Tryd.prog V8 = .ok (.string S) V8 := by rw [← hS]; exact string_in Tryd.underlying28 Tryd.underlying5 Tryd.underlying9 H8.out.2.1
  have hcv2 : (convert 28 9 (.slice vb m cb)).run Tryd.prog V8 = .ok (.string S) V8 := by rw [← hS]; exact string_in Tryd.underlying28 Tryd.underlying5 Tryd.underlying9 H8.out.2.2.1
  have e1 : (S.toList == S.toList) = true := by simp
  have e2 : (E == E) = true := by simp
  clear hx8 hg8 hbV hd9 hS H7 hZ
  go_wp2_with (with_reducible change wpList _ _ _ ({ dst := some 47, op := _, type := _, pos := _, after := _, guard := _ } :: _) _ _; refine Hid.out ?_)
  show wpList _ _ _ _ _ _
  refine wpList_load_want rfl 36 (.tmp 7) rfl d7 0 rfl (U H) _ H8.out.2.2.2.1.range0 Tryd.underlying36 rfl (info47 _ HE.out.2.2.2.1) ?_
  go_wp2_with (with_reducible change wpList _ _ _ ({ dst := some 48, op := _, type := _, pos := _, after := _, guard := _ } :: _) _ _; refine Hid.out ?_)
  show wpList _ _ _ _ _ _
  refine wpList_load_want rfl 36 (.tmp 9) rfl d9 0 rfl (U H) _ H8.out.2.2.2.2.range0 Tryd.underlying36 rfl (info47 _ HE.out.2.2.2.1) ?_
  go_wp2_with (with_reducible change wpList _ _ _ ({ dst := some 49, op := _, type := _, pos := _, after := _, guard := _ } :: _) _ _; refine Hid.out ?_)
  show wpList _ _ _ _ _ _
  refine wpList_eqH rfl (.tmp 47) (.tmp 48) rfl H HE.out.2.2.2.1 rfl rfl ?_
  go_wp2_with fail
  refine (lives_is V8).mono ?_
  rintro e V9 ⟨rfl, hb9⟩
  have HF : Hid (Below w.heap.size w V9) := below_tr H8.out.1 hb9
  clear hb9
  go_wp2
  go_ret
  exact ⟨rfl, HF.out⟩
end Go.Proofs.YtgdecjacbkicmaaDoor.Oct
