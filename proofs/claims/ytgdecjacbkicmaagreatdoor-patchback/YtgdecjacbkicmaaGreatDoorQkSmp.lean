/-
  Layer 10 (patch): Same, of the program and of the reference.
-/
import Derived.Test.YtgdecjacbkicmaaGreatDoorQkSam
/- Layer 10 (patch): Same, of the program and of the reference. -/
namespace Go.Proofs.YtgdecjacbkicmaaGreatDoor.Oct
open Go.RowKit
set_option maxRecDepth 100000
set_option linter.unusedSimpArgs false
set_option linter.unusedVariables false

def sameO (a b : OpV) : Bool := decide (a.kind = b.kind) && (decide (a.path = b.path) && (eqVx a.up b.up && (eqVx a.dn b.dn && decide (a.ts = b.ts))))
def sameL : List OpV → List OpV → Bool
  | [], [] => true
  | a :: l, b :: r => sameO a b && sameL l r
  | _, _ => false
def sameP (p q : PV) : Bool := decide (p.au = q.au) && (decide (p.tm = q.tm) && (decide (p.nt = q.nt) && (decide (p.D = q.D) && sameL p.O q.O)))
theorem sameL_len : ∀ {l r : List OpV}, l.length ≠ r.length → sameL l r = false
  | [], [], h => absurd rfl h
  | [], _ :: _, _ => rfl
  | _ :: _, [], _ => rfl
  | a :: l, b :: r, h => by
    unfold sameL
    rw [sameL_len (l := l) (r := r) (by simpa using h), Bool.and_false]
theorem lt_of_cell {w : World} {b i : Nat} {v : Value} (h : w.cell? ⟨b, i, none⟩ = some v) : b < w.heap.size := by
  unfold World.cell? at h
  cases hb : w.heap[b]? with
  | none => rw [hb] at h; simp at h
  | some o => exact (Array.getElem?_eq_some_iff.1 hb).1
theorem sameL_at {l r : List OpV} {i : Nat} {x y : OpV} (hx : l[i]? = some x) (hy : r[i]? = some y) : sameL (l.drop i) (r.drop i) = (sameO x y && sameL (l.drop (i + 1)) (r.drop (i + 1))) := by
  rw [List.drop_eq_getElem_cons (List.getElem?_eq_some_iff.1 hx).1, (List.getElem?_eq_some_iff.1 hx).2, List.drop_eq_getElem_cons (List.getElem?_eq_some_iff.1 hy).1, (List.getElem?_eq_some_iff.1 hy).2]
  rfl
set_option maxHeartbeats 2000000 in
theorem sameOp_is (w : World) (a b : OpV) (ha : a.ok) (hb : b.ok) (hsa : Strs w a.la a.ln a.ts) (hsb : Strs w b.la b.ln b.ts) (B : Bool) (hB : sameO a b = B) :
    Calls Tryz.prog 20 #[.agg a.cells.toArray, .agg b.cells.toArray] w fun e w' => e = .returned (.bool B) ∧ Below w.heap.size w w' := by
  obtain ⟨d2, hd2⟩ : ∃ d, w.heap.size = d := ⟨_, rfl⟩
  obtain ⟨W1, hW1⟩ : ∃ W, w.alloc (.cells a.cells.toArray 46) = W := ⟨_, rfl⟩
  obtain ⟨d3, hd3⟩ : ∃ d, W1.heap.size = d := ⟨_, rfl⟩
  obtain ⟨W, hW⟩ : ∃ W, W1.alloc (.cells b.cells.toArray 46) = W := ⟨_, rfl⟩
  have b1 : Below w.heap.size w W1 := by rw [← hW1]; exact below_al _ _
  have b2 : Below W1.heap.size W1 W := by rw [← hW]; exact below_al _ _
  have k2 : OpB W d2 a := OpB.below (w := W1) ⟨by rw [← hW1, ← hd2]; exact Blk.new w _ _, ha⟩ b2
  have k3 : OpB W d3 b := ⟨by rw [← hW, ← hd3]; exact Blk.new W1 _ _, hb⟩
  have c20 := k2.kind
  have c21 := k2.path
  have c30 := k3.kind
  have c31 := k3.path
  have c268 := k2.lines
  have c368 := k3.lines
  obtain ⟨E3, hE3⟩ : ∃ E, eqVx a.up b.up = E := ⟨_, rfl⟩
  obtain ⟨E4, hE4⟩ : ∃ E, eqVx a.dn b.dn = E := ⟨_, rfl⟩
  obtain ⟨E5, hE5⟩ : ∃ E, decide (a.ts = b.ts) = E := ⟨_, rfl⟩
  have HP : Hid (OpB W d2 a ∧ OpB W d3 b ∧ Strs W a.la a.ln a.ts ∧ Strs W b.la b.ln b.ts ∧ Below w.heap.size w W ∧ eqVx a.up b.up = E3 ∧ eqVx a.dn b.dn = E4 ∧ decide (a.ts = b.ts) = E5) := ⟨k2, k3, hsa.below (below_tr b1 b2), hsb.below (below_tr b1 b2), below_tr b1 b2, hE3, hE4, hE5⟩
  unfold sameO at hB
  rw [hE3, hE4, hE5] at hB
  obtain ⟨ka, hka⟩ : ∃ m, a.kind = m := ⟨_, rfl⟩
  obtain ⟨kb, hkb⟩ : ∃ m, b.kind = m := ⟨_, rfl⟩
  rw [hka, hkb] at hB
  rw [hka] at c20
  rw [hkb] at c30
  have ek : (ka == kb) = decide (ka = kb) := by rw [Bool.eq_iff_iff]; simp
  have ep := ba_eq a.path b.path
  obtain ⟨E1, hE1⟩ : ∃ E, decide (ka = kb) = E := ⟨_, rfl⟩
  obtain ⟨E2, hE2⟩ : ∃ E, decide (a.path = b.path) = E := ⟨_, rfl⟩
  rw [hE1] at ek hB
  rw [hE2] at ep hB
  clear ha hb hsa hsb b1 b2 k2 k3 hE3 hE4 hE5 hka hkb hE1 hE2
  cases E1 with
  | false =>
    rw [Bool.false_and] at hB
    subst hB
    go_enter Tryz.func20, Tryz.ntmps20
    go_wp2
    go_ret
    exact ⟨rfl, HP.out.2.2.2.2.1⟩
  | true =>
  rw [Bool.true_and] at hB
  cases E2 with
  | false =>
    rw [Bool.false_and] at hB
    subst hB
    go_enter Tryz.func20, Tryz.ntmps20
    go_wp2
    go_ret
    exact ⟨rfl, HP.out.2.2.2.2.1⟩
  | true =>
  rw [Bool.true_and] at hB
  go_enter Tryz.func20, Tryz.ntmps20
  go_wp2_with (with_reducible change wpList _ _ _ ({ dst := some 19, op := _, type := _, pos := _, after := _, guard := _ } :: _) _ _; refine Hid.out ?_)
  show wpList _ _ _ _ _ _
  refine wpList_load_want rfl 43 (.tmp 18) rfl d2 2 rfl a.up.cells _ HP.out.1.up Tryz.underlying43 rfl (info49 HP.out.1.ok.1) ?_
  go_wp2_with (with_reducible change wpList _ _ _ ({ dst := some 21, op := _, type := _, pos := _, after := _, guard := _ } :: _) _ _; refine Hid.out ?_)
  show wpList _ _ _ _ _ _
  refine wpList_load_want rfl 43 (.tmp 20) rfl d3 2 rfl b.up.cells _ HP.out.2.1.up Tryz.underlying43 rfl (info49 HP.out.2.1.ok.1) ?_
  go_wp2_with (with_reducible change wpList _ _ _ ({ dst := some 22, op := _, type := _, pos := _, after := _, guard := _ } :: _) _ _; refine Hid.out ?_)
  show wpList _ _ _ _ _ _
  refine wpList_eqV rfl (.tmp 19) (.tmp 21) rfl a.up b.up HP.out.1.ok.1 HP.out.2.1.ok.1 E3 HP.out.2.2.2.2.2.1 rfl rfl ?_
  cases E3 with
  | false =>
    rw [Bool.false_and] at hB
    subst hB
    go_wp2
    go_ret
    exact ⟨rfl, HP.out.2.2.2.2.1⟩
  | true =>
  rw [Bool.true_and] at hB
  go_wp2_with (with_reducible change wpList _ _ _ ({ dst := some 26, op := _, type := _, pos := _, after := _, guard := _ } :: _) _ _; refine Hid.out ?_)
  show wpList _ _ _ _ _ _
  refine wpList_load_want rfl 43 (.tmp 25) rfl d2 35 rfl a.dn.cells _ HP.out.1.dn Tryz.underlying43 rfl (info49 HP.out.1.ok.2.1) ?_
  go_wp2_with (with_reducible change wpList _ _ _ ({ dst := some 28, op := _, type := _, pos := _, after := _, guard := _ } :: _) _ _; refine Hid.out ?_)
  show wpList _ _ _ _ _ _
  refine wpList_load_want rfl 43 (.tmp 27) rfl d3 35 rfl b.dn.cells _ HP.out.2.1.dn Tryz.underlying43 rfl (info49 HP.out.2.1.ok.2.1) ?_
  go_wp2_with (with_reducible change wpList _ _ _ ({ dst := some 29, op := _, type := _, pos := _, after := _, guard := _ } :: _) _ _; refine Hid.out ?_)
  show wpList _ _ _ _ _ _
  refine wpList_eqV rfl (.tmp 26) (.tmp 28) rfl a.dn b.dn HP.out.1.ok.2.1 HP.out.2.1.ok.2.1 E4 HP.out.2.2.2.2.2.2.1 rfl rfl ?_
  cases E4 with
  | false =>
    rw [Bool.false_and] at hB
    subst hB
    go_wp2
    go_ret
    exact ⟨rfl, HP.out.2.2.2.2.1⟩
  | true =>
  rw [Bool.true_and] at hB
  subst hB
  go_wp2_with fail
  refine (eqS60 W a.la b.la a.ln a.lc b.ln b.lc a.ts b.ts HP.out.2.2.1 HP.out.2.2.2.1 HP.out.1.ok.2.2.2.1 HP.out.2.1.ok.2.2.2.1 E5 HP.out.2.2.2.2.2.2.2).mono ?_
  rintro e V ⟨rfl, hb⟩
  have HF : Hid (Below w.heap.size w V) := below_tr HP.out.2.2.2.2.1 hb
  clear hb
  go_wp2
  go_ret
  exact ⟨rfl, HF.out⟩
set_option maxHeartbeats 2000000 in
theorem eqFunc_is (w : World) (a a2 : Option Addr) (n c n2 c2 : Nat) (O O2 : List OpV) (h : OpsR w a n O) (h2 : OpsR w a2 n2 O2) (hn : n ≤ 140737488355328) (hn2 : n2 ≤ 140737488355328) (B : Bool) (hB : sameL O O2 = B) :
    Calls Tryz.prog 19 #[.slice a n c, .slice a2 n2 c2, .func (.func 20) #[] #[]] w fun e w' => e = .returned (.bool B) ∧ Below w.heap.size w w' := by
  have qn : (n : Int) ≤ 140737488355328 := by omega
  have qn2 : (n2 : Int) ≤ 140737488355328 := by omega
  by_cases hne : n = n2
  · subst hne
    have HS : Hid (OpsR w a n O ∧ OpsR w a2 n O2 ∧ sameL O O2 = B) := ⟨h, h2, hB⟩
    obtain ⟨Z, hZ, HZ⟩ := zero51
    have HZL : Hid (Z.length = 69) := by show _ = _; rw [HZ.out]; exact OpV.len o00_ok
    clear h h2 hB hn hn2 qn2 HZ
    go_enter Tryz.func19, Tryz.ntmps19
    go_wp2
    go_loopw [17] (fun u wr => ∃ i : Nat, u = iv (i : Int) ∧ (i : Int) ≤ (n : Int) ∧ Hid (sameL (O.drop i) (O2.drop i) = B ∧ Below w.heap.size w wr)) (fun u _ => n - (intOf u).toNat)
    case atStart => exact ⟨0, rfl, by omega, by rw [List.drop_zero, List.drop_zero]; exact HS.out.2.2, Below.refl _ _⟩
    case round =>
      obtain ⟨V, hV⟩ : ∃ V, V = wr := ⟨_, rfl⟩
      subst hV
      obtain ⟨i, rfl, qi, HI⟩ := hrel
      by_cases hi : i < n
      · obtain ⟨x, hx⟩ : ∃ x, O[i]? = some x := ⟨_, List.getElem?_eq_getElem (by rw [HS.out.1.1]; exact hi)⟩
        obtain ⟨y, hy⟩ : ∃ y, O2[i]? = some y := ⟨_, List.getElem?_eq_getElem (by rw [HS.out.2.1.1]; exact hi)⟩
        obtain ⟨g1, o1, rfl, hg1, hel1⟩ := HS.out.1.2.2 (by omega)
        obtain ⟨g2, o2, rfl, hg2, hel2⟩ := HS.out.2.1.2.2 (by omega)
        have hxo := HS.out.1.2.1 x (List.mem_of_getElem? hx)
        have hyo := HS.out.2.1.2.1 y (List.mem_of_getElem? hy)
        have hat := sameL_at hx hy
        obtain ⟨G, hG⟩ : ∃ G, sameO x y = G := ⟨_, rfl⟩
        have HX : Hid (i < n ∧ x.ok ∧ y.ok ∧ Strs w x.la x.ln x.ts ∧ Strs w y.la y.ln y.ts ∧ V.rangeAt g1 (o1 + i * 69) x.cells ∧ V.rangeAt g2 (o2 + i * 69) y.cells ∧ g2 < w.heap.size ∧ (G && sameL (O.drop (i + 1)) (O2.drop (i + 1))) = B ∧ sameO x y = G) := ⟨hi, hxo.1, hyo.1, hxo.2, hyo.2, rangeAt_same (hel1 i x hx) (HI.out.2.block g1 hg1), rangeAt_same (hel2 i y hy) (HI.out.2.block g2 hg2), hg2, by rw [← hG, ← hat]; exact HI.out.1, hG⟩
        have q1 : (i : Int) < (n : Int) := by omega
        obtain ⟨d8, hd8⟩ : ∃ d, V.heap.size = d := ⟨_, rfl⟩
        have HD8 : Hid (V.heap.size = d8) := hd8
        clear hel1 hel2 hx hy hg1 hg2 hxo hyo hat hG hi qi
        go_wp2_with (with_reducible change wpList _ _ _ ({ dst := some 21, op := _, type := _, pos := _, after := _, guard := _ } :: _) _ _; refine Hid.out ?_)
        show wpList _ _ _ _ _ _
        refine wpList_load_mid rfl 46 (.tmp 20) rfl g1 (o1 + i * 69) rfl x.cells _ HX.out.2.2.2.2.2.1 Tryz.underlying46 rfl (info51 HX.out.2.1) ?_
        go_wp2_with (with_reducible change wpList _ _ _ ({ dst := none, op := Op.store 46 _ _, type := _, pos := _, after := _, guard := _ } :: _) _ _; refine Hid.out ?_)
        show wpList _ _ _ _ _ _
        refine wpList_store_blk rfl 46 (.tmp 8) (.tmp 21) rfl d8 0 46 Z x.cells rfl rfl (by rw [← HD8.out]; exact Blk.new V _ _) (by rw [HZL.out, OpV.len HX.out.2.1]; omega) (info51 HX.out.2.1) x.one ?_
        intro V1 hx1 hgr1
        have hb1 : Below V.heap.size V V1 := below_gr (below_al V _) hgr1.out (by rw [HD8.out]; exact Nat.le_refl _)
        have H1 : Hid (Below w.heap.size w V1 ∧ OpB V1 d8 x ∧ V1.rangeAt g2 (o2 + i * 69) y.cells) := ⟨below_tr HI.out.2 hb1, ⟨blk_all hx1.out (by rw [HZL.out, OpV.len HX.out.2.1]), HX.out.2.1⟩, rangeAt_same HX.out.2.2.2.2.2.2.1 (hb1.block g2 (Nat.lt_of_lt_of_le HX.out.2.2.2.2.2.2.2.1 HI.out.2.size))⟩
        obtain ⟨d9, hd9⟩ : ∃ d, V1.heap.size = d := ⟨_, rfl⟩
        have HD9 : Hid (V1.heap.size = d9) := hd9
        clear hx1 hgr1 hb1 hd8
        go_wp2_with (with_reducible change wpList _ _ _ ({ dst := some 25, op := _, type := _, pos := _, after := _, guard := _ } :: _) _ _; refine Hid.out ?_)
        show wpList _ _ _ _ _ _
        refine wpList_load_mid rfl 46 (.tmp 24) rfl g2 (o2 + i * 69) rfl y.cells _ H1.out.2.2 Tryz.underlying46 rfl (info51 HX.out.2.2.1) ?_
        go_wp2_with (with_reducible change wpList _ _ _ ({ dst := none, op := Op.store 46 _ _, type := _, pos := _, after := _, guard := _ } :: _) _ _; refine Hid.out ?_)
        show wpList _ _ _ _ _ _
        refine wpList_store_blk rfl 46 (.tmp 9) (.tmp 25) rfl d9 0 46 Z y.cells rfl rfl (by rw [← HD9.out]; exact Blk.new V1 _ _) (by rw [HZL.out, OpV.len HX.out.2.2.1]; omega) (info51 HX.out.2.2.1) y.one ?_
        intro V2 hx2 hgr2
        have hb2 : Below V1.heap.size V1 V2 := below_gr (below_al V1 _) hgr2.out (by rw [HD9.out]; exact Nat.le_refl _)
        have H2 : Hid (Below w.heap.size w V2 ∧ OpB V2 d8 x ∧ OpB V2 d9 y) := ⟨below_tr H1.out.1 hb2, H1.out.2.1.below hb2, ⟨blk_all hx2.out (by rw [HZL.out, OpV.len HX.out.2.2.1]), HX.out.2.2.1⟩⟩
        clear hx2 hgr2 hb2 hd9 H1
        go_wp2_with (with_reducible change wpList _ _ _ ({ dst := some 27, op := _, type := _, pos := _, after := _, guard := _ } :: _) _ _; refine Hid.out ?_)
        show wpList _ _ _ _ _ _
        refine wpList_load_mid rfl 46 (.tmp 8) rfl d8 0 rfl x.cells _ H2.out.2.1.blk.range0 Tryz.underlying46 rfl (info51 HX.out.2.1) ?_
        go_wp2_with (with_reducible change wpList _ _ _ ({ dst := some 28, op := _, type := _, pos := _, after := _, guard := _ } :: _) _ _; refine Hid.out ?_)
        show wpList _ _ _ _ _ _
        refine wpList_load_mid rfl 46 (.tmp 9) rfl d9 0 rfl y.cells _ H2.out.2.2.blk.range0 Tryz.underlying46 rfl (info51 HX.out.2.2.1) ?_
        go_wp2_with fail
        refine (sameOp_is V2 x y HX.out.2.1 HX.out.2.2.1 (HX.out.2.2.2.1.below H2.out.1) (HX.out.2.2.2.2.1.below H2.out.1) G HX.out.2.2.2.2.2.2.2.2.2).mono ?_
        rintro e V3 ⟨rfl, hb3⟩
        have H3 : Hid (Below w.heap.size w V3) := below_tr H2.out.1 hb3
        clear hb3 H2
        cases G with
        | false =>
          have HF : Hid (B = false) := by show _ = _; rw [← HX.out.2.2.2.2.2.2.2.2.1]; rfl
          have hBf := HF.out
          subst hBf
          clear HF HX
          go_wp2
          go_ret
          exact ⟨rfl, H3.out⟩
        | true =>
          have HN : Hid (sameL (O.drop (i + 1)) (O2.drop (i + 1)) = B ∧ i < n) := ⟨by rw [← HX.out.2.2.2.2.2.2.2.2.1]; rfl, HX.out.1⟩
          clear HX
          go_wp2
          go_roundw
          case rel => exact ⟨i + 1, by simp, by have := HN.out.2; omega, HN.out.1, H3.out⟩
          case measure => have := HN.out.2; simp only [intOf]; omega
      · have q1 : (n : Int) ≤ (i : Int) := by omega
        have HF : Hid (B = true) := by
          have h1 := HI.out.1
          rw [List.drop_eq_nil_iff.2 (by rw [HS.out.1.1]; omega), List.drop_eq_nil_iff.2 (by rw [HS.out.2.1.1]; omega)] at h1
          exact h1.symm
        have hBf := HF.out
        subst hBf
        clear HF hi
        go_wp2
        go_ret
        exact ⟨rfl, HI.out.2⟩
  · have hBf : B = false := by
      rw [← hB]
      exact sameL_len (by rw [h.1, h2.1]; exact hne)
    subst hBf
    have e1 : ((n : Int) != (n2 : Int)) = true := by simpa using (show ¬ (n : Int) = (n2 : Int) by omega)
    clear h h2 hB hn hn2 hne
    go_enter Tryz.func19, Tryz.ntmps19
    go_wp2
    go_ret
    exact ⟨rfl, Below.refl _ _⟩
set_option maxHeartbeats 2000000 in
theorem same_is (w : World) (p q : PV) (hp : PR w p) (hq : PR w q) (B : Bool) (hB : sameP p q = B) : Calls Tryz.prog 9 #[.agg p.cells.toArray, .agg q.cells.toArray] w fun e w' => e = .returned (.bool B) ∧ Below w.heap.size w w' := by
  obtain ⟨d2, hd2⟩ : ∃ d, w.heap.size = d := ⟨_, rfl⟩
  obtain ⟨W1, hW1⟩ : ∃ W, w.alloc (.cells p.cells.toArray 25) = W := ⟨_, rfl⟩
  obtain ⟨d3, hd3⟩ : ∃ d, W1.heap.size = d := ⟨_, rfl⟩
  obtain ⟨W, hW⟩ : ∃ W, W1.alloc (.cells q.cells.toArray 25) = W := ⟨_, rfl⟩
  have b1 : Below w.heap.size w W1 := by rw [← hW1]; exact below_al _ _
  have b2 : Below W1.heap.size W1 W := by rw [← hW]; exact below_al _ _
  have k2 : Blk W d2 25 p.cells := by have h : Blk W1 d2 25 p.cells := by rw [← hW1, ← hd2]; exact Blk.new w _ _
                                      exact h.below b2 h.lt
  have k3 : Blk W d3 25 q.cells := by rw [← hW, ← hd3]; exact Blk.new W1 _ _
  have c20 : W.cell? ⟨d2, 0, none⟩ = some (.string p.au) := k2.cell rfl
  have c21 : W.cell? ⟨d2, 1, none⟩ = some (iv p.tm) := k2.cell rfl
  have c22 : W.cell? ⟨d2, 2, none⟩ = some (.string p.nt) := k2.cell rfl
  have c23 : W.cell? ⟨d2, 3, none⟩ = some (.slice p.da p.dn p.dc) := k2.cell rfl
  have c24 : W.cell? ⟨d2, 4, none⟩ = some (.slice p.oa p.on p.oc) := k2.cell rfl
  have c30 : W.cell? ⟨d3, 0, none⟩ = some (.string q.au) := k3.cell rfl
  have c31 : W.cell? ⟨d3, 1, none⟩ = some (iv q.tm) := k3.cell rfl
  have c32 : W.cell? ⟨d3, 2, none⟩ = some (.string q.nt) := k3.cell rfl
  have c33 : W.cell? ⟨d3, 3, none⟩ = some (.slice q.da q.dn q.dc) := k3.cell rfl
  have c34 : W.cell? ⟨d3, 4, none⟩ = some (.slice q.oa q.on q.oc) := k3.cell rfl
  obtain ⟨E4, hE4⟩ : ∃ E, decide (p.D = q.D) = E := ⟨_, rfl⟩
  obtain ⟨E5, hE5⟩ : ∃ E, sameL p.O q.O = E := ⟨_, rfl⟩
  obtain ⟨ta, hta⟩ : ∃ m, p.tm = m := ⟨_, rfl⟩
  obtain ⟨tb, htb⟩ : ∃ m, q.tm = m := ⟨_, rfl⟩
  unfold sameP at hB
  rw [hE4, hE5, hta, htb] at hB
  rw [hta] at c21
  rw [htb] at c31
  obtain ⟨E1, hE1⟩ : ∃ E, decide (p.au = q.au) = E := ⟨_, rfl⟩
  obtain ⟨E2, hE2⟩ : ∃ E, decide (ta = tb) = E := ⟨_, rfl⟩
  obtain ⟨E3, hE3⟩ : ∃ E, decide (p.nt = q.nt) = E := ⟨_, rfl⟩
  rw [hE1, hE2, hE3] at hB
  have HP : Hid (PR W p ∧ PR W q ∧ Below w.heap.size w W ∧ decide (p.D = q.D) = E4 ∧ sameL p.O q.O = E5) := ⟨hp.below (below_tr b1 b2), hq.below (below_tr b1 b2), below_tr b1 b2, hE4, hE5⟩
  have e1 : (p.au.toList == q.au.toList) = E1 := (ba_eq _ _).trans hE1
  have e2 : (ta == tb) = E2 := by rw [← hE2, Bool.eq_iff_iff]; simp
  have e3 : (p.nt.toList == q.nt.toList) = E3 := (ba_eq _ _).trans hE3
  clear hp hq b1 b2 k2 k3 hE1 hE2 hE3 hE4 hE5 hta htb
  cases E1 with
  | false =>
    rw [Bool.false_and] at hB
    subst hB
    go_enter Tryz.func9, Tryz.ntmps9
    go_wp2
    go_ret
    exact ⟨rfl, HP.out.2.2.1⟩
  | true =>
  rw [Bool.true_and] at hB
  cases E2 with
  | false =>
    rw [Bool.false_and] at hB
    subst hB
    go_enter Tryz.func9, Tryz.ntmps9
    go_wp2
    go_ret
    exact ⟨rfl, HP.out.2.2.1⟩
  | true =>
  rw [Bool.true_and] at hB
  cases E3 with
  | false =>
    rw [Bool.false_and] at hB
    subst hB
    go_enter Tryz.func9, Tryz.ntmps9
    go_wp2
    go_ret
    exact ⟨rfl, HP.out.2.2.1⟩
  | true =>
  rw [Bool.true_and] at hB
  go_enter Tryz.func9, Tryz.ntmps9
  go_wp2_with fail
  refine (eqH35 W p.da q.da p.dn p.dc q.dn q.dc p.D q.D HP.out.1.deps HP.out.2.1.deps HP.out.1.zd HP.out.2.1.zd E4 HP.out.2.2.2.1).mono ?_
  rintro e V ⟨rfl, hb⟩
  have HV : Hid (Below W.heap.size W V ∧ Below w.heap.size w V) := ⟨hb, below_tr HP.out.2.2.1 hb⟩
  clear hb
  cases E4 with
  | false =>
    rw [Bool.false_and] at hB
    subst hB
    go_wp2
    go_ret
    exact ⟨rfl, HV.out.2⟩
  | true =>
  rw [Bool.true_and] at hB
  subst hB
  have d24 : V.cell? ⟨d2, 4, none⟩ = some (.slice p.oa p.on p.oc) := (HV.out.1.cell (p := ⟨d2, 4, none⟩) (lt_of_cell c24)).trans c24
  have d34 : V.cell? ⟨d3, 4, none⟩ = some (.slice q.oa q.on q.oc) := (HV.out.1.cell (p := ⟨d3, 4, none⟩) (lt_of_cell c34)).trans c34
  clear c20 c21 c22 c23 c24 c30 c31 c32 c33 c34
  go_wp2_with fail
  refine (eqFunc_is V p.oa q.oa p.on p.oc q.on q.oc p.O q.O (HP.out.1.ops.below HV.out.1) (HP.out.2.1.ops.below HV.out.1) HP.out.1.zo HP.out.2.1.zo E5 HP.out.2.2.2.2).mono ?_
  rintro e V2 ⟨rfl, hb2⟩
  have HF : Hid (Below w.heap.size w V2) := below_tr HV.out.2 hb2
  clear hb2
  go_wp2
  go_ret
  exact ⟨rfl, HF.out⟩
end Go.Proofs.YtgdecjacbkicmaaGreatDoor.Oct
