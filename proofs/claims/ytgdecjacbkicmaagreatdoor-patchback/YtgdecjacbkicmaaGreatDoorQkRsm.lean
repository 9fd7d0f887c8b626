/-
  Layer 10 (patch): Same of the reference.
-/
import Derived.Test.YtgdecjacbkicmaaGreatDoorQkSmp
/- Layer 10 (patch): Same of the reference. -/
namespace Go.Proofs.YtgdecjacbkicmaaGreatDoor.Oct
open Go.RowKit
set_option maxRecDepth 100000
set_option linter.unusedSimpArgs false
set_option linter.unusedVariables false

theorem bne_of {α : Type} [BEq α] {x y : α} (h : (x == y) = false) : (x != y) = true := by simp [bne, h]
theorem bne_of' {α : Type} [BEq α] {x y : α} (h : (x == y) = true) : (x != y) = false := by simp [bne, h]
set_option maxHeartbeats 4000000 in
theorem rsame_is (w : World) (p q : PV) (hp : PR w p) (hq : PR w q) (zp : p.dn ≤ 100000) (zq : q.dn ≤ 100000) (B : Bool) (hB : sameP p q = B) : Calls Tryz.prog 8 #[.agg p.cells.toArray, .agg q.cells.toArray] w fun e w' => e = .returned (.bool B) ∧ Below w.heap.size w w' := by
  obtain ⟨d2, hd2⟩ : ∃ d, w.heap.size = d := ⟨_, rfl⟩
  obtain ⟨W1, hW1⟩ : ∃ W, w.alloc (.cells p.cells.toArray 25) = W := ⟨_, rfl⟩
  obtain ⟨d3, hd3⟩ : ∃ d, W1.heap.size = d := ⟨_, rfl⟩
  obtain ⟨W, hW⟩ : ∃ W, W1.alloc (.cells q.cells.toArray 25) = W := ⟨_, rfl⟩
  have b1 : Below w.heap.size w W1 := by rw [← hW1]; exact below_al _ _
  have b2 : Below W1.heap.size W1 W := by rw [← hW]; exact below_al _ _
  have k2 : Blk W d2 25 p.cells := by have h : Blk W1 d2 25 p.cells := by rw [← hW1, ← hd2]; exact Blk.new w _ _
                                      exact h.below b2 h.lt
  have k3 : Blk W d3 25 q.cells := by rw [← hW, ← hd3]; exact Blk.new W1 _ _
  have c20 : W.cell? ⟨d2, 0, none⟩ = some (.string p.au) := k2.cell rfl
  have c21 : W.cell? ⟨d2, 1, none⟩ = some (iv p.tm) := k2.cell rfl
  have c22 : W.cell? ⟨d2, 2, none⟩ = some (.string p.nt) := k2.cell rfl
  have c23 : W.cell? ⟨d2, 3, none⟩ = some (.slice p.da p.dn p.dc) := k2.cell rfl
  have c24 : W.cell? ⟨d2, 4, none⟩ = some (.slice p.oa p.on p.oc) := k2.cell rfl
  have c30 : W.cell? ⟨d3, 0, none⟩ = some (.string q.au) := k3.cell rfl
  have c31 : W.cell? ⟨d3, 1, none⟩ = some (iv q.tm) := k3.cell rfl
  have c32 : W.cell? ⟨d3, 2, none⟩ = some (.string q.nt) := k3.cell rfl
  have c33 : W.cell? ⟨d3, 3, none⟩ = some (.slice q.da q.dn q.dc) := k3.cell rfl
  have c34 : W.cell? ⟨d3, 4, none⟩ = some (.slice q.oa q.on q.oc) := k3.cell rfl
  obtain ⟨E4, hE4⟩ : ∃ E, decide (p.D = q.D) = E := ⟨_, rfl⟩
  obtain ⟨E5, hE5⟩ : ∃ E, sameL p.O q.O = E := ⟨_, rfl⟩
  obtain ⟨ta, hta⟩ : ∃ m, p.tm = m := ⟨_, rfl⟩
  obtain ⟨tb, htb⟩ : ∃ m, q.tm = m := ⟨_, rfl⟩
  unfold sameP at hB
  rw [hE4, hE5, hta, htb] at hB
  rw [hta] at c21
  rw [htb] at c31
  obtain ⟨E1, hE1⟩ : ∃ E, decide (p.au = q.au) = E := ⟨_, rfl⟩
  obtain ⟨E2, hE2⟩ : ∃ E, decide (ta = tb) = E := ⟨_, rfl⟩
  obtain ⟨E3, hE3⟩ : ∃ E, decide (p.nt = q.nt) = E := ⟨_, rfl⟩
  rw [hE1, hE2, hE3] at hB
  have HP : Hid (PR W p ∧ PR W q ∧ Below w.heap.size w W ∧ decide (p.D = q.D) = E4 ∧ sameL p.O q.O = E5) := ⟨hp.below (below_tr b1 b2), hq.below (below_tr b1 b2), below_tr b1 b2, hE4, hE5⟩
  have HZ : Hid (p.dn ≤ 100000 ∧ q.dn ≤ 100000) := ⟨zp, zq⟩
  have HEE : Hid ((p.au.toList == q.au.toList) = E1 ∧ (ta == tb) = E2 ∧ (p.nt.toList == q.nt.toList) = E3) := ⟨(ba_eq _ _).trans hE1, by rw [← hE2, Bool.eq_iff_iff]; simp, (ba_eq _ _).trans hE3⟩
  have qa : (p.on : Int) ≤ 140737488355328 := by have := hp.zo; omega
  have qb : (q.on : Int) ≤ 140737488355328 := by have := hq.zo; omega
  clear hp hq b1 b2 k2 k3 hE1 hE2 hE3 hE4 hE5 hta htb zp zq
  cases E1 with
  | false =>
    have e1 := HEE.out.1
    have e1' := bne_of HEE.out.1
    clear HEE
    rw [Bool.false_and] at hB
    subst hB
    go_enter Tryz.func8, Tryz.ntmps8
    go_wp2
    go_ret
    exact ⟨rfl, HP.out.2.2.1⟩
  | true =>
  have e1 := HEE.out.1
  have e1' := bne_of' HEE.out.1
  rw [Bool.true_and] at hB
  cases E2 with
  | false =>
    have e2 := HEE.out.2.1
    have e2' := bne_of HEE.out.2.1
    clear HEE
    rw [Bool.false_and] at hB
    subst hB
    go_enter Tryz.func8, Tryz.ntmps8
    go_wp2
    go_ret
    exact ⟨rfl, HP.out.2.2.1⟩
  | true =>
  have e2 := HEE.out.2.1
  have e2' := bne_of' HEE.out.2.1
  rw [Bool.true_and] at hB
  cases E3 with
  | false =>
    have e3 := HEE.out.2.2
    have e3' := bne_of HEE.out.2.2
    clear HEE
    rw [Bool.false_and] at hB
    subst hB
    go_enter Tryz.func8, Tryz.ntmps8
    go_wp2
    go_ret
    exact ⟨rfl, HP.out.2.2.1⟩
  | true =>
  have e3 := HEE.out.2.2
  have e3' := bne_of' HEE.out.2.2
  rw [Bool.true_and] at hB
  have HH := hashes_is W p.da p.dn p.dc p.D q.da q.dn q.dc q.D HP.out.1.deps HP.out.2.1.deps HZ.out.1 HZ.out.2
  rw [HP.out.2.2.2.1] at HH
  have HHH : Hid (Calls Tryz.prog 16 #[.slice p.da p.dn p.dc, .slice q.da q.dn q.dc] W fun e w' => e = .returned (.bool E4) ∧ Hid (Below W.heap.size W w')) := HH
  clear HH
  go_enter Tryz.func8, Tryz.ntmps8
  go_wp2_with fail
  refine HHH.out.mono ?_
  rintro e V ⟨rfl, hbh⟩
  have hb := hbh.out
  have HV : Hid (Below W.heap.size W V ∧ Below w.heap.size w V) := ⟨hb, below_tr HP.out.2.2.1 hb⟩
  clear hb hbh HHH
  cases E4 with
  | false =>
    rw [Bool.false_and] at hB
    subst hB
    go_wp2
    go_ret
    exact ⟨rfl, HV.out.2⟩
  | true =>
  rw [Bool.true_and] at hB
  have HC : Hid (∀ V2, Below W.heap.size W V2 → V2.cell? ⟨d2, 4, none⟩ = some (.slice p.oa p.on p.oc) ∧ V2.cell? ⟨d3, 4, none⟩ = some (.slice q.oa q.on q.oc)) := fun V2 hV2 => ⟨(hV2.cell (p := ⟨d2, 4, none⟩) (lt_of_cell c24)).trans c24, (hV2.cell (p := ⟨d3, 4, none⟩) (lt_of_cell c34)).trans c34⟩
  have d24 := (HC.out V HV.out.1).1
  have d34 := (HC.out V HV.out.1).2
  obtain ⟨n, hn⟩ : ∃ n, p.on = n := ⟨_, rfl⟩
  obtain ⟨n2, hn2⟩ : ∃ n, q.on = n := ⟨_, rfl⟩
  have HN : Hid (p.on = n ∧ q.on = n2) := ⟨hn, hn2⟩
  rw [hn] at d24 qa
  rw [hn2] at d34 qb
  clear c20 c21 c22 c23 c24 c30 c31 c32 c33 c34 hn hn2
  by_cases hne : n = n2
  · subst hne
    have e4 : ((n : Int) != (n : Int)) = false := by simp
    obtain ⟨Z, hZ, HZZ⟩ := zero51
    have HZL : Hid (Z.length = 69) := by show _ = _; rw [HZZ.out]; exact OpV.len o00_ok
    have HSL : Hid (sameL p.O q.O = B) := by show _ = _; rw [HP.out.2.2.2.2]; exact hB
    clear hB HZZ
    go_wp2_with fail
    go_loopw [5] (fun u wr => ∃ i : Nat, u = iv (i : Int) ∧ (i : Int) ≤ (n : Int) ∧ Hid (sameL (p.O.drop i) (q.O.drop i) = B ∧ Below W.heap.size W wr)) (fun u _ => n - (intOf u).toNat)
    case atStart => exact ⟨0, rfl, by omega, by rw [List.drop_zero, List.drop_zero]; exact HSL.out, HV.out.1⟩
    case round =>
      obtain ⟨V0, hV0⟩ : ∃ V, V = wr := ⟨_, rfl⟩
      subst hV0
      obtain ⟨i, rfl, qi, HI⟩ := hrel
      clear d24 d34 e1 e2 e3 e1' e2' e3' e4
      have d24 := (HC.out V0 HI.out.2).1
      have d34 := (HC.out V0 HI.out.2).2
      rw [HN.out.1] at d24
      rw [HN.out.2] at d34
      have hop := HP.out.1.ops.below HI.out.2
      have hoq := HP.out.2.1.ops.below HI.out.2
      rw [HN.out.1] at hop
      rw [HN.out.2] at hoq
      by_cases hi : i < n
      · obtain ⟨x, hx⟩ : ∃ x, p.O[i]? = some x := ⟨_, List.getElem?_eq_getElem (by rw [hop.1]; exact hi)⟩
        obtain ⟨y, hy⟩ : ∃ y, q.O[i]? = some y := ⟨_, List.getElem?_eq_getElem (by rw [hoq.1]; exact hi)⟩
        obtain ⟨g1, o1, h1a, hg1, hel1⟩ := hop.2.2 (by omega)
        obtain ⟨g2, o2, h2a, hg2, hel2⟩ := hoq.2.2 (by omega)
        have hxo := hop.2.1 x (List.mem_of_getElem? hx)
        have hyo := hoq.2.1 y (List.mem_of_getElem? hy)
        have hat := sameL_at hx hy
        obtain ⟨K, hK⟩ : ∃ K, decide (x.kind = y.kind) = K := ⟨_, rfl⟩
        obtain ⟨PB, hPB⟩ : ∃ K, decide (x.path = y.path) = K := ⟨_, rfl⟩
        obtain ⟨UB, hUB⟩ : ∃ K, eqVx x.up y.up = K := ⟨_, rfl⟩
        obtain ⟨DB, hDB⟩ : ∃ K, eqVx x.dn y.dn = K := ⟨_, rfl⟩
        obtain ⟨TB, hTB⟩ : ∃ K, decide (x.ts = y.ts) = K := ⟨_, rfl⟩
        have HX : Hid (i < n ∧ x.ok ∧ y.ok ∧ Strs V0 x.la x.ln x.ts ∧ Strs V0 y.la y.ln y.ts ∧ V0.rangeAt g1 (o1 + i * 69) x.cells ∧ V0.rangeAt g2 (o2 + i * 69) y.cells ∧ g2 < V0.heap.size) := ⟨hi, hxo.1, hyo.1, hxo.2, hyo.2, hel1 i x hx, hel2 i y hy, hg2⟩
        have HXB : Hid (((K && (PB && (UB && (DB && TB)))) && sameL (p.O.drop (i + 1)) (q.O.drop (i + 1))) = B) := by
          have := HI.out.1
          rw [hat] at this
          unfold sameO at this
          rw [hK, hPB, hUB, hDB, hTB] at this
          exact this
        have HXE : Hid (eqVx x.up y.up = UB ∧ eqVx x.dn y.dn = DB ∧ decide (x.ts = y.ts) = TB) := ⟨hUB, hDB, hTB⟩
        have q1 : (i : Int) < (n : Int) := by omega
        obtain ⟨kx, hkx⟩ : ∃ k, x.kind = k := ⟨_, rfl⟩
        obtain ⟨ky, hky⟩ : ∃ k, y.kind = k := ⟨_, rfl⟩
        have HEK : Hid ((kx == ky) = K ∧ (x.path.toList == y.path.toList) = PB) := ⟨by rw [← hK, hkx, hky, Bool.eq_iff_iff]; simp, (ba_eq _ _).trans hPB⟩
        obtain ⟨d8, hd8⟩ : ∃ d, V0.heap.size = d := ⟨_, rfl⟩
        have HD8 : Hid (V0.heap.size = d8) := hd8
        have HKK : Hid (x.kind = kx ∧ y.kind = ky) := ⟨hkx, hky⟩
        rw [h1a] at d24
        rw [h2a] at d34
        clear hel1 hel2 hx hy hg1 hg2 hxo hyo hat hK hPB hUB hDB hTB hi qi hop hoq hkx hky h1a h2a
        go_wp2_with (with_reducible change wpList _ _ _ ({ dst := some 55, op := _, type := _, pos := _, after := _, guard := _ } :: _) _ _; refine Hid.out ?_)
        show wpList _ _ _ _ _ _
        refine wpList_load_mid rfl 46 (.tmp 54) rfl g1 (o1 + i * 69) rfl x.cells _ HX.out.2.2.2.2.2.1 Tryz.underlying46 rfl (info51 HX.out.2.1) ?_
        go_wp2_with (with_reducible change wpList _ _ _ ({ dst := none, op := Op.store 46 _ _, type := _, pos := _, after := _, guard := _ } :: _) _ _; refine Hid.out ?_)
        show wpList _ _ _ _ _ _
        refine wpList_store_blk rfl 46 (.tmp 6) (.tmp 55) rfl d8 0 46 Z x.cells rfl rfl (by rw [← HD8.out]; exact Blk.new V0 _ _) (by rw [HZL.out, OpV.len HX.out.2.1]; omega) (info51 HX.out.2.1) x.one ?_
        intro V1 hx1 hgr1
        have hb1 : Below V0.heap.size V0 V1 := below_gr (below_al V0 _) hgr1.out (by rw [HD8.out]; exact Nat.le_refl _)
        have d34' : V1.cell? ⟨d3, 4, none⟩ = some (.slice (some ⟨g2, o2, none⟩) n q.oc) := (hb1.cell (p := ⟨d3, 4, none⟩) (lt_of_cell d34)).trans d34
        have H1 : Hid (Below W.heap.size W V1 ∧ OpB V1 d8 x ∧ V1.rangeAt g2 (o2 + i * 69) y.cells ∧ Below V0.heap.size V0 V1) := ⟨below_tr HI.out.2 hb1, ⟨blk_all hx1.out (by rw [HZL.out, OpV.len HX.out.2.1]), HX.out.2.1⟩, rangeAt_same HX.out.2.2.2.2.2.2.1 (hb1.block g2 HX.out.2.2.2.2.2.2.2), hb1⟩
        obtain ⟨d9, hd9⟩ : ∃ d, V1.heap.size = d := ⟨_, rfl⟩
        have HD9 : Hid (V1.heap.size = d9) := hd9
        clear hx1 hgr1 hb1 hd8 d24 d34
        go_wp2_with (with_reducible change wpList _ _ _ ({ dst := some 60, op := _, type := _, pos := _, after := _, guard := _ } :: _) _ _; refine Hid.out ?_)
        show wpList _ _ _ _ _ _
        refine wpList_load_mid rfl 46 (.tmp 59) rfl g2 (o2 + i * 69) rfl y.cells _ H1.out.2.2.1 Tryz.underlying46 rfl (info51 HX.out.2.2.1) ?_
        go_wp2_with (with_reducible change wpList _ _ _ ({ dst := none, op := Op.store 46 _ _, type := _, pos := _, after := _, guard := _ } :: _) _ _; refine Hid.out ?_)
        show wpList _ _ _ _ _ _
        refine wpList_store_blk rfl 46 (.tmp 7) (.tmp 60) rfl d9 0 46 Z y.cells rfl rfl (by rw [← HD9.out]; exact Blk.new V1 _ _) (by rw [HZL.out, OpV.len HX.out.2.2.1]; omega) (info51 HX.out.2.2.1) y.one ?_
        intro V2 hx2 hgr2
        have hb2 : Below V1.heap.size V1 V2 := below_gr (below_al V1 _) hgr2.out (by rw [HD9.out]; exact Nat.le_refl _)
        have H2 : Hid (Below W.heap.size W V2 ∧ OpB V2 d8 x ∧ OpB V2 d9 y ∧ Strs V2 x.la x.ln x.ts ∧ Strs V2 y.la y.ln y.ts) := ⟨below_tr H1.out.1 hb2, H1.out.2.1.below hb2, ⟨blk_all hx2.out (by rw [HZL.out, OpV.len HX.out.2.2.1]), HX.out.2.2.1⟩, HX.out.2.2.2.1.below (below_tr H1.out.2.2.2 hb2), HX.out.2.2.2.2.1.below (below_tr H1.out.2.2.2 hb2)⟩
        have HBW : Hid (Below w.heap.size w V2) := below_tr HP.out.2.2.1 H2.out.1
        have k0 : V2.cell? ⟨d8, 0, none⟩ = some (iv kx) := by rw [← HKK.out.1]; exact H2.out.2.1.kind
        have k1 := H2.out.2.1.path
        have k2 := H2.out.2.1.lines
        have j0 : V2.cell? ⟨d9, 0, none⟩ = some (iv ky) := by rw [← HKK.out.2]; exact H2.out.2.2.1.kind
        have j1 := H2.out.2.2.1.path
        have j2 := H2.out.2.2.1.lines
        clear hx2 hgr2 hb2 hd9 H1 d34'
        cases K with
        | false =>
          have ek := HEK.out.1
          have ek' := bne_of HEK.out.1
          clear HEK
          have HF : Hid (B = false) := by show _ = _; rw [← HXB.out]; first | rfl | (simp; done)
          have hBf := HF.out
          subst hBf
          clear HF HXB
          go_wp2
          go_ret
          exact ⟨rfl, HBW.out⟩
        | true =>
        have ek := HEK.out.1
        have ek' := bne_of' HEK.out.1
        cases PB with
        | false =>
          have ep := HEK.out.2
          have ep' := bne_of HEK.out.2
          clear HEK
          have HF : Hid (B = false) := by show _ = _; rw [← HXB.out]; first | rfl | (simp; done)
          have hBf := HF.out
          subst hBf
          clear HF HXB
          go_wp2
          go_ret
          exact ⟨rfl, HBW.out⟩
        | true =>
        have ep := HEK.out.2
        have ep' := bne_of' HEK.out.2
        clear HEK
        go_wp2_with (with_reducible change wpList _ _ _ ({ dst := some 75, op := _, type := _, pos := _, after := _, guard := _ } :: _) _ _; refine Hid.out ?_)
        show wpList _ _ _ _ _ _
        refine wpList_load_want rfl 43 (.tmp 74) rfl d8 2 rfl x.up.cells _ H2.out.2.1.up Tryz.underlying43 rfl (info49 HX.out.2.1.1) ?_
        go_wp2_with (with_reducible change wpList _ _ _ ({ dst := some 77, op := _, type := _, pos := _, after := _, guard := _ } :: _) _ _; refine Hid.out ?_)
        show wpList _ _ _ _ _ _
        refine wpList_load_want rfl 43 (.tmp 76) rfl d9 2 rfl y.up.cells _ H2.out.2.2.1.up Tryz.underlying43 rfl (info49 HX.out.2.2.1.1) ?_
        go_wp2_with (with_reducible change wpList _ _ _ ({ dst := some 78, op := _, type := _, pos := _, after := _, guard := _ } :: _) _ _; refine Hid.out ?_)
        show wpList _ _ _ _ _ _
        refine wpList_neV rfl (.tmp 75) (.tmp 77) rfl x.up y.up HX.out.2.1.1 HX.out.2.2.1.1 (!UB) (by rw [HXE.out.1]) rfl rfl ?_
        cases UB with
        | false =>
          rw [Bool.not_false]
          have HF : Hid (B = false) := by show _ = _; rw [← HXB.out]; first | rfl | (simp; done)
          have hBf := HF.out
          subst hBf
          clear HF HXB
          go_wp2
          go_ret
          exact ⟨rfl, HBW.out⟩
        | true =>
        rw [Bool.not_true]
        go_wp2_with (with_reducible change wpList _ _ _ ({ dst := some 82, op := _, type := _, pos := _, after := _, guard := _ } :: _) _ _; refine Hid.out ?_)
        show wpList _ _ _ _ _ _
        refine wpList_load_want rfl 43 (.tmp 81) rfl d8 35 rfl x.dn.cells _ H2.out.2.1.dn Tryz.underlying43 rfl (info49 HX.out.2.1.2.1) ?_
        go_wp2_with (with_reducible change wpList _ _ _ ({ dst := some 84, op := _, type := _, pos := _, after := _, guard := _ } :: _) _ _; refine Hid.out ?_)
        show wpList _ _ _ _ _ _
        refine wpList_load_want rfl 43 (.tmp 83) rfl d9 35 rfl y.dn.cells _ H2.out.2.2.1.dn Tryz.underlying43 rfl (info49 HX.out.2.2.1.2.1) ?_
        go_wp2_with (with_reducible change wpList _ _ _ ({ dst := some 85, op := _, type := _, pos := _, after := _, guard := _ } :: _) _ _; refine Hid.out ?_)
        show wpList _ _ _ _ _ _
        refine wpList_neV rfl (.tmp 82) (.tmp 84) rfl x.dn y.dn HX.out.2.1.2.1 HX.out.2.2.1.2.1 (!DB) (by rw [HXE.out.2.1]) rfl rfl ?_
        cases DB with
        | false =>
          rw [Bool.not_false]
          have HF : Hid (B = false) := by show _ = _; rw [← HXB.out]; first | rfl | (simp; done)
          have hBf := HF.out
          subst hBf
          clear HF HXB
          go_wp2
          go_ret
          exact ⟨rfl, HBW.out⟩
        | true =>
        rw [Bool.not_true]
        go_wp2_with fail
        refine (eqS13 V2 x.la y.la x.ln x.lc y.ln y.lc x.ts y.ts H2.out.2.2.2.1 H2.out.2.2.2.2 HX.out.2.1.2.2.2.1 HX.out.2.2.1.2.2.2.1 TB HXE.out.2.2).mono ?_
        rintro e V3 ⟨rfl, hb3⟩
        have H3 : Hid (Below W.heap.size W V3 ∧ Below w.heap.size w V3) := ⟨below_tr H2.out.1 hb3, below_tr HBW.out hb3⟩
        clear hb3 HBW H2 k0 k1 k2 j0 j1 j2
        cases TB with
        | false =>
          have HF : Hid (B = false) := by show _ = _; rw [← HXB.out]; rfl
          have hBf := HF.out
          subst hBf
          clear HF HXB
          go_wp2
          go_ret
          exact ⟨rfl, H3.out.2⟩
        | true =>
          have HNN : Hid (sameL (p.O.drop (i + 1)) (q.O.drop (i + 1)) = B ∧ i < n) := ⟨by rw [← HXB.out]; rfl, HX.out.1⟩
          clear HXB HX
          go_wp2
          go_roundw
          case rel => exact ⟨i + 1, by simp, by have := HNN.out.2; omega, HNN.out.1, H3.out.1⟩
          case measure => have := HNN.out.2; simp only [intOf]; omega
      · have q1 : (n : Int) ≤ (i : Int) := by omega
        have HF : Hid (B = true ∧ Below w.heap.size w V0) := by
          have h1 := HI.out.1
          rw [List.drop_eq_nil_iff.2 (by rw [hop.1]; omega), List.drop_eq_nil_iff.2 (by rw [hoq.1]; omega)] at h1
          exact ⟨h1.symm, below_tr HP.out.2.2.1 HI.out.2⟩
        have hBf := HF.out.1
        subst hBf
        clear hi hop hoq
        go_wp2
        go_ret
        exact ⟨rfl, by first | exact HF.out.2 | (rw [← hd2]; exact HF.out.2)⟩
  · have hBf : B = false := by
      rw [← hB, ← HP.out.2.2.2.2]
      exact sameL_len (by rw [HP.out.1.ops.1, HP.out.2.1.ops.1, HN.out.1, HN.out.2]; exact hne)
    subst hBf
    have e4 : ((n : Int) != (n2 : Int)) = true := by simpa using (show ¬ (n : Int) = (n2 : Int) by omega)
    clear hB hne
    go_wp2
    go_ret
    exact ⟨rfl, HV.out.2⟩
end Go.Proofs.YtgdecjacbkicmaaGreatDoor.Oct
