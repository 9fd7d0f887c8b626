/-
  Layer 15 (people): the document's people: Leave.
-/
import Derived.Test.YtfickhhfhdhcbaaRfi
namespace Go.Proofs.Ytfickhhfhdhcbaa.Oct
open Go.RowKit
set_option linter.unusedSimpArgs false
set_option linter.unusedVariables false

theorem wpList_bs {ops : Array Oper} {rest : List Oper} {o : Oper} {a : Act} {w : World} {Q : Exit → Act → World → Prop} (hg : o.guard = none) (t : TypeId) (x : Operand) (u : Value) (hop : o.op = .buildSlice t 1 #[(0, x)]) (hx : a.eval x = u) {v : Value} {w' : World} (hrun : (Instr.buildSlice t 1 #[(0, u)]).run Try.prog w = .ok v w')
    (hk : wpList Try.prog ops Q rest (a.put o.dst v) w') : wpList Try.prog ops Q (o :: rest) a w := by
  refine wpList_plain hg fun K hK => ?_
  unfold Oper.wp execOp
  simp [hop, hx, hrun, Result.andThen]
  exact hK _ _ hk
theorem wpList_append_fc {ops : Array Oper} {rest : List Oper} {o : Oper} {a : Act} {Q : Exit → Act → World → Prop} (hgd : o.guard = none) (s x : Operand)
    (hop : o.op = .call { callee := .builtin .append, args := #[s, x], argTypes := #[28, 28] }) (w : World) (B : Nat) (v : Value) (n : Nat) (cs : List Value) (h : w.ownsRow B 75 4 v n cs) (ao : Option Addr) (q c : Nat) (qs : List Value) (hsv : a.eval s = v) (hx : a.eval x = .slice ao q c) (ho : Rx w ao q 4 qs) (hB : B ≤ w.heap.size) (hn : n + q ≤ 1000000)
    (hk : ∀ v' w', Hid (w'.ownsRow B 75 4 v' (n + q) (cs ++ qs)) → Hid (Below B w w') → wpList Try.prog ops Q rest (a.put o.dst v') w') : wpList Try.prog ops Q (o :: rest) a w := by
  obtain ⟨i0, z, e1, e2, e3, e4, e5⟩ := info75
  refine wpList_plain hgd fun K hK => ?_
  obtain ⟨v', w', hr, h2, h3, _⟩ := run_append_g w 28 o.type 75 i0 z 4 B Try.underlying28 e1 e2 e3 e4 e5 (by omega) v n cs h ao q c qs ho hB hn
  unfold Oper.wp execOp
  simp only [hop, resolve, invoke, builtin, Sem.run_bind, Sem.run_pure, Result.andThen_ok, List.map_toArray, List.map_cons, List.map_nil, hsv, hx, hr]
  refine hK _ _ (hk v' w' h2 ⟨h3.os, h3.tape, h3.output, h3.size, fun k hk => h3.block k (by omega) fun e => ?_⟩)
  have := (h.lt k e.symm).1
  omega
theorem size75 : (Try.prog.info? 75).map (·.size) = some 4 := by kernel_rfl
theorem fact_range {w : World} {g n c i : Nat} {F : List Fc} {f : Fc} (h : SV w (.slice (some ⟨g, 0, none⟩) n c) n 4 (fcC F)) (hf : F[i]? = some f) : w.rangeAt g (i * 4) f.cells := by
  obtain ⟨a', c', e, h1, h2, h3, h4, h5⟩ := h
  cases e
  rcases h5 with ⟨e, _⟩ | ⟨g', e, hg, hc⟩
  · cases e
  · cases e
    exact fun j u hu => hc (i * 4 + j) u (flatN (f := Fc.cells) (fun _ => rfl) hf j u hu)
theorem cells_one (f : Fc) : ∀ u ∈ f.cells, u.oneCell' = true := by
  intro u hu
  have := fcC_one [f]
  exact this u (by simpa [fcC] using hu)
theorem filt_snoc {F : List Fc} {i : Nat} {f : Fc} (p : Fc → Bool) (h : F[i]? = some f) : fcC ((F.take (i + 1)).filter p) = fcC ((F.take i).filter p) ++ (if p f = true then f.cells else []) := by
  rw [take_snoc h, List.filter_append, fcC_app]
  congr 1
  by_cases e : p f = true
  · simp [e, fcC]
  · simp [e, fcC]
set_option maxRecDepth 100000 in
set_option maxHeartbeats 4000000 in
theorem rleave_is {w : World} {uv ov fv : Value} {R : Rp} (h : RPt w uv ov fv R) (hF : R.F.length ≤ 990) (o : Hs) (u : Hs) : Calls Try.prog 34 #[.agg #[uv, ov, fv], hv o, hv u] w (Ro w (rLeave R o u)) := by
  obtain ⟨m, hm⟩ : ∃ m, R.F.length = m := ⟨_, rfl⟩
  obtain ⟨nu, hnu⟩ : ∃ m, R.U.length = m := ⟨_, rfl⟩
  obtain ⟨no, hno⟩ : ∃ m, R.O.length = m := ⟨_, rfl⟩
  obtain ⟨ua, uc, rfl, _⟩ := h.u
  obtain ⟨oa, oc, rfl, _⟩ := h.o
  obtain ⟨a, c, rfl, _⟩ := h.f
  rw [hm, hnu, hno] at h ⊢
  obtain ⟨so, hso, hlo, hqo⟩ := bs_is o
  obtain ⟨su, hsu, hlu, hqu⟩ := bs_is u
  have HS : Hid (so.toList = o ∧ hv o = .string so ∧ su.toList = u ∧ hv u = .string su ∧ True) := ⟨hlo, hso, hlu, hsu, trivial⟩
  have hz30 := zero30
  obtain ⟨b, hb⟩ : ∃ b, w.heap.size = b := ⟨_, rfl⟩
  obtain ⟨A, hA⟩ : ∃ A, (w.alloc (.cells #[.slice ua nu uc, .slice oa no oc, .slice a m c] 30)).alloc (.cells #[.slice none 0 0, .slice none 0 0, .slice none 0 0] 30) = A := ⟨_, rfl⟩
  have hB : Below w.heap.size w A := by rw [← hA]; exact ((Below.refl _ w).alloc (Nat.le_refl _) _).alloc (by simp) _
  have h2 : Blk A b 30 [.slice ua nu uc, .slice oa no oc, .slice a m c] := by rw [← hA, ← hb]; exact (Blk.new w _ _).alloc _
  have h4 : Blk A (b + 1) 30 [.slice none 0 0, .slice none 0 0, .slice none 0 0] := by
    rw [← hA, ← hb]
    have := Blk.new (w.alloc (.cells #[.slice ua nu uc, .slice oa no oc, .slice a m c] 30)) #[.slice none 0 0, .slice none 0 0, .slice none 0 0] 30
    rwa [World.size_alloc] at this
  have HA0 : Hid (RPt w (.slice ua nu uc) (.slice oa no oc) (.slice a m c) R) := h
  have HA : Hid (Below w.heap.size w A ∧ Blk A b 30 [.slice ua nu uc, .slice oa no oc, .slice a m c] ∧ RPt A (.slice ua nu uc) (.slice oa no oc) (.slice a m c) R ∧ Blk A (b + 1) 30 [.slice none 0 0, .slice none 0 0, .slice none 0 0]) := ⟨hB, h2, h.below hB, h4⟩
  have HN : Hid (R.F.length = m ∧ R.U.length = nu ∧ R.O.length = no ∧ m ≤ 990 ∧ w.heap.size = b) := ⟨hm, hnu, hno, by omega, hb⟩
  have qu : (nu : Int) ≤ 1000 := by have := h.nu; omega
  have qo : (no : Int) ≤ 1000 := by have := h.no; omega
  have qm : (m : Int) ≤ 990 := by omega
  rw [hso, hsu]
  clear h hF hm hnu hno hB h2 h4 hlo hqo hlu hqu
  go_enter Try.func34, Try.ntmps34
  obtain ⟨q, hq⟩ : ∃ q, rLeave R o u = q := ⟨_, rfl⟩
  have HQ : Hid (rLeave R o u = q) := hq
  rw [hq]
  clear hq
  obtain ⟨r, hr0⟩ : ∃ k, roleF R.F o u = k := ⟨_, rfl⟩
  have HR0 : Hid (roleF R.F o u = r) := hr0
  have HC := rrole_is HA.out.2.2.1 o u
  rw [hso, hsu, hr0] at HC
  go_wp2_with (with_reducible change wpList _ _ _ ({ dst := some 10, op := _, type := _, pos := _, after := _, guard := _ } :: _) _ _; refine Hid.out ?_)
  show wpList _ _ _ _ _ _
  refine wpList_load_row rfl 30 (.tmp 3) rfl b rfl 30 #[.slice ua nu uc, .slice oa no oc, .slice a m c] (0, 0) _ HA.out.2.1 Try.underlying30 rfl size30 ?_
  simp only [Act.put, List.setIfInBounds_toArray, List.set_cons_zero, List.set_cons_succ]
  go_wp2_with fail
  refine HC.mono ?_
  rintro e V1 ⟨rfl, hb1⟩
  have HV1 : Hid (Below w.heap.size w V1 ∧ Blk V1 b 30 [.slice ua nu uc, .slice oa no oc, .slice a m c] ∧ RPt V1 (.slice ua nu uc) (.slice oa no oc) (.slice a m c) R ∧ Blk V1 (b + 1) 30 [.slice none 0 0, .slice none 0 0, .slice none 0 0]) := ⟨below_tr HA.out.1 hb1, HA.out.2.1.below hb1 HA.out.2.1.lt, HA.out.2.2.1.below hb1, HA.out.2.2.2.below hb1 HA.out.2.2.2.lt⟩
  clear HC hb1 hr0 hA hb
  by_cases hr : r = 0
  · have b2 : (r == 0) = true := by simp [hr]
    have HF : Hid (q = (R, 111)) := by show _ = _; rw [← HQ.out]; unfold rLeave; rw [if_pos (by rw [HR0.out]; exact hr)]
    clear hr
    go_wp2_with (with_reducible change wpList _ _ _ ({ dst := some 15, op := _, type := _, pos := _, after := _, guard := _ } :: _) _ _; refine Hid.out ?_)
    show wpList _ _ _ _ _ _
    refine wpList_load_row rfl 30 (.tmp 3) rfl b rfl 30 #[.slice ua nu uc, .slice oa no oc, .slice a m c] (0, 0) _ HV1.out.2.1 Try.underlying30 rfl size30 ?_
    simp only [Act.put, List.setIfInBounds_toArray, List.set_cons_zero, List.set_cons_succ]
    go_wp2_with (with_reducible change wpList _ _ _ ({ dst := none, op := Op.store 30 _ _, type := _, pos := _, after := _, guard := _ } :: _) _ _; refine Hid.out ?_)
    show wpList _ _ _ _ _ _
    refine wpList_store_blk rfl 30 (.tmp 6) (.tmp 15) rfl (b + 1) 0 30 [.slice none 0 0, .slice none 0 0, .slice none 0 0] [.slice ua nu uc, .slice oa no oc, .slice a m c] rfl rfl HV1.out.2.2.2 (by simp) size30 (three HV1.out.2.2.1) ?_
    intro Ve hbe hge
    have HE : Hid (Blk Ve (b + 1) 30 [.slice ua nu uc, .slice oa no oc, .slice a m c] ∧ RPt Ve (.slice ua nu uc) (.slice oa no oc) (.slice a m c) R ∧ Below w.heap.size w Ve) := by
      have hn := HN.out.2.2.2.2
      have hbw : Below w.heap.size w Ve := HV1.out.1.grown hge.out HV1.out.1.size (fun j hj => by cases hj; omega)
      exact ⟨by simpa using hbe.out, rp_other HV1.out.2.2.1 HV1.out.2.2.2 hge.out, hbw⟩
    clear hbe hge
    go_wp2_with fail
    refine rret30u rfl rfl rfl rfl HE.out.1 ?_
    exact ⟨_, _, _, by rw [HF.out]; rfl, by rw [HF.out]; exact HE.out.2⟩
  · have b2 : (r == 0) = false := by simpa using hr
    by_cases hl : lastF R.F o u = true
    · have HC := rlast_is HV1.out.2.2.1 (by have := HN.out; omega) o u
      rw [hso, hsu, hl] at HC
      go_wp2_with (with_reducible change wpList _ _ _ ({ dst := some 16, op := _, type := _, pos := _, after := _, guard := _ } :: _) _ _; refine Hid.out ?_)
      show wpList _ _ _ _ _ _
      refine wpList_load_row rfl 30 (.tmp 3) rfl b rfl 30 #[.slice ua nu uc, .slice oa no oc, .slice a m c] (0, 0) _ HV1.out.2.1 Try.underlying30 rfl size30 ?_
      simp only [Act.put, List.setIfInBounds_toArray, List.set_cons_zero, List.set_cons_succ]
      go_wp2_with fail
      refine HC.mono ?_
      rintro e V2 ⟨rfl, hb2⟩
      have HV2 : Hid (Below w.heap.size w V2 ∧ Blk V2 b 30 [.slice ua nu uc, .slice oa no oc, .slice a m c] ∧ RPt V2 (.slice ua nu uc) (.slice oa no oc) (.slice a m c) R ∧ Blk V2 (b + 1) 30 [.slice none 0 0, .slice none 0 0, .slice none 0 0]) := ⟨below_tr HV1.out.1 hb2, HV1.out.2.1.below hb2 HV1.out.2.1.lt, HV1.out.2.2.1.below hb2, HV1.out.2.2.2.below hb2 HV1.out.2.2.2.lt⟩
      clear HC hb2
      have HF : Hid (q = (R, 151)) := by show _ = _; rw [← HQ.out]; unfold rLeave; rw [if_neg (by rw [HR0.out]; exact hr), if_pos hl]
      clear hr hl
      go_wp2_with (with_reducible change wpList _ _ _ ({ dst := some 20, op := _, type := _, pos := _, after := _, guard := _ } :: _) _ _; refine Hid.out ?_)
      show wpList _ _ _ _ _ _
      refine wpList_load_row rfl 30 (.tmp 3) rfl b rfl 30 #[.slice ua nu uc, .slice oa no oc, .slice a m c] (0, 0) _ HV2.out.2.1 Try.underlying30 rfl size30 ?_
      simp only [Act.put, List.setIfInBounds_toArray, List.set_cons_zero, List.set_cons_succ]
      go_wp2_with (with_reducible change wpList _ _ _ ({ dst := none, op := Op.store 30 _ _, type := _, pos := _, after := _, guard := _ } :: _) _ _; refine Hid.out ?_)
      show wpList _ _ _ _ _ _
      refine wpList_store_blk rfl 30 (.tmp 6) (.tmp 20) rfl (b + 1) 0 30 [.slice none 0 0, .slice none 0 0, .slice none 0 0] [.slice ua nu uc, .slice oa no oc, .slice a m c] rfl rfl HV2.out.2.2.2 (by simp) size30 (three HV2.out.2.2.1) ?_
      intro Ve hbe hge
      have HE : Hid (Blk Ve (b + 1) 30 [.slice ua nu uc, .slice oa no oc, .slice a m c] ∧ RPt Ve (.slice ua nu uc) (.slice oa no oc) (.slice a m c) R ∧ Below w.heap.size w Ve) := by
        have hn := HN.out.2.2.2.2
        have hbw : Below w.heap.size w Ve := HV2.out.1.grown hge.out HV2.out.1.size (fun j hj => by cases hj; omega)
        exact ⟨by simpa using hbe.out, rp_other HV2.out.2.2.1 HV2.out.2.2.2 hge.out, hbw⟩
      clear hbe hge
      go_wp2_with fail
      refine rret30u rfl rfl rfl rfl HE.out.1 ?_
      exact ⟨_, _, _, by rw [HF.out]; rfl, by rw [HF.out]; exact HE.out.2⟩
    · have hl2 : lastF R.F o u = false := by simpa using hl
      have HC := rlast_is HV1.out.2.2.1 (by have := HN.out; omega) o u
      rw [hso, hsu, hl2] at HC
      go_wp2_with (with_reducible change wpList _ _ _ ({ dst := some 16, op := _, type := _, pos := _, after := _, guard := _ } :: _) _ _; refine Hid.out ?_)
      show wpList _ _ _ _ _ _
      refine wpList_load_row rfl 30 (.tmp 3) rfl b rfl 30 #[.slice ua nu uc, .slice oa no oc, .slice a m c] (0, 0) _ HV1.out.2.1 Try.underlying30 rfl size30 ?_
      simp only [Act.put, List.setIfInBounds_toArray, List.set_cons_zero, List.set_cons_succ]
      go_wp2_with fail
      refine HC.mono ?_
      rintro e V2 ⟨rfl, hb2⟩
      have HV2 : Hid (Below w.heap.size w V2 ∧ Blk V2 b 30 [.slice ua nu uc, .slice oa no oc, .slice a m c] ∧ RPt V2 (.slice ua nu uc) (.slice oa no oc) (.slice a m c) R ∧ Blk V2 (b + 1) 30 [.slice none 0 0, .slice none 0 0, .slice none 0 0]) := ⟨below_tr HV1.out.1 hb2, HV1.out.2.1.below hb2 HV1.out.2.1.lt, HV1.out.2.2.1.below hb2, HV1.out.2.2.2.below hb2 HV1.out.2.2.2.lt⟩
      clear HC hb2
      have HF : Hid (q = ({ R with F := R.F.filter (fun f => f.o != o || f.u != u) }, 0)) := by show _ = _; rw [← HQ.out]; unfold rLeave; rw [if_neg (by rw [HR0.out]; exact hr), if_neg hl]
      clear hr hl hl2
      have c0V2 : V2.cell? ⟨b, 0, none⟩ = some (.slice ua nu uc) := HV2.out.2.1.cell rfl
      have c1V2 : V2.cell? ⟨b, 1, none⟩ = some (.slice oa no oc) := HV2.out.2.1.cell rfl
      have c2V2 : V2.cell? ⟨b, 2, none⟩ = some (.slice a m c) := HV2.out.2.1.cell rfl
      go_wp2
      go_loopw [9, 8] (fun x9 v W => ∃ i k : Nat, x9 = iv i ∧ Hid (i ≤ m ∧ k ≤ i ∧ Below V2.heap.size V2 W ∧ W.ownsRow V2.heap.size 75 4 v k (fcC ((R.F.take i).filter (fun f => f.o != o || f.u != u))))) (fun x9 _ _ => m - (intOf x9).toNat)
      case atStart => exact ⟨0, 0, rfl, Nat.zero_le _, Nat.le_refl _, Below.refl _ _, ⟨by simp [fcC], .inl ⟨rfl, rfl⟩⟩⟩
      case round =>
        obtain ⟨i, k, rfl, HI⟩ := hrel
        have cb : wr.cell? ⟨b, 2, none⟩ = some (.slice a m c) := (HV2.out.2.1.below HI.out.2.2.1 HV2.out.2.1.lt).cell rfl
        by_cases hi : i = m
        · have q1 : (m : Int) ≤ (i : Int) := by omega
          have HOW : Hid (wr.ownsRow V2.heap.size 75 4 u8 k (fcC (R.F.filter (fun f => f.o != o || f.u != u))) ∧ Below w.heap.size w wr ∧ Blk wr b 30 [.slice ua nu uc, .slice oa no oc, .slice a m c] ∧ Blk wr (b + 1) 30 [.slice none 0 0, .slice none 0 0, .slice none 0 0]) := by
            have h1 := HI.out.2.2.2
            rw [List.take_of_length_le (by have := HN.out; omega)] at h1
            exact ⟨h1, below_tr HV2.out.1 HI.out.2.2.1, HV2.out.2.1.below HI.out.2.2.1 HV2.out.2.1.lt, HV2.out.2.2.2.below HI.out.2.2.1 HV2.out.2.2.2.lt⟩
          have HRP : Hid (RPt wr (.slice ua nu uc) (.slice oa no oc) u8 { R with F := R.F.filter (fun f => f.o != o || f.u != u) }) := by
            have h0 := HV2.out.2.2.1.below HI.out.2.2.1
            have hk : (R.F.filter (fun f => f.o != o || f.u != u)).length = k := by have := HOW.out.1.1; rw [fcC_len] at this; omega
            refine ⟨h0.u, h0.o, ?_, h0.nu, h0.no, ?_⟩
            · rw [show ({ R with F := R.F.filter (fun f => f.o != o || f.u != u) } : Rp).F.length = k from hk]
              exact SV.own HOW.out.1 (fcC_one _)
            · show (R.F.filter (fun f => f.o != o || f.u != u)).length ≤ _
              have := HI.out; have := HN.out; omega
          clear hi
          go_wp2_with (with_reducible change wpList _ _ _ ({ dst := none, op := Op.store 28 _ _, type := _, pos := _, after := _, guard := _ } :: _) _ _; refine Hid.out ?_)
          show wpList _ _ _ _ _ _
          refine wpList_st1 rfl 28 (.tmp 55) (.tmp 54) rfl b 2 u8 30 [.slice ua nu uc, .slice oa no oc, .slice a m c] rfl rfl HOW.out.2.2.1 (by simp) size28 (own_slice HOW.out.1).1 (own_slice HOW.out.1).2 ?_
          intro V4 hb4 hg4
          have HV4 : Hid (Below w.heap.size w V4 ∧ Blk V4 b 30 [.slice ua nu uc, .slice oa no oc, u8] ∧ RPt V4 (.slice ua nu uc) (.slice oa no oc) u8 { R with F := R.F.filter (fun f => f.o != o || f.u != u) } ∧ Blk V4 (b + 1) 30 [.slice none 0 0, .slice none 0 0, .slice none 0 0]) := by
            have hn := HN.out.2.2.2.2
            exact ⟨HOW.out.2.1.grown hg4.out HOW.out.2.1.size (fun j hj => by cases hj; omega), by simpa using hb4.out, rp_other HRP.out HOW.out.2.2.1 hg4.out, HOW.out.2.2.2.kept hg4.out (by simp)⟩
          clear hb4 hg4
          simp only [Act.put, List.setIfInBounds_toArray, List.set_cons_zero, List.set_cons_succ]
          go_wp2_with (with_reducible change wpList _ _ _ ({ dst := some 56, op := _, type := _, pos := _, after := _, guard := _ } :: _) _ _; refine Hid.out ?_)
          show wpList _ _ _ _ _ _
          refine wpList_load_row rfl 30 (.tmp 3) rfl b rfl 30 #[.slice ua nu uc, .slice oa no oc, u8] (0, 0) _ HV4.out.2.1 Try.underlying30 rfl size30 ?_
          simp only [Act.put, List.setIfInBounds_toArray, List.set_cons_zero, List.set_cons_succ]
          go_wp2_with (with_reducible change wpList _ _ _ ({ dst := none, op := Op.store 30 _ _, type := _, pos := _, after := _, guard := _ } :: _) _ _; refine Hid.out ?_)
          show wpList _ _ _ _ _ _
          refine wpList_store_blk rfl 30 (.tmp 6) (.tmp 56) rfl (b + 1) 0 30 [.slice none 0 0, .slice none 0 0, .slice none 0 0] [.slice ua nu uc, .slice oa no oc, u8] rfl rfl HV4.out.2.2.2 (by simp) size30 (three HV4.out.2.2.1) ?_
          intro Ve hbe hge
          have HE : Hid (Blk Ve (b + 1) 30 [.slice ua nu uc, .slice oa no oc, u8] ∧ RPt Ve (.slice ua nu uc) (.slice oa no oc) (u8) { R with F := R.F.filter (fun f => f.o != o || f.u != u) } ∧ Below w.heap.size w Ve) := by
            have hn := HN.out.2.2.2.2
            have hbw : Below w.heap.size w Ve := HV4.out.1.grown hge.out HV4.out.1.size (fun j hj => by cases hj; omega)
            exact ⟨by simpa using hbe.out, rp_other HV4.out.2.2.1 HV4.out.2.2.2 hge.out, hbw⟩
          clear hbe hge
          go_wp2_with fail
          refine rret30u rfl rfl rfl rfl HE.out.1 ?_
          exact ⟨_, _, _, by rw [HF.out]; rfl, by rw [HF.out]; exact HE.out.2⟩
        · have HQ2 : Hid (i < m) := by have := HI.out.1; show _ < _; omega
          have q1 : (i : Int) < (m : Int) := by have := HQ2.out; omega
          have q2 : i < m := HQ2.out
          have hsv := (HV2.out.2.2.1.below HI.out.2.2.1).f
          rw [HN.out.1] at hsv
          obtain ⟨g, c', f, ha, hg, hf, c0, c1, c2, _⟩ := (sv_fact hsv).2 i q2
          cases ha
          have HSV : Hid (SV wr (.slice (some ⟨g, 0, none⟩) m c) m 4 (fcC R.F)) := hsv
          obtain ⟨fo, hfo, lfo, _⟩ := bs_is f.o
          obtain ⟨fu, hfu, lfu, _⟩ := bs_is f.u
          have HY : Hid (R.F[i]? = some f ∧ fo.toList = f.o ∧ fu.toList = f.u) := ⟨hf, lfo, lfu⟩
          rw [hfo] at c0
          rw [hfu] at c2
          clear hi hf hfo hfu lfo lfu hsv hg c1
          by_cases e1 : f.o = o
          · have b1 := beq_yes HY.out.2.1 HS.out.1 e1
            by_cases e2 : f.u = u
            · have b2 := beq_yes HY.out.2.2 HS.out.2.2.1 e2
              have HKP : Hid (¬ (f.o != o || f.u != u) = true) := by show ¬ _; simp [e1, e2]
              clear e1 e2
              have HE : Hid (i + 1 ≤ m ∧ k ≤ i + 1 ∧ Below V2.heap.size V2 wr ∧ wr.ownsRow V2.heap.size 75 4 u8 (k) (fcC ((R.F.take (i + 1)).filter (fun f => f.o != o || f.u != u)))) := ⟨HQ2.out, by have := HI.out.2.1; omega, HI.out.2.2.1, by rw [filt_snoc _ HY.out.1, if_neg HKP.out, List.append_nil]; exact HI.out.2.2.2⟩
              clear HSV
              go_wp2
              go_roundw
              case rel => exact ⟨i + 1, k, by simp, HE.out⟩
              case measure =>
                have := HQ2.out
                simp only [intOf]
                omega
            · have b2 := beq_no HY.out.2.2 HS.out.2.2.1 e2
              have HKP : Hid ((f.o != o || f.u != u) = true) := by show _ = _; simp [e2]
              clear e1 e2
              have HR : Hid (wr.rangeAt g (i * 4) f.cells) := fact_range HSV.out HY.out.1
              clear HSV
              go_wp2_with (with_reducible change wpList _ _ _ ({ dst := some 51, op := _, type := _, pos := _, after := _, guard := _ } :: _) _ _; refine Hid.out ?_)
              show wpList _ _ _ _ _ _
              refine wpList_load_want rfl 75 (.tmp 50) rfl g (i * 4) rfl f.cells _ HR.out Try.underlying75 rfl size75 ?_
              simp only [Act.put, List.setIfInBounds_toArray, List.set_cons_zero, List.set_cons_succ]
              go_wp2_with (with_reducible change wpList _ _ _ ({ dst := some 52, op := _, type := _, pos := _, after := _, guard := _ } :: _) _ _; refine Hid.out ?_)
              show wpList _ _ _ _ _ _
              refine wpList_bs rfl 28 (.tmp 51) _ rfl rfl (run_bs28 f wr) ?_
              obtain ⟨W2, hW2⟩ : ∃ W, wr.alloc (.cells f.cells.toArray 75) = W := ⟨_, rfl⟩
              obtain ⟨nb, hnb⟩ : ∃ n, wr.heap.size = n := ⟨_, rfl⟩
              rw [hW2, hnb]
              have HW2 : Hid (Below V2.heap.size V2 W2 ∧ W2.ownsRow V2.heap.size 75 4 u8 k (fcC ((R.F.take i).filter (fun f => f.o != o || f.u != u))) ∧ Rx W2 (some ⟨nb, 0, none⟩) 1 4 f.cells) := by
                rw [← hW2, ← hnb]
                exact ⟨below_tr HI.out.2.2.1 (below_al _ _), ownsRow_below HI.out.2.2.2 (below_al _ _), ⟨rfl, cells_one f, fun _ => ⟨_, 0, rfl, range_new wr f.cells 75⟩⟩⟩
              clear hW2 hnb HR
              simp only [Act.put, List.setIfInBounds_toArray, List.set_cons_zero, List.set_cons_succ]
              go_wp2_with (with_reducible change wpList _ _ _ ({ dst := some 53, op := _, type := _, pos := _, after := _, guard := _ } :: _) _ _; refine Hid.out ?_)
              show wpList _ _ _ _ _ _
              refine wpList_append_fc rfl (.tmp 46) (.tmp 52) rfl W2 V2.heap.size u8 k _ HW2.out.2.1 _ 1 1 f.cells rfl rfl HW2.out.2.2 HW2.out.1.size (by have h1 := HI.out; have h2 := HN.out; omega) ?_
              intro v53 W3 ho3 hb3
              have HE : Hid (i + 1 ≤ m ∧ k + 1 ≤ i + 1 ∧ Below V2.heap.size V2 W3 ∧ W3.ownsRow V2.heap.size 75 4 v53 (k + 1) (fcC ((R.F.take (i + 1)).filter (fun f => f.o != o || f.u != u)))) := ⟨HQ2.out, by have := HI.out.2.1; omega, HW2.out.1.trans hb3.out, by rw [filt_snoc _ HY.out.1, if_pos HKP.out]; exact ho3.out⟩
              clear ho3 hb3
              simp only [Act.put, List.setIfInBounds_toArray, List.set_cons_zero, List.set_cons_succ]
              go_wp2
              go_roundw
              case rel => exact ⟨i + 1, k + 1, by simp, HE.out⟩
              case measure =>
                have := HQ2.out
                simp only [intOf]
                omega
          · have b1 := beq_no HY.out.2.1 HS.out.1 e1
            have HKP : Hid ((f.o != o || f.u != u) = true) := by show _ = _; simp [e1]
            clear e1
            have HR : Hid (wr.rangeAt g (i * 4) f.cells) := fact_range HSV.out HY.out.1
            clear HSV
            go_wp2_with (with_reducible change wpList _ _ _ ({ dst := some 51, op := _, type := _, pos := _, after := _, guard := _ } :: _) _ _; refine Hid.out ?_)
            show wpList _ _ _ _ _ _
            refine wpList_load_want rfl 75 (.tmp 50) rfl g (i * 4) rfl f.cells _ HR.out Try.underlying75 rfl size75 ?_
            simp only [Act.put, List.setIfInBounds_toArray, List.set_cons_zero, List.set_cons_succ]
            go_wp2_with (with_reducible change wpList _ _ _ ({ dst := some 52, op := _, type := _, pos := _, after := _, guard := _ } :: _) _ _; refine Hid.out ?_)
            show wpList _ _ _ _ _ _
            refine wpList_bs rfl 28 (.tmp 51) _ rfl rfl (run_bs28 f wr) ?_
            obtain ⟨W2, hW2⟩ : ∃ W, wr.alloc (.cells f.cells.toArray 75) = W := ⟨_, rfl⟩
            obtain ⟨nb, hnb⟩ : ∃ n, wr.heap.size = n := ⟨_, rfl⟩
            rw [hW2, hnb]
            have HW2 : Hid (Below V2.heap.size V2 W2 ∧ W2.ownsRow V2.heap.size 75 4 u8 k (fcC ((R.F.take i).filter (fun f => f.o != o || f.u != u))) ∧ Rx W2 (some ⟨nb, 0, none⟩) 1 4 f.cells) := by
              rw [← hW2, ← hnb]
              exact ⟨below_tr HI.out.2.2.1 (below_al _ _), ownsRow_below HI.out.2.2.2 (below_al _ _), ⟨rfl, cells_one f, fun _ => ⟨_, 0, rfl, range_new wr f.cells 75⟩⟩⟩
            clear hW2 hnb HR
            simp only [Act.put, List.setIfInBounds_toArray, List.set_cons_zero, List.set_cons_succ]
            go_wp2_with (with_reducible change wpList _ _ _ ({ dst := some 53, op := _, type := _, pos := _, after := _, guard := _ } :: _) _ _; refine Hid.out ?_)
            show wpList _ _ _ _ _ _
            refine wpList_append_fc rfl (.tmp 46) (.tmp 52) rfl W2 V2.heap.size u8 k _ HW2.out.2.1 _ 1 1 f.cells rfl rfl HW2.out.2.2 HW2.out.1.size (by have h1 := HI.out; have h2 := HN.out; omega) ?_
            intro v53 W3 ho3 hb3
            have HE : Hid (i + 1 ≤ m ∧ k + 1 ≤ i + 1 ∧ Below V2.heap.size V2 W3 ∧ W3.ownsRow V2.heap.size 75 4 v53 (k + 1) (fcC ((R.F.take (i + 1)).filter (fun f => f.o != o || f.u != u)))) := ⟨HQ2.out, by have := HI.out.2.1; omega, HW2.out.1.trans hb3.out, by rw [filt_snoc _ HY.out.1, if_pos HKP.out]; exact ho3.out⟩
            clear ho3 hb3
            simp only [Act.put, List.setIfInBounds_toArray, List.set_cons_zero, List.set_cons_succ]
            go_wp2
            go_roundw
            case rel => exact ⟨i + 1, k + 1, by simp, HE.out⟩
            case measure =>
              have := HQ2.out
              simp only [intOf]
              omega
#print axioms rleave_is
end Go.Proofs.Ytfickhhfhdhcbaa.Oct
