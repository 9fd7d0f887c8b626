/-
  Layer 20 (review): the document's board: Say; the drawn regions of Propose.
  Layer 20 (review): the document's board: Propose.
-/
import Derived.Test.YtaecigpjcbjcbaaPkC
/- Layer 20 (review): the document's board: Say; the drawn regions of Propose. -/
namespace Go.Proofs.Ytaecigpjcbjcbaa.Oct
open Go.RowKit
set_option linter.unusedSimpArgs false
set_option linter.unusedVariables false

set_option maxRecDepth 100000 in
theorem run_field43 (x : Int) (au ch : BA) (h : Hs) (hl : h.length = 32) (op : Bool) (y n t : Sl) (W : World) : (Instr.field 43 (.agg (Pp.cells ⟨x, au, ch, h, op, y, n, t⟩).toArray) 7).run Try.prog W = .ok (.slice t.a t.n t.c) W := by
  obtain ⟨a0, l0, rfl, h0⟩ := uncons hl
  obtain ⟨a1, l1, rfl, h1⟩ := uncons h0
  obtain ⟨a2, l2, rfl, h2⟩ := uncons h1
  obtain ⟨a3, l3, rfl, h3⟩ := uncons h2
  obtain ⟨a4, l4, rfl, h4⟩ := uncons h3
  obtain ⟨a5, l5, rfl, h5⟩ := uncons h4
  obtain ⟨a6, l6, rfl, h6⟩ := uncons h5
  obtain ⟨a7, l7, rfl, h7⟩ := uncons h6
  obtain ⟨a8, l8, rfl, h8⟩ := uncons h7
  obtain ⟨a9, l9, rfl, h9⟩ := uncons h8
  obtain ⟨a10, l10, rfl, h10⟩ := uncons h9
  obtain ⟨a11, l11, rfl, h11⟩ := uncons h10
  obtain ⟨a12, l12, rfl, h12⟩ := uncons h11
  obtain ⟨a13, l13, rfl, h13⟩ := uncons h12
  obtain ⟨a14, l14, rfl, h14⟩ := uncons h13
  obtain ⟨a15, l15, rfl, h15⟩ := uncons h14
  obtain ⟨a16, l16, rfl, h16⟩ := uncons h15
  obtain ⟨a17, l17, rfl, h17⟩ := uncons h16
  obtain ⟨a18, l18, rfl, h18⟩ := uncons h17
  obtain ⟨a19, l19, rfl, h19⟩ := uncons h18
  obtain ⟨a20, l20, rfl, h20⟩ := uncons h19
  obtain ⟨a21, l21, rfl, h21⟩ := uncons h20
  obtain ⟨a22, l22, rfl, h22⟩ := uncons h21
  obtain ⟨a23, l23, rfl, h23⟩ := uncons h22
  obtain ⟨a24, l24, rfl, h24⟩ := uncons h23
  obtain ⟨a25, l25, rfl, h25⟩ := uncons h24
  obtain ⟨a26, l26, rfl, h26⟩ := uncons h25
  obtain ⟨a27, l27, rfl, h27⟩ := uncons h26
  obtain ⟨a28, l28, rfl, h28⟩ := uncons h27
  obtain ⟨a29, l29, rfl, h29⟩ := uncons h28
  obtain ⟨a30, l30, rfl, h30⟩ := uncons h29
  obtain ⟨a31, l31, rfl, h31⟩ := uncons h30
  obtain rfl := List.eq_nil_of_length_eq_zero h31
  kernel_rfl
theorem wpList_field {ops : Array Oper} {rest : List Oper} {o : Oper} {a : Act} {w : World} {Q : Exit → Act → World → Prop} (hw : Region.wanted o (yielded ops a.tmps) = true) (t : TypeId) (x : Operand) (k : Nat) (hop : o.op = Op.field t x k) (u v : Value) (hx : a.eval x = u) (hrun : ∀ W, (Instr.field t u k).run Try.prog W = .ok v W)
    (hK : wpList Try.prog ops Q rest (a.put o.dst v) w) : wpList Try.prog ops Q (o :: rest) a w := by
  refine Go.BigFrame.wpList_want hw fun K' hK' => ?_
  unfold Oper.wp execOp
  simp [hop, hx, hrun, Result.andThen]
  exact hK' _ _ hK
def rSay (R : Rb) (x : Int) (u t : BA) : Rb × Int := if thereR R x = false then (R, 111) else if 200 < t.size ∨ 32 ≤ (talkD R.D x).length then (R, 3) else ({ R with D := R.D ++ [⟨4, x, u, t⟩] }, 0)
set_option maxRecDepth 100000 in
set_option maxHeartbeats 4000000 in
theorem rsay_is {w : World} {lv dv : Value} {R : Rb} (h : RBt w lv dv R) (x : Int) (u : BA) (t : BA) (hD : R.D.length + 1 ≤ 1000) (ht : t.size ≤ 140737488355328) : Calls Try.prog 34 #[.agg #[lv, dv], iv x, .string u, .string t] w (Ro w lv dv (rSay R x u t)) := by
  obtain ⟨nl, hnl⟩ : ∃ m, R.L.length = m := ⟨_, rfl⟩
  obtain ⟨nd, hnd⟩ : ∃ m, R.D.length = m := ⟨_, rfl⟩
  obtain ⟨la, lc, rfl, _⟩ := h.l
  obtain ⟨da, dc, rfl, _⟩ := h.d
  rw [hnl, hnd] at h ⊢
  obtain ⟨b, hb⟩ : ∃ b, w.heap.size = b := ⟨_, rfl⟩
  have hz30 := zero30
  obtain ⟨A, hA⟩ : ∃ A, (w.alloc (.cells #[.slice la nl lc, .slice da nd dc] 30)).alloc (.cells #[.slice none 0 0, .slice none 0 0] 30) = A := ⟨_, rfl⟩
  have hB : Below w.heap.size w A := by rw [← hA]; exact ((Below.refl _ w).alloc (Nat.le_refl _) _).alloc (by simp) _
  have h2 : Blk A b 30 [.slice la nl lc, .slice da nd dc] := by rw [← hA, ← hb]; exact (Blk.new w _ _).alloc _
  have h4 : Blk A (b + 1) 30 [.slice none 0 0, .slice none 0 0] := by
    rw [← hA, ← hb]
    have := Blk.new (w.alloc (.cells #[.slice la nl lc, .slice da nd dc] 30)) #[.slice none 0 0, .slice none 0 0] 30
    rwa [World.size_alloc] at this
  have HA0 : Hid (RBt w (.slice la nl lc) (.slice da nd dc) R) := h
  have HA : Hid (Below w.heap.size w A ∧ Blk A b 30 [.slice la nl lc, .slice da nd dc] ∧ RBt A (.slice la nl lc) (.slice da nd dc) R ∧ Blk A (b + 1) 30 [.slice none 0 0, .slice none 0 0]) := ⟨hB, h2, h.below hB, h4⟩
  have HN : Hid (R.L.length = nl ∧ R.D.length = nd ∧ w.heap.size = b) := ⟨hnl, hnd, hb⟩
  have ql : (nl : Int) ≤ 1000 := by have := h.nl; omega
  have qd : (nd : Int) ≤ 1000 := by have := h.nd; omega
  have HND : Hid (R.D.length + 1 ≤ 1000) := hD
  obtain ⟨q, hq⟩ : ∃ q, rSay R x u t = q := ⟨_, rfl⟩
  have HQ : Hid (rSay R x u t = q) := hq
  rw [hq]
  obtain ⟨th, hth⟩ : ∃ y, thereR R x = y := ⟨_, rfl⟩
  have HT0 : Hid (thereR R x = th) := hth
  obtain ⟨ts, hts⟩ : ∃ n, t.size = n := ⟨_, rfl⟩
  have HTS : Hid (t.size = ts) := hts
  have qt : (ts : Int) ≤ 140737488355328 := by omega
  clear hq hth hD ht
  clear h hnl hnd hB h2 h4
  go_enter Try.func34, Try.ntmps34
  have HCV := rthere_is HA.out.2.2.1 x
  rw [HT0.out] at HCV
  have c0A : A.cell? ⟨b, 0, none⟩ = some (.slice la nl lc) := HA.out.2.1.cell rfl
  have c1A : A.cell? ⟨b, 1, none⟩ = some (.slice da nd dc) := HA.out.2.1.cell rfl
  go_wp2_with (with_reducible change wpList _ _ _ ({ dst := some 10, op := _, type := _, pos := _, after := _, guard := _ } :: _) _ _; refine Hid.out ?_)
  show wpList _ _ _ _ _ _
  refine wpList_load_row rfl 30 (.tmp 4) rfl b rfl 30 #[.slice la nl lc, .slice da nd dc] (0, 0) _ HA.out.2.1 Try.underlying30 rfl size30 ?_
  simp only [Act.put, List.setIfInBounds_toArray, List.set_cons_zero, List.set_cons_succ]
  go_wp2_with fail
  refine HCV.mono ?_
  rintro e V ⟨rfl, hbV⟩
  have HV : Hid (Below w.heap.size w V ∧ Blk V b 30 [.slice la nl lc, .slice da nd dc] ∧ RBt V (.slice la nl lc) (.slice da nd dc) R ∧ Blk V (b + 1) 30 [.slice none 0 0, .slice none 0 0]) := ⟨below_tr HA.out.1 hbV, HA.out.2.1.below hbV HA.out.2.1.lt, HA.out.2.2.1.below hbV, HA.out.2.2.2.below hbV HA.out.2.2.2.lt⟩
  clear hb hA hbV
  clear c0A c1A
  clear HCV
  cases th
  · have HF : Hid (q = (R, 111)) := by show _ = _; rw [← HQ.out]; unfold rSay; rw [if_pos HT0.out]
    go_wp2_with (with_reducible change wpList _ _ _ ({ dst := some 14, op := _, type := _, pos := _, after := _, guard := _ } :: _) _ _; refine Hid.out ?_)
    show wpList _ _ _ _ _ _
    refine wpList_load_row rfl 30 (.tmp 4) rfl b rfl 30 #[.slice la nl lc, .slice da nd dc] (0, 0) _ HV.out.2.1 Try.underlying30 rfl size30 ?_
    simp only [Act.put, List.setIfInBounds_toArray, List.set_cons_zero, List.set_cons_succ]
    have HRV : Hid (Below w.heap.size w V ∧ RBt V (.slice la nl lc) (.slice da nd dc) R ∧ Blk V (b + 1) 30 [.slice none 0 0, .slice none 0 0] ∧ New w (.slice la nl lc) (.slice la nl lc) ∧ New w (.slice da nd dc) (.slice da nd dc)) := ⟨HV.out.1, HV.out.2.2.1, HV.out.2.2.2, .inl rfl, .inl rfl⟩
    go_wp2_with (with_reducible change wpList _ _ _ ({ dst := none, op := Op.store 30 _ _, type := _, pos := _, after := _, guard := _ } :: _) _ _; refine Hid.out ?_)
    show wpList _ _ _ _ _ _
    refine wpList_store_blk rfl 30 (.tmp 8) (.tmp 14) rfl (b + 1) 0 30 [.slice none 0 0, .slice none 0 0] [.slice la nl lc, .slice da nd dc] rfl rfl HRV.out.2.2.1 (by simp) size30 (two HRV.out.2.1) ?_
    intro Ve hbe hge
    have HE : Hid (Blk Ve (b + 1) 30 [.slice la nl lc, .slice da nd dc] ∧ RBt Ve (.slice la nl lc) (.slice da nd dc) R ∧ Below w.heap.size w Ve ∧ New w (.slice la nl lc) (.slice la nl lc) ∧ New w (.slice da nd dc) (.slice da nd dc)) := by
      have hn := HN.out.2.2
      have hbw : Below w.heap.size w Ve := HRV.out.1.grown hge.out HRV.out.1.size (fun j hj => by cases hj; omega)
      exact ⟨by simpa using hbe.out, rb_other HRV.out.2.1 HRV.out.2.2.1 hge.out, hbw, HRV.out.2.2.2⟩
    clear hbe hge
    go_wp2_with fail
    refine rret30u rfl rfl rfl rfl HE.out.1 ?_
    exact ⟨_, _, by rw [HF.out]; rfl, by rw [HF.out]; exact HE.out.2⟩
  · by_cases ht2 : (200 : Int) < (ts : Int)
    · have HF : Hid (q = (R, 3)) := by show _ = _; rw [← HQ.out]; unfold rSay; rw [if_neg (by rw [HT0.out]; simp), if_pos (.inl (by rw [HTS.out]; omega))]
      go_wp2_with (with_reducible change wpList _ _ _ ({ dst := some 26, op := _, type := _, pos := _, after := _, guard := _ } :: _) _ _; refine Hid.out ?_)
      show wpList _ _ _ _ _ _
      refine wpList_load_row rfl 30 (.tmp 4) rfl b rfl 30 #[.slice la nl lc, .slice da nd dc] (0, 0) _ HV.out.2.1 Try.underlying30 rfl size30 ?_
      simp only [Act.put, List.setIfInBounds_toArray, List.set_cons_zero, List.set_cons_succ]
      have HRV : Hid (Below w.heap.size w V ∧ RBt V (.slice la nl lc) (.slice da nd dc) R ∧ Blk V (b + 1) 30 [.slice none 0 0, .slice none 0 0] ∧ New w (.slice la nl lc) (.slice la nl lc) ∧ New w (.slice da nd dc) (.slice da nd dc)) := ⟨HV.out.1, HV.out.2.2.1, HV.out.2.2.2, .inl rfl, .inl rfl⟩
      go_wp2_with (with_reducible change wpList _ _ _ ({ dst := none, op := Op.store 30 _ _, type := _, pos := _, after := _, guard := _ } :: _) _ _; refine Hid.out ?_)
      show wpList _ _ _ _ _ _
      refine wpList_store_blk rfl 30 (.tmp 8) (.tmp 26) rfl (b + 1) 0 30 [.slice none 0 0, .slice none 0 0] [.slice la nl lc, .slice da nd dc] rfl rfl HRV.out.2.2.1 (by simp) size30 (two HRV.out.2.1) ?_
      intro Ve hbe hge
      have HE : Hid (Blk Ve (b + 1) 30 [.slice la nl lc, .slice da nd dc] ∧ RBt Ve (.slice la nl lc) (.slice da nd dc) R ∧ Below w.heap.size w Ve ∧ New w (.slice la nl lc) (.slice la nl lc) ∧ New w (.slice da nd dc) (.slice da nd dc)) := by
        have hn := HN.out.2.2
        have hbw : Below w.heap.size w Ve := HRV.out.1.grown hge.out HRV.out.1.size (fun j hj => by cases hj; omega)
        exact ⟨by simpa using hbe.out, rb_other HRV.out.2.1 HRV.out.2.2.1 hge.out, hbw, HRV.out.2.2.2⟩
      clear hbe hge
      go_wp2_with fail
      refine rret30u rfl rfl rfl rfl HE.out.1 ?_
      exact ⟨_, _, by rw [HF.out]; rfl, by rw [HF.out]; exact HE.out.2⟩
    · have ht3 : (ts : Int) ≤ 200 := by omega
      have HT3 : Hid (ts ≤ 200) := by show _ ≤ _; omega
      clear ht2
      have HC := rprop_is HV.out.2.2.1 x
      have c0V : V.cell? ⟨b, 0, none⟩ = some (.slice la nl lc) := HV.out.2.1.cell rfl
      have c1V : V.cell? ⟨b, 1, none⟩ = some (.slice da nd dc) := HV.out.2.1.cell rfl
      have hdf : decide ((200 : Int) < (ts : Int)) = false := decide_eq_false (by omega)
      go_wp2_with (with_reducible change wpList _ _ _ ({ dst := some 19, op := _, type := _, pos := _, after := _, guard := _ } :: _) _ _; refine Hid.out ?_)
      show wpList _ _ _ _ _ _
      try simp only [hdf]
      refine wpList_load_want rfl 30 (.tmp 4) rfl b 0 rfl [.slice la nl lc, .slice da nd dc] _ (by have := HV.out.2.1.range0; exact this) Try.underlying30 rfl size30 ?_
      simp only [Act.put, List.setIfInBounds_toArray, List.set_cons_zero, List.set_cons_succ]
      go_wp2_with fail
      refine HC.mono ?_
      rintro e V2 ⟨p, rfl, hp, hbp⟩
      have HV2 : Hid (Below w.heap.size w V2 ∧ Blk V2 b 30 [.slice la nl lc, .slice da nd dc] ∧ RBt V2 (.slice la nl lc) (.slice da nd dc) R ∧ Blk V2 (b + 1) 30 [.slice none 0 0, .slice none 0 0]) := ⟨below_tr HV.out.1 hbp, HV.out.2.1.below hbp HV.out.2.1.lt, HV.out.2.2.1.below hbp, HV.out.2.2.2.below hbp HV.out.2.2.2.lt⟩
      obtain ⟨hp1, hp2⟩ := hp.out
      unfold RTold at hp1
      rw [if_pos HT0.out] at hp1
      obtain ⟨m, y, n, tk, hm, hml, rfl, _, _, hsv⟩ := hp1
      obtain ⟨tn, htn⟩ : ∃ n, (talkD R.D x).length = n := ⟨_, rfl⟩
      have HTN : Hid ((talkD R.D x).length = tn ∧ m.h.length = 32) := ⟨htn, hml⟩
      have hte : tk.n = tn := by
        obtain ⟨a', c', e', _⟩ := hsv
        injection e' with e1 e2 e3
        rw [e2, htn]
      have qn : (tn : Int) ≤ 1000 := by
        have h1 := talkD_len R.D x
        have h2 := HV.out.2.2.1.nd
        omega
      clear HC hbp hm hml hsv htn hp hp2 c0V c1V
      go_wp2_with (with_reducible change wpList _ _ _ ({ dst := some 22, op := _, type := _, pos := _, after := _, guard := _ } :: _) _ _; refine Hid.out ?_)
      show wpList _ _ _ _ _ _
      refine wpList_field rfl 43 (.tmp 21) 7 rfl _ (.slice tk.a tk.n tk.c) rfl (run_field43 _ _ _ _ HTN.out.2 _ _ _ _) ?_
      simp only [Act.put, List.setIfInBounds_toArray, List.set_cons_zero, List.set_cons_succ]
      rw [hte]
      by_cases hn2 : (32 : Int) ≤ (tn : Int)
      · have HF : Hid (q = (R, 3)) := by show _ = _; rw [← HQ.out]; unfold rSay; rw [if_neg (by rw [HT0.out]; simp), if_pos (.inr (by rw [HTN.out.1]; omega))]
        go_wp2_with (with_reducible change wpList _ _ _ ({ dst := some 26, op := _, type := _, pos := _, after := _, guard := _ } :: _) _ _; refine Hid.out ?_)
        show wpList _ _ _ _ _ _
        refine wpList_load_row rfl 30 (.tmp 4) rfl b rfl 30 #[.slice la nl lc, .slice da nd dc] (0, 0) _ HV2.out.2.1 Try.underlying30 rfl size30 ?_
        simp only [Act.put, List.setIfInBounds_toArray, List.set_cons_zero, List.set_cons_succ]
        have HRV : Hid (Below w.heap.size w V2 ∧ RBt V2 (.slice la nl lc) (.slice da nd dc) R ∧ Blk V2 (b + 1) 30 [.slice none 0 0, .slice none 0 0] ∧ New w (.slice la nl lc) (.slice la nl lc) ∧ New w (.slice da nd dc) (.slice da nd dc)) := ⟨HV2.out.1, HV2.out.2.2.1, HV2.out.2.2.2, .inl rfl, .inl rfl⟩
        go_wp2_with (with_reducible change wpList _ _ _ ({ dst := none, op := Op.store 30 _ _, type := _, pos := _, after := _, guard := _ } :: _) _ _; refine Hid.out ?_)
        show wpList _ _ _ _ _ _
        refine wpList_store_blk rfl 30 (.tmp 8) (.tmp 26) rfl (b + 1) 0 30 [.slice none 0 0, .slice none 0 0] [.slice la nl lc, .slice da nd dc] rfl rfl HRV.out.2.2.1 (by simp) size30 (two HRV.out.2.1) ?_
        intro Ve hbe hge
        have HE : Hid (Blk Ve (b + 1) 30 [.slice la nl lc, .slice da nd dc] ∧ RBt Ve (.slice la nl lc) (.slice da nd dc) R ∧ Below w.heap.size w Ve ∧ New w (.slice la nl lc) (.slice la nl lc) ∧ New w (.slice da nd dc) (.slice da nd dc)) := by
          have hn := HN.out.2.2
          have hbw : Below w.heap.size w Ve := HRV.out.1.grown hge.out HRV.out.1.size (fun j hj => by cases hj; omega)
          exact ⟨by simpa using hbe.out, rb_other HRV.out.2.1 HRV.out.2.2.1 hge.out, hbw, HRV.out.2.2.2⟩
        clear hbe hge
        go_wp2_with fail
        refine rret30u rfl rfl rfl rfl HE.out.1 ?_
        exact ⟨_, _, by rw [HF.out]; rfl, by rw [HF.out]; exact HE.out.2⟩
      · have hn3 : (tn : Int) < 32 := by omega
        have HF : Hid (q = ({ R with D := R.D ++ [⟨4, x, u, t⟩] }, 0)) := by
          show _ = _
          rw [← HQ.out]; unfold rSay; rw [if_neg (by rw [HT0.out]; simp), if_neg]
          rintro (h | h)
          · rw [HTS.out] at h; have := HT3.out; omega
          · rw [HTN.out.1] at h; omega
        have HK : Hid ((1 : Int) ≤ 4 ∧ (4 : Int) ≤ 5) := by constructor <;> decide
        clear hn2
        have HCW : Calls Try.prog 53 #[.agg #[.slice la nl lc, .slice da nd dc], .agg #[iv 4, iv x, .string u, .string t]] V2 fun e w' => ∃ dv', e = .returned (.agg #[.slice la nl lc, dv']) ∧ RBt w' (.slice la nl lc) dv' { R with D := R.D ++ [⟨4, x, u, t⟩] } ∧ Below V2.heap.size V2 w' ∧ ∀ g, dv'.ownBlock = some g → V2.heap.size ≤ g := rwith_is HV2.out.2.2.1 ⟨4, x, u, t⟩ HK.out (by have := HND.out; omega)
        have c0V2 : V2.cell? ⟨b, 0, none⟩ = some (.slice la nl lc) := HV2.out.2.1.cell rfl
        have c1V2 : V2.cell? ⟨b, 1, none⟩ = some (.slice da nd dc) := HV2.out.2.1.cell rfl
        go_wp2_with (with_reducible change wpList _ _ _ ({ dst := some 27, op := _, type := _, pos := _, after := _, guard := _ } :: _) _ _; refine Hid.out ?_)
        show wpList _ _ _ _ _ _
        refine wpList_load_row rfl 30 (.tmp 4) rfl b rfl 30 #[.slice la nl lc, .slice da nd dc] (0, 0) _ HV2.out.2.1 Try.underlying30 rfl size30 ?_
        simp only [Act.put, List.setIfInBounds_toArray, List.set_cons_zero, List.set_cons_succ]
        go_wp2_with fail
        refine HCW.mono ?_
        rintro e V3 ⟨dv', rfl, hr5, hb5, hn5⟩
        have hr5' := hr5
        obtain ⟨ea, ec, hv5, _⟩ := hr5.d
        subst hv5
        obtain ⟨ne, hne⟩ : ∃ n, ({ R with D := R.D ++ [⟨4, x, u, t⟩] } : Rb).D.length = n := ⟨_, rfl⟩
        rw [hne] at hr5 hr5' hn5 ⊢
        have HRV : Hid (Below w.heap.size w V3 ∧ RBt V3 (.slice la nl lc) (.slice ea ne ec) { R with D := R.D ++ [⟨4, x, u, t⟩] } ∧ Blk V3 (b + 1) 30 [.slice none 0 0, .slice none 0 0] ∧ New w (.slice la nl lc) (.slice la nl lc) ∧ New w (.slice da nd dc) (.slice ea ne ec)) := ⟨below_tr HV2.out.1 hb5, hr5', HV2.out.2.2.2.below hb5 HV2.out.2.2.2.lt, .inl rfl, .inr fun g hg => Nat.le_trans HV2.out.1.size (hn5 g hg)⟩
        clear HCW hr5 hr5' hb5 hn5 hne
        clear c0V2 c1V2
        go_wp2_with (with_reducible change wpList _ _ _ ({ dst := none, op := Op.store 30 _ _, type := _, pos := _, after := _, guard := _ } :: _) _ _; refine Hid.out ?_)
        show wpList _ _ _ _ _ _
        refine wpList_store_blk rfl 30 (.tmp 8) (.tmp 32) rfl (b + 1) 0 30 [.slice none 0 0, .slice none 0 0] [.slice la nl lc, .slice ea ne ec] rfl rfl HRV.out.2.2.1 (by simp) size30 (two HRV.out.2.1) ?_
        intro Ve hbe hge
        have HE : Hid (Blk Ve (b + 1) 30 [.slice la nl lc, .slice ea ne ec] ∧ RBt Ve (.slice la nl lc) (.slice ea ne ec) { R with D := R.D ++ [⟨4, x, u, t⟩] } ∧ Below w.heap.size w Ve ∧ New w (.slice la nl lc) (.slice la nl lc) ∧ New w (.slice da nd dc) (.slice ea ne ec)) := by
          have hn := HN.out.2.2
          have hbw : Below w.heap.size w Ve := HRV.out.1.grown hge.out HRV.out.1.size (fun j hj => by cases hj; omega)
          exact ⟨by simpa using hbe.out, rb_other HRV.out.2.1 HRV.out.2.2.1 hge.out, hbw, HRV.out.2.2.2⟩
        clear hbe hge
        go_wp2_with fail
        refine rret30u rfl rfl rfl rfl HE.out.1 ?_
        exact ⟨_, _, by rw [HF.out]; rfl, by rw [HF.out]; exact HE.out.2⟩
set_option maxRecDepth 100000 in
theorem run_build92 (au ch : BA) (h : Hs) (hl : h.length = 32) (W : World) : (Instr.build 92 #[(0, .string au), (1, .string ch), (2, .agg (U h).toArray)]).run Try.prog W = .ok (.agg (Mk.cells ⟨au, ch, h⟩).toArray) W := by
  obtain ⟨a0, l0, rfl, h0⟩ := uncons hl
  obtain ⟨a1, l1, rfl, h1⟩ := uncons h0
  obtain ⟨a2, l2, rfl, h2⟩ := uncons h1
  obtain ⟨a3, l3, rfl, h3⟩ := uncons h2
  obtain ⟨a4, l4, rfl, h4⟩ := uncons h3
  obtain ⟨a5, l5, rfl, h5⟩ := uncons h4
  obtain ⟨a6, l6, rfl, h6⟩ := uncons h5
  obtain ⟨a7, l7, rfl, h7⟩ := uncons h6
  obtain ⟨a8, l8, rfl, h8⟩ := uncons h7
  obtain ⟨a9, l9, rfl, h9⟩ := uncons h8
  obtain ⟨a10, l10, rfl, h10⟩ := uncons h9
  obtain ⟨a11, l11, rfl, h11⟩ := uncons h10
  obtain ⟨a12, l12, rfl, h12⟩ := uncons h11
  obtain ⟨a13, l13, rfl, h13⟩ := uncons h12
  obtain ⟨a14, l14, rfl, h14⟩ := uncons h13
  obtain ⟨a15, l15, rfl, h15⟩ := uncons h14
  obtain ⟨a16, l16, rfl, h16⟩ := uncons h15
  obtain ⟨a17, l17, rfl, h17⟩ := uncons h16
  obtain ⟨a18, l18, rfl, h18⟩ := uncons h17
  obtain ⟨a19, l19, rfl, h19⟩ := uncons h18
  obtain ⟨a20, l20, rfl, h20⟩ := uncons h19
  obtain ⟨a21, l21, rfl, h21⟩ := uncons h20
  obtain ⟨a22, l22, rfl, h22⟩ := uncons h21
  obtain ⟨a23, l23, rfl, h23⟩ := uncons h22
  obtain ⟨a24, l24, rfl, h24⟩ := uncons h23
  obtain ⟨a25, l25, rfl, h25⟩ := uncons h24
  obtain ⟨a26, l26, rfl, h26⟩ := uncons h25
  obtain ⟨a27, l27, rfl, h27⟩ := uncons h26
  obtain ⟨a28, l28, rfl, h28⟩ := uncons h27
  obtain ⟨a29, l29, rfl, h29⟩ := uncons h28
  obtain ⟨a30, l30, rfl, h30⟩ := uncons h29
  obtain ⟨a31, l31, rfl, h31⟩ := uncons h30
  obtain rfl := List.eq_nil_of_length_eq_zero h31
  kernel_rfl
set_option maxRecDepth 100000 in
theorem run_bs27' (au ch : BA) (h : Hs) (hl : h.length = 32) (W : World) : (Instr.buildSlice 27 1 #[(0, .agg (Mk.cells ⟨au, ch, h⟩).toArray)]).run Try.prog W = .ok (.slice (some ⟨W.heap.size, 0, none⟩) 1 1) (W.alloc (.cells (Mk.cells ⟨au, ch, h⟩).toArray 92)) := by
  obtain ⟨a0, l0, rfl, h0⟩ := uncons hl
  obtain ⟨a1, l1, rfl, h1⟩ := uncons h0
  obtain ⟨a2, l2, rfl, h2⟩ := uncons h1
  obtain ⟨a3, l3, rfl, h3⟩ := uncons h2
  obtain ⟨a4, l4, rfl, h4⟩ := uncons h3
  obtain ⟨a5, l5, rfl, h5⟩ := uncons h4
  obtain ⟨a6, l6, rfl, h6⟩ := uncons h5
  obtain ⟨a7, l7, rfl, h7⟩ := uncons h6
  obtain ⟨a8, l8, rfl, h8⟩ := uncons h7
  obtain ⟨a9, l9, rfl, h9⟩ := uncons h8
  obtain ⟨a10, l10, rfl, h10⟩ := uncons h9
  obtain ⟨a11, l11, rfl, h11⟩ := uncons h10
  obtain ⟨a12, l12, rfl, h12⟩ := uncons h11
  obtain ⟨a13, l13, rfl, h13⟩ := uncons h12
  obtain ⟨a14, l14, rfl, h14⟩ := uncons h13
  obtain ⟨a15, l15, rfl, h15⟩ := uncons h14
  obtain ⟨a16, l16, rfl, h16⟩ := uncons h15
  obtain ⟨a17, l17, rfl, h17⟩ := uncons h16
  obtain ⟨a18, l18, rfl, h18⟩ := uncons h17
  obtain ⟨a19, l19, rfl, h19⟩ := uncons h18
  obtain ⟨a20, l20, rfl, h20⟩ := uncons h19
  obtain ⟨a21, l21, rfl, h21⟩ := uncons h20
  obtain ⟨a22, l22, rfl, h22⟩ := uncons h21
  obtain ⟨a23, l23, rfl, h23⟩ := uncons h22
  obtain ⟨a24, l24, rfl, h24⟩ := uncons h23
  obtain ⟨a25, l25, rfl, h25⟩ := uncons h24
  obtain ⟨a26, l26, rfl, h26⟩ := uncons h25
  obtain ⟨a27, l27, rfl, h27⟩ := uncons h26
  obtain ⟨a28, l28, rfl, h28⟩ := uncons h27
  obtain ⟨a29, l29, rfl, h29⟩ := uncons h28
  obtain ⟨a30, l30, rfl, h30⟩ := uncons h29
  obtain ⟨a31, l31, rfl, h31⟩ := uncons h30
  obtain rfl := List.eq_nil_of_length_eq_zero h31
  kernel_rfl
theorem run_bs27 (f : Mk) (hl : f.h.length = 32) (W : World) : (Instr.buildSlice 27 1 #[(0, .agg f.cells.toArray)]).run Try.prog W = .ok (.slice (some ⟨W.heap.size, 0, none⟩) 1 1) (W.alloc (.cells f.cells.toArray 92)) := run_bs27' f.au f.ch f.h hl W
theorem yl_build3 {o : Oper} {a : Act} (V : World) (t : TypeId) (x0 x1 x2 : Operand) (u0 u1 u2 v : Value) (hop : o.op = .build t #[(0, x0), (1, x1), (2, x2)]) (h0 : a.eval x0 = u0) (h1 : a.eval x1 = u1) (h2 : a.eval x2 = u2)
    (hrun : ∀ W, (Instr.build t #[(0, u0), (1, u1), (2, u2)]).run Try.prog W = .ok v W) : (execOp a.eval o).run Try.prog V = .ok (.value v) V := by
  unfold execOp
  simp [hop, h0, h1, h2, hrun, Result.andThen]
theorem yl_sub1 {o : Oper} {a : Act} (V : World) (x : Operand) (i : Nat) (hop : o.op = .binOp .sub 3 x (.const (.int .i64 1)) 3) (hx : a.eval x = iv ((i : Int) + 1)) (hn : i ≤ 1000000) : (execOp a.eval o).run Try.prog V = .ok (.value (iv (i : Int))) V := by
  have q2 : (i : Int) ≤ 1000000 := by omega
  unfold execOp
  simp only [hop, hx]
  go_simp
  first
  | done
  | (rw [IntKind.wrap_i64]; omega)
set_option maxRecDepth 100000 in
set_option maxHeartbeats 4000000 in
theorem rpo5 {Q : Exit → Act → World → Prop} {x0 x1 x2 x3 x5 x6 x7 x8 x9 x10 x13 x14 x15 x16 x17 x18 x19 x20 x21 x22 x23 x24 x25 x26 x27 x28 x29 x30 x31 x32 x33 x34 x35 x36 x37 x38 x39 x40 x41 x42 x43 x44 x45 x46 x47 x48 x49 x50 x51 x52 x53 x54 x55 x56 x57 x58 x59 x60 : Value} {ds : List Deferred} {A : World} {b ga g1 no oc nl lc i j : Nat} {m : Mk}
    (HL : Hid (b < A.heap.size ∧ ga < A.heap.size)) (k0 : A.cell? ⟨b, 0, none⟩ = some (.slice (some ⟨g1, 0, none⟩) nl lc)) (k1 : A.cell? ⟨ga, i, none⟩ = some (iv ((j : Int) + 1))) (HG : Hid (A.rangeAt g1 (j * 34) m.cells ∧ g1 < A.heap.size ∧ m.h.length = 32)) (HIX : Hid ((i : Int) < (no : Int) ∧ i < no ∧ (j : Int) < (nl : Int) ∧ j < nl ∧ j ≤ 1000000))
    (hQ : ∀ V1 q, Blk V1 q 92 m.cells → A.heap.size ≤ q → Below A.heap.size A V1 → Q .normal { tmps := #[x0, x1, x2, x3, .pointer (some ⟨b, 0, none⟩), x5, x6, x7, x8, x9, x10, .slice (some ⟨ga, 0, none⟩) no oc, iv (i : Int), .pointer (some ⟨q, 0, none⟩), x14, x15, x16, x17, x18, x19, x20, x21, .pointer (some ⟨b, 0, none⟩), .slice (some ⟨g1, 0, none⟩) nl lc, .slice (some ⟨ga, 0, none⟩) no oc, iv (i : Int), .pointer (some ⟨ga, i, none⟩), iv ((j : Int) + 1), iv (j : Int), .pointer (some ⟨g1, j * 34, none⟩), .agg m.cells.toArray, x31, x32, x33, x34, x35, x36, x37, x38, x39, x40, x41, x42, x43, x44, x45, x46, x47, x48, x49, x50, x51, x52, x53, x54, x55, x56, x57, x58, x59, x60], defers := ds } V1) :
    (Code.region 5 #[{ dst := some 22, op := Op.fieldAddr 30 (Operand.tmp 4) 0, type := 0, pos := "ref.go:87", after := #[], guard := none }, { dst := some 23, op := Op.load 27 (Operand.tmp 22), type := 27, pos := "ref.go:87", after := #[{ on := 0, ground := Ground.data }], guard := none }, { dst := some 24, op := Op.move (Operand.tmp 11), type := 38, pos := "ref.go:87", after := #[], guard := none }, { dst := some 25, op := Op.move (Operand.tmp 12), type := 3, pos := "ref.go:87", after := #[], guard := none }, { dst := some 26, op := Op.indexAddr 38 (Operand.tmp 24) (Operand.tmp 25), type := 0, pos := "ref.go:87", after := #[{ on := 2, ground := Ground.data }, { on := 3, ground := Ground.data }], guard := none }, { dst := some 27, op := Op.load 3 (Operand.tmp 26), type := 3, pos := "ref.go:87", after := #[{ on := 4, ground := Ground.data }], guard := none }, { dst := some 28, op := Op.binOp BinOp.sub 3 (Operand.tmp 27) (Operand.const (Value.int IntKind.i64 1)) 3, type := 3, pos := "ref.go:87", after := #[{ on := 5, ground := Ground.data }], guard := none }, { dst := some 29, op := Op.indexAddr 27 (Operand.tmp 23) (Operand.tmp 28), type := 0, pos := "ref.go:87", after := #[{ on := 1, ground := Ground.data }, { on := 6, ground := Ground.data }], guard := none }, { dst := some 30, op := Op.load 92 (Operand.tmp 29), type := 92, pos := "ref.go:87", after := #[{ on := 7, ground := Ground.data }], guard := none }, { dst := some 13, op := Op.alloc 92, type := 0, pos := "ref.go:87", after := #[], guard := none }, { dst := none, op := Op.store 92 (Operand.tmp 13) (Operand.tmp 30), type := 0, pos := "ref.go:87", after := #[{ on := 9, ground := Ground.data }, { on := 8, ground := Ground.data }, { on := 0, ground := Ground.phase }, { on := 1, ground := Ground.phase }, { on := 2, ground := Ground.phase }, { on := 3, ground := Ground.phase }, { on := 4, ground := Ground.phase }, { on := 5, ground := Ground.phase }, { on := 6, ground := Ground.phase }, { on := 7, ground := Ground.phase }, { on := 8, ground := Ground.phase }, { on := 9, ground := Ground.phase }], guard := none }] true).wp Try.prog Q { tmps := #[x0, x1, x2, x3, .pointer (some ⟨b, 0, none⟩), x5, x6, x7, x8, x9, x10, .slice (some ⟨ga, 0, none⟩) no oc, iv (i : Int), x13, x14, x15, x16, x17, x18, x19, x20, x21, x22, x23, x24, x25, x26, x27, x28, x29, x30, x31, x32, x33, x34, x35, x36, x37, x38, x39, x40, x41, x42, x43, x44, x45, x46, x47, x48, x49, x50, x51, x52, x53, x54, x55, x56, x57, x58, x59, x60], defers := ds } A := by
  refine Code.wp_mono (Q := fun x a' w' => match x with | .normal => Q .normal a' w' | _ => False) (by intro x a' w' h; cases x <;> first | exact h | exact h.elim) ?_
  refine wp_region_held (S := fun V => Below A.heap.size A V) (by kernel_rfl) ?_
  have hS0 : Hid (Below A.heap.size A A.drew) := below_drew0 A
  change wpAnyH Try.prog .any _ _ (fun V => Below A.heap.size A V) 11 (Array.replicate 11 false) _ A.drew
  obtain ⟨V0, hV0⟩ : ∃ V0, A.drew = V0 := ⟨_, rfl⟩
  rw [hV0]
  rw [hV0] at hS0
  clear hV0
  refine wpAnyH_take (i := 0) (oi := { dst := some 22, op := Op.fieldAddr 30 (Operand.tmp 4) 0, type := 0, pos := "ref.go:87", after := #[], guard := none }) (v := .pointer (some ⟨b, 0, none⟩)) rfl (by kernel_rfl) (by kernel_rfl) (by kernel_rfl) (fun _ _ _ h => h.elim) (Or.inl ⟨by rfl, ?y1⟩) hS0.out ?_
  case y1 =>
    intro V hV
    go_simp
  simp only [Act.put, List.setIfInBounds_toArray, List.set_cons_zero, List.set_cons_succ]
  refine wpAnyH_take (i := 1) (oi := { dst := some 23, op := Op.load 27 (Operand.tmp 22), type := 27, pos := "ref.go:87", after := #[{ on := 0, ground := Ground.data }], guard := none }) (v := .slice (some ⟨g1, 0, none⟩) nl lc) rfl (by kernel_rfl) (by kernel_rfl) (by kernel_rfl) (fun _ _ _ h => h.elim) (Or.inl ⟨by rfl, ?y2⟩) hS0.out ?_
  case y2 =>
    intro V hV
    have hc : V.cell? ⟨b, 0, none⟩ = some (.slice (some ⟨g1, 0, none⟩) nl lc) := ((show Below A.heap.size A V from hV).cell (p := ⟨b, 0, none⟩) (HL.out.1)).trans k0
    go_simp
  simp only [Act.put, List.setIfInBounds_toArray, List.set_cons_zero, List.set_cons_succ]
  refine wpAnyH_take (i := 2) (oi := { dst := some 24, op := Op.move (Operand.tmp 11), type := 38, pos := "ref.go:87", after := #[], guard := none }) (v := .slice (some ⟨ga, 0, none⟩) no oc) rfl (by kernel_rfl) (by kernel_rfl) (by kernel_rfl) (fun _ _ _ h => h.elim) (Or.inl ⟨by rfl, ?y3⟩) hS0.out ?_
  case y3 =>
    intro V hV
    go_simp
  simp only [Act.put, List.setIfInBounds_toArray, List.set_cons_zero, List.set_cons_succ]
  refine wpAnyH_take (i := 3) (oi := { dst := some 25, op := Op.move (Operand.tmp 12), type := 3, pos := "ref.go:87", after := #[], guard := none }) (v := iv (i : Int)) rfl (by kernel_rfl) (by kernel_rfl) (by kernel_rfl) (fun _ _ _ h => h.elim) (Or.inl ⟨by rfl, ?y4⟩) hS0.out ?_
  case y4 =>
    intro V hV
    go_simp
  simp only [Act.put, List.setIfInBounds_toArray, List.set_cons_zero, List.set_cons_succ]
  refine wpAnyH_take (i := 4) (oi := { dst := some 26, op := Op.indexAddr 38 (Operand.tmp 24) (Operand.tmp 25), type := 0, pos := "ref.go:87", after := #[{ on := 2, ground := Ground.data }, { on := 3, ground := Ground.data }], guard := none }) (v := .pointer (some ⟨ga, i, none⟩)) rfl (by kernel_rfl) (by kernel_rfl) (by kernel_rfl) (fun _ _ _ h => h.elim) (Or.inl ⟨by rfl, ?y5⟩) hS0.out ?_
  case y5 =>
    intro V hV
    have h1 := HIX.out.1
    have h2 := HIX.out.2.1
    go_simp
  simp only [Act.put, List.setIfInBounds_toArray, List.set_cons_zero, List.set_cons_succ]
  refine wpAnyH_take (i := 5) (oi := { dst := some 27, op := Op.load 3 (Operand.tmp 26), type := 3, pos := "ref.go:87", after := #[{ on := 4, ground := Ground.data }], guard := none }) (v := iv ((j : Int) + 1)) rfl (by kernel_rfl) (by kernel_rfl) (by kernel_rfl) (fun _ _ _ h => h.elim) (Or.inl ⟨by rfl, ?y6⟩) hS0.out ?_
  case y6 =>
    intro V hV
    have hc : V.cell? ⟨ga, i, none⟩ = some (iv ((j : Int) + 1)) := ((show Below A.heap.size A V from hV).cell (p := ⟨ga, i, none⟩) (HL.out.2)).trans k1
    go_simp
  simp only [Act.put, List.setIfInBounds_toArray, List.set_cons_zero, List.set_cons_succ]
  refine wpAnyH_take (i := 6) (oi := { dst := some 28, op := Op.binOp BinOp.sub 3 (Operand.tmp 27) (Operand.const (Value.int IntKind.i64 1)) 3, type := 3, pos := "ref.go:87", after := #[{ on := 5, ground := Ground.data }], guard := none }) (v := iv (j : Int)) rfl (by kernel_rfl) (by kernel_rfl) (by kernel_rfl) (fun _ _ _ h => h.elim) (Or.inl ⟨by rfl, ?y7⟩) hS0.out ?_
  case y7 =>
    intro V hV
    exact yl_sub1 V (.tmp 27) j rfl rfl HIX.out.2.2.2.2
  simp only [Act.put, List.setIfInBounds_toArray, List.set_cons_zero, List.set_cons_succ]
  refine wpAnyH_take (i := 7) (oi := { dst := some 29, op := Op.indexAddr 27 (Operand.tmp 23) (Operand.tmp 28), type := 0, pos := "ref.go:87", after := #[{ on := 1, ground := Ground.data }, { on := 6, ground := Ground.data }], guard := none }) (v := .pointer (some ⟨g1, j * 34, none⟩)) rfl (by kernel_rfl) (by kernel_rfl) (by kernel_rfl) (fun _ _ _ h => h.elim) (Or.inl ⟨by rfl, ?y8⟩) hS0.out ?_
  case y8 =>
    intro V hV
    have h1 := HIX.out.2.2.1
    have h2 := HIX.out.2.2.2.1
    go_simp
  simp only [Act.put, List.setIfInBounds_toArray, List.set_cons_zero, List.set_cons_succ]
  refine wpAnyH_take (i := 8) (oi := { dst := some 30, op := Op.load 92 (Operand.tmp 29), type := 92, pos := "ref.go:87", after := #[{ on := 7, ground := Ground.data }], guard := none }) (v := .agg m.cells.toArray) rfl (by kernel_rfl) (by kernel_rfl) (by kernel_rfl) (fun _ _ _ h => h.elim) (yieldsIf_load_mid (by rfl) _ _ rfl _ _ rfl (m.cells) _ (fun V hV => rangeAt_same (HG.out.1) ((show Below A.heap.size A V from hV).block _ (HG.out.2.1))) Try.underlying92 rfl (by rw [Mk.len HG.out.2.2]; exact size92)) hS0.out ?_
  simp only [Act.put, List.setIfInBounds_toArray, List.set_cons_zero, List.set_cons_succ]
  refine wpAnyH_ready (rs := [9]) (by kernel_rfl) (by simp) (AllReadyH.cons (i := 9) (o := { dst := some 13, op := Op.alloc 92, type := 0, pos := "ref.go:87", after := #[], guard := none }) rfl ?_ AllReadyH.nil)
  · intro K1 hK1
    refine step_al (by rfl) 92 rfl Mk.zero.cells zero92 ?_
    obtain ⟨V1, hv1⟩ : ∃ V, V0.alloc (.cells Mk.zero.cells.toArray 92) = V := ⟨_, rfl⟩
    obtain ⟨q, hq1⟩ : ∃ m, V0.heap.size = m := ⟨_, rfl⟩
    have hS1 : Hid (Below A.heap.size A V1) := by rw [← hv1]; exact below_tr hS0.out (below_al _ _)
    have hX1 : Hid (Blk V1 q 92 Mk.zero.cells ∧ A.heap.size ≤ q) := by rw [← hv1, ← hq1]; exact ⟨by simpa using Blk.new V0 Mk.zero.cells.toArray 92, hS0.out.size⟩
    rw [hv1, hq1]
    clear hv1 hq1
    refine hK1.out _ _ hS1.out ?_
    clear hK1
    intro _
    try simp only [Act.put, List.setIfInBounds_toArray, List.set_cons_zero, List.set_cons_succ]
    refine wpAnyH_ready (rs := [10]) (by kernel_rfl) (by simp) (AllReadyH.cons (i := 10) (o := { dst := none, op := Op.store 92 (Operand.tmp 13) (Operand.tmp 30), type := 0, pos := "ref.go:87", after := #[{ on := 9, ground := Ground.data }, { on := 8, ground := Ground.data }, { on := 0, ground := Ground.phase }, { on := 1, ground := Ground.phase }, { on := 2, ground := Ground.phase }, { on := 3, ground := Ground.phase }, { on := 4, ground := Ground.phase }, { on := 5, ground := Ground.phase }, { on := 6, ground := Ground.phase }, { on := 7, ground := Ground.phase }, { on := 8, ground := Ground.phase }, { on := 9, ground := Ground.phase }], guard := none }) rfl ?_ AllReadyH.nil)
    · intro K1 hK1
      refine step_stB (by rfl) 92 (.tmp 13) (.tmp 30) rfl q m.cells 92 _ rfl rfl hX1.out.1 (by rw [Mk.len HG.out.2.2, Mk.len (by simp [Mk.zero])]) (by rw [Mk.len HG.out.2.2]; exact size92) (Mk.one _) ?_
      intro V2 hr2 hg2
      have hS2 : Hid (Below A.heap.size A V2) := hS1.out.grown hg2.out hS1.out.size (fun j hj => by cases hj; exact hX1.out.2)
      have hX2 : Hid (Blk V2 q 92 m.cells ∧ A.heap.size ≤ q) := ⟨hr2.out, hX1.out.2⟩
      clear hr2 hg2
      refine hK1.out _ _ hS2.out ?_
      clear hK1
      intro _
      try simp only [Act.put, List.setIfInBounds_toArray, List.set_cons_zero, List.set_cons_succ]
      refine wpAnyH_done (by kernel_rfl) ?_ _
      exact hQ V2 q hX2.out.1 hX2.out.2 hS2.out
set_option maxRecDepth 100000 in
set_option maxHeartbeats 4000000 in
theorem rpo10 {Q : Exit → Act → World → Prop} {x0 x3 x5 x6 x8 x9 x10 x11 x12 x13 x14 x15 x16 x17 x18 x19 x20 x21 x22 x23 x24 x25 x26 x27 x28 x29 x30 x31 x32 x33 x34 x35 x36 x37 x38 x39 x40 x41 x42 x43 x44 x45 x46 x47 x48 x49 x50 x51 x52 x53 x54 x55 x56 x57 x58 x59 x60 : Value} {ds : List Deferred} {A : World} {b2 b3 n c : Nat} {fa : Option Addr} {cs : List Value} {f : Mk} {dv : Value} {i0 : TypeInfo} {z : Value}
    (HL : Hid (b2 < A.heap.size)) (HFL : Hid (f.h.length = 32)) (HX : Hid (Blk A b2 30 [.slice fa n c, dv])) (HR : Hid (∀ V, Keep (fun j => j = b2) A V → Rx V fa n 34 cs)) (HN : Hid (n ≤ 100000)) (HI0 : Hid (Try.prog.info? 92 = some i0 ∧ i0.zero = some z ∧ i0.size = 34 ∧ i0.bytes ≤ 1000 ∧ z.cells.size = 34)) (HF3 : Hid (A.rangeAt b3 0 (U f.h) ∧ b3 < A.heap.size ∧ ¬ (b3 = b2)))
    (hQ : ∀ V1 v1 v2 q nb, V1.ownsRow A.heap.size 92 34 v2 (0 + n + 1) ([] ++ cs ++ f.cells) → Blk V1 b2 30 [v2, dv] → Keep (fun j => j = b2) A V1 → Q .normal { tmps := #[x0, .string f.au, .string f.ch, x3, .pointer (some ⟨b2, 0, none⟩), x5, x6, .pointer (some ⟨b3, 0, none⟩), x8, x9, x10, x11, x12, x13, x14, x15, x16, x17, x18, x19, x20, x21, x22, x23, x24, x25, x26, x27, x28, x29, x30, x31, x32, x33, x34, x35, x36, x37, x38, x39, x40, x41, x42, x43, x44, x45, .slice (some ⟨q, 0, none⟩) 0 0, .pointer (some ⟨b2, 0, none⟩), .slice fa n c, v1, .string f.au, .string f.ch, .agg (U f.h).toArray, .agg f.cells.toArray, .slice (some ⟨nb, 0, none⟩) 1 1, v2, .pointer (some ⟨b2, 0, none⟩), x57, x58, x59, x60], defers := ds } V1) :
    (Code.region 10 #[{ dst := some 46, op := Op.buildSlice 27 0 #[], type := 27, pos := "ref.go:95", after := #[], guard := none }, { dst := some 47, op := Op.fieldAddr 30 (Operand.tmp 4) 0, type := 0, pos := "ref.go:95", after := #[], guard := none }, { dst := some 48, op := Op.load 27 (Operand.tmp 47), type := 27, pos := "ref.go:95", after := #[{ on := 1, ground := Ground.data }], guard := none }, { dst := some 49, op := Op.call { callee := Callee.builtin Builtin.append, args := #[Operand.tmp 46, Operand.tmp 48], argTypes := #[27, 27] }, type := 27, pos := "ref.go:95", after := #[{ on := 0, ground := Ground.data }, { on := 2, ground := Ground.data }], guard := none }, { dst := some 50, op := Op.move (Operand.tmp 1), type := 9, pos := "ref.go:95", after := #[], guard := none }, { dst := some 51, op := Op.move (Operand.tmp 2), type := 9, pos := "ref.go:95", after := #[], guard := none }, { dst := some 52, op := Op.load 32 (Operand.tmp 7), type := 32, pos := "ref.go:95", after := #[], guard := none }, { dst := some 53, op := Op.build 92 #[(0, Operand.tmp 50), (1, Operand.tmp 51), (2, Operand.tmp 52)], type := 92, pos := "ref.go:95", after := #[{ on := 4, ground := Ground.data }, { on := 5, ground := Ground.data }, { on := 6, ground := Ground.data }], guard := none }, { dst := some 54, op := Op.buildSlice 27 1 #[(0, Operand.tmp 53)], type := 27, pos := "ref.go:95", after := #[{ on := 7, ground := Ground.data }], guard := none }, { dst := some 55, op := Op.call { callee := Callee.builtin Builtin.append, args := #[Operand.tmp 49, Operand.tmp 54], argTypes := #[27, 27] }, type := 27, pos := "ref.go:95", after := #[{ on := 3, ground := Ground.data }, { on := 8, ground := Ground.data }, { on := 3, ground := Ground.chain }], guard := none }, { dst := some 56, op := Op.fieldAddr 30 (Operand.tmp 4) 0, type := 0, pos := "ref.go:95", after := #[{ on := 0, ground := Ground.phase }, { on := 1, ground := Ground.phase }, { on := 2, ground := Ground.phase }, { on := 3, ground := Ground.phase }, { on := 4, ground := Ground.phase }, { on := 5, ground := Ground.phase }, { on := 6, ground := Ground.phase }, { on := 7, ground := Ground.phase }, { on := 8, ground := Ground.phase }, { on := 9, ground := Ground.phase }], guard := none }, { dst := none, op := Op.store 27 (Operand.tmp 56) (Operand.tmp 55), type := 0, pos := "ref.go:95", after := #[{ on := 10, ground := Ground.data }, { on := 9, ground := Ground.data }, { on := 9, ground := Ground.chain }, { on := 0, ground := Ground.phase }, { on := 1, ground := Ground.phase }, { on := 2, ground := Ground.phase }, { on := 3, ground := Ground.phase }, { on := 4, ground := Ground.phase }, { on := 5, ground := Ground.phase }, { on := 6, ground := Ground.phase }, { on := 7, ground := Ground.phase }, { on := 8, ground := Ground.phase }, { on := 9, ground := Ground.phase }], guard := none }] true).wp Try.prog Q { tmps := #[x0, .string f.au, .string f.ch, x3, .pointer (some ⟨b2, 0, none⟩), x5, x6, .pointer (some ⟨b3, 0, none⟩), x8, x9, x10, x11, x12, x13, x14, x15, x16, x17, x18, x19, x20, x21, x22, x23, x24, x25, x26, x27, x28, x29, x30, x31, x32, x33, x34, x35, x36, x37, x38, x39, x40, x41, x42, x43, x44, x45, x46, x47, x48, x49, x50, x51, x52, x53, x54, x55, x56, x57, x58, x59, x60], defers := ds } A := by
  refine Code.wp_mono (Q := fun x a' w' => match x with | .normal => Q .normal a' w' | _ => False) (by intro x a' w' h; cases x <;> first | exact h | exact h.elim) ?_
  refine wp_region_held (S := fun V => Keep (fun j => j = b2) A V) (by kernel_rfl) ?_
  have hS0 : Hid (Keep (fun j => j = b2) A A.drew) := (Keep.refl _ A).drew
  change wpAnyH Try.prog .any _ _ (fun V => Keep (fun j => j = b2) A V) 12 (Array.replicate 12 false) _ A.drew
  obtain ⟨V0, hV0⟩ : ∃ V0, A.drew = V0 := ⟨_, rfl⟩
  rw [hV0]
  rw [hV0] at hS0
  have hX0 : Hid (Blk V0 b2 30 [.slice fa n c, dv]) := by rw [← hV0]; exact HX.out
  clear hV0
  refine wpAnyH_take (i := 1) (oi := { dst := some 47, op := Op.fieldAddr 30 (Operand.tmp 4) 0, type := 0, pos := "ref.go:95", after := #[], guard := none }) (v := .pointer (some ⟨b2, 0, none⟩)) rfl (by kernel_rfl) (by kernel_rfl) (by kernel_rfl) (fun _ _ _ h => h.elim) (Or.inl ⟨by rfl, ?y1⟩) hS0.out ?_
  case y1 =>
    intro V hV
    go_simp
  simp only [Act.put, List.setIfInBounds_toArray, List.set_cons_zero, List.set_cons_succ]
  refine wpAnyH_take (i := 4) (oi := { dst := some 50, op := Op.move (Operand.tmp 1), type := 9, pos := "ref.go:95", after := #[], guard := none }) (v := .string f.au) rfl (by kernel_rfl) (by kernel_rfl) (by kernel_rfl) (fun _ _ _ h => h.elim) (Or.inl ⟨by rfl, ?y2⟩) hS0.out ?_
  case y2 =>
    intro V hV
    go_simp
  simp only [Act.put, List.setIfInBounds_toArray, List.set_cons_zero, List.set_cons_succ]
  refine wpAnyH_take (i := 5) (oi := { dst := some 51, op := Op.move (Operand.tmp 2), type := 9, pos := "ref.go:95", after := #[], guard := none }) (v := .string f.ch) rfl (by kernel_rfl) (by kernel_rfl) (by kernel_rfl) (fun _ _ _ h => h.elim) (Or.inl ⟨by rfl, ?y3⟩) hS0.out ?_
  case y3 =>
    intro V hV
    go_simp
  simp only [Act.put, List.setIfInBounds_toArray, List.set_cons_zero, List.set_cons_succ]
  refine wpAnyH_take (i := 6) (oi := { dst := some 52, op := Op.load 32 (Operand.tmp 7), type := 32, pos := "ref.go:95", after := #[], guard := none }) (v := .agg (U f.h).toArray) rfl (by kernel_rfl) (by kernel_rfl) (by kernel_rfl) (fun _ _ _ h => h.elim) (yieldsIf_load_mid (by rfl) _ _ rfl _ _ rfl (U f.h) _ (fun V hV => rangeAt_same (HF3.out.1) ((show Keep (fun j => j = b2) A V from hV).block _ (HF3.out.2.1) (HF3.out.2.2))) Try.underlying32 rfl (info32 _ HFL.out)) hS0.out ?_
  simp only [Act.put, List.setIfInBounds_toArray, List.set_cons_zero, List.set_cons_succ]
  refine wpAnyH_take (i := 7) (oi := { dst := some 53, op := Op.build 92 #[(0, Operand.tmp 50), (1, Operand.tmp 51), (2, Operand.tmp 52)], type := 92, pos := "ref.go:95", after := #[{ on := 4, ground := Ground.data }, { on := 5, ground := Ground.data }, { on := 6, ground := Ground.data }], guard := none }) (v := .agg f.cells.toArray) rfl (by kernel_rfl) (by kernel_rfl) (by kernel_rfl) (fun _ _ _ h => h.elim) (Or.inl ⟨by rfl, ?y4⟩) hS0.out ?_
  case y4 =>
    intro V hV
    exact yl_build3 V 92 (.tmp 50) (.tmp 51) (.tmp 52) _ _ _ _ rfl rfl rfl rfl (run_build92 f.au f.ch f.h HFL.out)
  simp only [Act.put, List.setIfInBounds_toArray, List.set_cons_zero, List.set_cons_succ]
  refine wpAnyH_ready (rs := [0, 2, 8]) (by kernel_rfl) (by simp) (AllReadyH.cons (i := 0) (o := { dst := some 46, op := Op.buildSlice 27 0 #[], type := 27, pos := "ref.go:95", after := #[], guard := none }) rfl ?_ (AllReadyH.cons (i := 2) (o := { dst := some 48, op := Op.load 27 (Operand.tmp 47), type := 27, pos := "ref.go:95", after := #[{ on := 1, ground := Ground.data }], guard := none }) rfl ?_ (AllReadyH.cons (i := 8) (o := { dst := some 54, op := Op.buildSlice 27 1 #[(0, Operand.tmp 53)], type := 27, pos := "ref.go:95", after := #[{ on := 7, ground := Ground.data }], guard := none }) rfl ?_ AllReadyH.nil)))
  · intro K1 hK1
    refine step_bs0R (by rfl) 27 rfl (run_bs27_0 _) ?_
    have hr1 : V0.heap.size ≥ A.heap.size := hS0.out.size
    obtain ⟨V1, hv1⟩ : ∃ V, V0.alloc (.cells #[] 92) = V := ⟨_, rfl⟩
    have hl1 : Below V0.heap.size V0 V1 := by rw [← hv1]; exact below_al _ _
    have hw1 : Below A.heap.size V0 V1 := hl1.mono hr1
    have hO1 : Hid (V1.ownsRow A.heap.size 92 34 (.slice (some ⟨V0.heap.size, 0, none⟩) 0 0) 0 []) := by rw [← hv1]; exact own_base (empty_row V0 92 34) hr1
    have hS1 : Hid (Keep (fun j => j = b2) A V1) := keepB hS0.out hw1
    have hX1 : Hid (Blk V1 b2 30 [.slice fa n c, dv]) := ((hw1).block b2 HL.out).trans hX0.out
    obtain ⟨q1, hq1⟩ : ∃ m, V0.heap.size = m := ⟨_, rfl⟩
    rw [hq1] at hO1
    rw [hv1, hq1]
    clear hv1 hq1 hw1 hr1 hl1
    refine hK1.out _ _ hS1.out ?_
    clear hK1
    intro _
    try simp only [Act.put, List.setIfInBounds_toArray, List.set_cons_zero, List.set_cons_succ]
    refine wpAnyH_ready (rs := [2, 8]) (by kernel_rfl) (by simp) (AllReadyH.cons (i := 2) (o := { dst := some 48, op := Op.load 27 (Operand.tmp 47), type := 27, pos := "ref.go:95", after := #[{ on := 1, ground := Ground.data }], guard := none }) rfl ?_ (AllReadyH.cons (i := 8) (o := { dst := some 54, op := Op.buildSlice 27 1 #[(0, Operand.tmp 53)], type := 27, pos := "ref.go:95", after := #[{ on := 7, ground := Ground.data }], guard := none }) rfl ?_ AllReadyH.nil))
    · intro K1 hK1
      rw [if_pos (by rfl)]
      have hc : V1.cell? ⟨b2, 0, none⟩ = some (.slice fa n c) := hX1.out.cell rfl
      go_wp2
      clear hc
      refine hK1.out _ _ hS1.out ?_
      clear hK1
      intro _
      try simp only [Act.put, List.setIfInBounds_toArray, List.set_cons_zero, List.set_cons_succ]
      refine wpAnyH_ready (rs := [3, 8]) (by kernel_rfl) (by simp) (AllReadyH.cons (i := 3) (o := { dst := some 49, op := Op.call { callee := Callee.builtin Builtin.append, args := #[Operand.tmp 46, Operand.tmp 48], argTypes := #[27, 27] }, type := 27, pos := "ref.go:95", after := #[{ on := 0, ground := Ground.data }, { on := 2, ground := Ground.data }], guard := none }) rfl ?_ (AllReadyH.cons (i := 8) (o := { dst := some 54, op := Op.buildSlice 27 1 #[(0, Operand.tmp 53)], type := 27, pos := "ref.go:95", after := #[{ on := 7, ground := Ground.data }], guard := none }) rfl ?_ AllReadyH.nil))
      · intro K1 hK1
        have hd3 := HR.out V1 hS1.out
        refine step_append_g (by rfl) (.tmp 46) (.tmp 48) 27 rfl _ 92 i0 z 34 A.heap.size Try.underlying27 HI0.out.1 HI0.out.2.1 HI0.out.2.2.1 HI0.out.2.2.2.1 HI0.out.2.2.2.2 (by omega) _ 0 [] hO1.out fa (n) c cs rfl rfl hd3 hS1.out.size (by have := HN.out; omega) ?_
        intro v3 V3 ho3 hg3 hp3
        have hw3 : Below A.heap.size V1 V3 := grown_below hO1.out hg3.out hS1.out.size
        have hS3 : Hid (Keep (fun j => j = b2) A V3) := keepB hS1.out hw3
        have hX3 : Hid (Blk V3 b2 30 [.slice fa n c, dv]) := ((hw3).block b2 HL.out).trans hX1.out
        clear hd3 hw3 hg3 hp3
        refine hK1.out _ _ hS3.out ?_
        clear hK1
        intro _
        try simp only [Act.put, List.setIfInBounds_toArray, List.set_cons_zero, List.set_cons_succ]
        refine wpAnyH_ready (rs := [8]) (by kernel_rfl) (by simp) (AllReadyH.cons (i := 8) (o := { dst := some 54, op := Op.buildSlice 27 1 #[(0, Operand.tmp 53)], type := 27, pos := "ref.go:95", after := #[{ on := 7, ground := Ground.data }], guard := none }) rfl ?_ AllReadyH.nil)
        · intro K1 hK1
          refine step_bs (by rfl) 27 (.tmp 53) _ rfl rfl (run_bs27 f HFL.out _) ?_
          have hr4 : V3.heap.size ≥ A.heap.size := hS3.out.size
          obtain ⟨V4, hv4⟩ : ∃ V, V3.alloc (.cells f.cells.toArray 92) = V := ⟨_, rfl⟩
          have hl4 : Below V3.heap.size V3 V4 := by rw [← hv4]; exact below_al _ _
          have hw4 : Below A.heap.size V3 V4 := hl4.mono hr4
          have hS4 : Hid (Keep (fun j => j = b2) A V4) := keepB hS3.out hw4
          have hX4 : Hid (Blk V4 b2 30 [.slice fa n c, dv]) := ((hw4).block b2 HL.out).trans hX3.out
          obtain ⟨nb, hnb⟩ : ∃ m, V3.heap.size = m := ⟨_, rfl⟩
          have hM4 : Hid (Blk V4 nb 92 f.cells) := by show Blk _ _ _ _; rw [← hv4, ← hnb]; simpa using Blk.new V3 f.cells.toArray 92
          have hO4 : Hid (V4.ownsRow A.heap.size 92 34 v3 (0 + n) ([] ++ cs)) := ownsRow_below ho3.out hl4
          have hN4 : Hid (Blk V4 nb 92 f.cells ∧ v3.ownBlock ≠ some nb) := ⟨hM4.out, fun e => by have h1 := (ho3.out.lt _ e).2; omega⟩
          rw [hv4, hnb]
          clear hv4 hnb hw4 hr4 hl4
          refine hK1.out _ _ hS4.out ?_
          clear hK1
          intro _
          try simp only [Act.put, List.setIfInBounds_toArray, List.set_cons_zero, List.set_cons_succ]
          refine wpAnyH_ready (rs := [9]) (by kernel_rfl) (by simp) (AllReadyH.cons (i := 9) (o := { dst := some 55, op := Op.call { callee := Callee.builtin Builtin.append, args := #[Operand.tmp 49, Operand.tmp 54], argTypes := #[27, 27] }, type := 27, pos := "ref.go:95", after := #[{ on := 3, ground := Ground.data }, { on := 8, ground := Ground.data }, { on := 3, ground := Ground.chain }], guard := none }) rfl ?_ AllReadyH.nil)
          · intro K1 hK1
            have hd5 := rx_oneM hN4.out.1 HFL.out
            refine step_append_g (by rfl) (.tmp 49) (.tmp 54) 27 rfl _ 92 i0 z 34 A.heap.size Try.underlying27 HI0.out.1 HI0.out.2.1 HI0.out.2.2.1 HI0.out.2.2.2.1 HI0.out.2.2.2.2 (by omega) _ (0 + n) ([] ++ cs) hO4.out (some ⟨nb, 0, none⟩) (1) 1 f.cells rfl rfl hd5 hS4.out.size (by have := HN.out; omega) ?_
            intro v5 V5 ho5 hg5 hp5
            have hw5 : Below A.heap.size V4 V5 := grown_below hO4.out hg5.out hS4.out.size
            have hS5 : Hid (Keep (fun j => j = b2) A V5) := keepB hS4.out hw5
            have hX5 : Hid (Blk V5 b2 30 [.slice fa n c, dv]) := ((hw5).block b2 HL.out).trans hX4.out
            clear hd5 hw5 hg5 hp5
            refine hK1.out _ _ hS5.out ?_
            clear hK1
            intro _
            try simp only [Act.put, List.setIfInBounds_toArray, List.set_cons_zero, List.set_cons_succ]
            refine wpAnyH_take (i := 10) (oi := { dst := some 56, op := Op.fieldAddr 30 (Operand.tmp 4) 0, type := 0, pos := "ref.go:95", after := #[{ on := 0, ground := Ground.phase }, { on := 1, ground := Ground.phase }, { on := 2, ground := Ground.phase }, { on := 3, ground := Ground.phase }, { on := 4, ground := Ground.phase }, { on := 5, ground := Ground.phase }, { on := 6, ground := Ground.phase }, { on := 7, ground := Ground.phase }, { on := 8, ground := Ground.phase }, { on := 9, ground := Ground.phase }], guard := none }) (v := .pointer (some ⟨b2, 0, none⟩)) rfl (by kernel_rfl) (by kernel_rfl) (by kernel_rfl) (fun _ _ _ h => h.elim) (Or.inl ⟨by rfl, ?y5⟩) hS5.out ?_
            case y5 =>
              intro V hV
              go_simp
            simp only [Act.put, List.setIfInBounds_toArray, List.set_cons_zero, List.set_cons_succ]
            refine wpAnyH_ready (rs := [11]) (by kernel_rfl) (by simp) (AllReadyH.cons (i := 11) (o := { dst := none, op := Op.store 27 (Operand.tmp 56) (Operand.tmp 55), type := 0, pos := "ref.go:95", after := #[{ on := 10, ground := Ground.data }, { on := 9, ground := Ground.data }, { on := 9, ground := Ground.chain }, { on := 0, ground := Ground.phase }, { on := 1, ground := Ground.phase }, { on := 2, ground := Ground.phase }, { on := 3, ground := Ground.phase }, { on := 4, ground := Ground.phase }, { on := 5, ground := Ground.phase }, { on := 6, ground := Ground.phase }, { on := 7, ground := Ground.phase }, { on := 8, ground := Ground.phase }, { on := 9, ground := Ground.phase }], guard := none }) rfl ?_ AllReadyH.nil)
            · intro K1 hK1
              refine step_st (by rfl) 27 (.tmp 56) (.tmp 55) rfl b2 0 v5 30 _ rfl rfl hX5.out (by simp) (by kernel_rfl) (own_slice ho5.out).1 (own_slice ho5.out).2 ?_
              obtain ⟨V6, hv6⟩ : ∃ V, V5.setCell ⟨b2, 0, none⟩ v5 = V := ⟨_, rfl⟩
              have hg6 : V5.grownBy V6 (some b2) := by rw [← hv6]; exact grown_setCell _ _ _ _
              have hS6 : Hid (Keep (fun j => j = b2) A V6) := hS5.out.trans (Keep.grown (S := fun j => j = b2) hg6 rfl) (fun _ hj _ => hj)
              have hX6 : Hid (Blk V6 b2 30 [v5, dv]) := by rw [← hv6]; exact hX5.out.set 0 v5
              have hO6 : Hid (V6.ownsRow A.heap.size 92 34 v5 (0 + n + 1) ([] ++ cs ++ f.cells)) := own_sameR ho5.out (fun g h1 h2 => hg6.block g h2 (fun e => by cases e; have := HL.out; omega))
              rw [hv6]
              clear hv6 hg6
              refine hK1.out _ _ hS6.out ?_
              clear hK1
              intro _
              try simp only [Act.put, List.setIfInBounds_toArray, List.set_cons_zero, List.set_cons_succ]
              refine wpAnyH_done (by kernel_rfl) ?_ _
              exact hQ V6 _ _ _ _ hO6.out hX6.out hS6.out
      · intro K1 hK1
        refine step_bs (by rfl) 27 (.tmp 53) _ rfl rfl (run_bs27 f HFL.out _) ?_
        have hr3 : V1.heap.size ≥ A.heap.size := hS1.out.size
        obtain ⟨V3, hv3⟩ : ∃ V, V1.alloc (.cells f.cells.toArray 92) = V := ⟨_, rfl⟩
        have hl3 : Below V1.heap.size V1 V3 := by rw [← hv3]; exact below_al _ _
        have hw3 : Below A.heap.size V1 V3 := hl3.mono hr3
        have hS3 : Hid (Keep (fun j => j = b2) A V3) := keepB hS1.out hw3
        have hX3 : Hid (Blk V3 b2 30 [.slice fa n c, dv]) := ((hw3).block b2 HL.out).trans hX1.out
        obtain ⟨nb, hnb⟩ : ∃ m, V1.heap.size = m := ⟨_, rfl⟩
        have hM3 : Hid (Blk V3 nb 92 f.cells) := by show Blk _ _ _ _; rw [← hv3, ← hnb]; simpa using Blk.new V1 f.cells.toArray 92
        have hO3 : Hid (V3.ownsRow A.heap.size 92 34 (.slice (some ⟨q1, 0, none⟩) 0 0) 0 []) := ownsRow_below hO1.out hl3
        have hN3 : Hid (Blk V3 nb 92 f.cells ∧ (Value.slice (some ⟨q1, 0, none⟩) 0 0).ownBlock ≠ some nb) := ⟨hM3.out, fun e => by have h1 := (hO1.out.lt _ e).2; omega⟩
        rw [hv3, hnb]
        clear hv3 hnb hw3 hr3 hl3
        refine hK1.out _ _ hS3.out ?_
        clear hK1
        intro _
        try simp only [Act.put, List.setIfInBounds_toArray, List.set_cons_zero, List.set_cons_succ]
        refine wpAnyH_ready (rs := [3]) (by kernel_rfl) (by simp) (AllReadyH.cons (i := 3) (o := { dst := some 49, op := Op.call { callee := Callee.builtin Builtin.append, args := #[Operand.tmp 46, Operand.tmp 48], argTypes := #[27, 27] }, type := 27, pos := "ref.go:95", after := #[{ on := 0, ground := Ground.data }, { on := 2, ground := Ground.data }], guard := none }) rfl ?_ AllReadyH.nil)
        · intro K1 hK1
          have hd4 := HR.out V3 hS3.out
          refine step_append_g (by rfl) (.tmp 46) (.tmp 48) 27 rfl _ 92 i0 z 34 A.heap.size Try.underlying27 HI0.out.1 HI0.out.2.1 HI0.out.2.2.1 HI0.out.2.2.2.1 HI0.out.2.2.2.2 (by omega) _ 0 [] hO3.out fa (n) c cs rfl rfl hd4 hS3.out.size (by have := HN.out; omega) ?_
          intro v4 V4 ho4 hg4 hp4
          have hw4 : Below A.heap.size V3 V4 := grown_below hO3.out hg4.out hS3.out.size
          have hS4 : Hid (Keep (fun j => j = b2) A V4) := keepB hS3.out hw4
          have hX4 : Hid (Blk V4 b2 30 [.slice fa n c, dv]) := ((hw4).block b2 HL.out).trans hX3.out
          have hN4 : Hid (Blk V4 nb 92 f.cells ∧ v4.ownBlock ≠ some nb) := ⟨hN3.out.1.kept hg4.out (fun e => hN3.out.2 e.symm), fun e => by
            rcases hp4.out with e2 | e2
            · exact hN3.out.2 (by rw [← e2]; exact e)
            · have h1 := hN3.out.1.lt
              rw [e2] at e
              cases e
              omega⟩
          clear hd4 hw4 hg4 hp4
          refine hK1.out _ _ hS4.out ?_
          clear hK1
          intro _
          try simp only [Act.put, List.setIfInBounds_toArray, List.set_cons_zero, List.set_cons_succ]
          refine wpAnyH_ready (rs := [9]) (by kernel_rfl) (by simp) (AllReadyH.cons (i := 9) (o := { dst := some 55, op := Op.call { callee := Callee.builtin Builtin.append, args := #[Operand.tmp 49, Operand.tmp 54], argTypes := #[27, 27] }, type := 27, pos := "ref.go:95", after := #[{ on := 3, ground := Ground.data }, { on := 8, ground := Ground.data }, { on := 3, ground := Ground.chain }], guard := none }) rfl ?_ AllReadyH.nil)
          · intro K1 hK1
            have hd5 := rx_oneM hN4.out.1 HFL.out
            refine step_append_g (by rfl) (.tmp 49) (.tmp 54) 27 rfl _ 92 i0 z 34 A.heap.size Try.underlying27 HI0.out.1 HI0.out.2.1 HI0.out.2.2.1 HI0.out.2.2.2.1 HI0.out.2.2.2.2 (by omega) _ (0 + n) ([] ++ cs) ho4.out (some ⟨nb, 0, none⟩) (1) 1 f.cells rfl rfl hd5 hS4.out.size (by have := HN.out; omega) ?_
            intro v5 V5 ho5 hg5 hp5
            have hw5 : Below A.heap.size V4 V5 := grown_below ho4.out hg5.out hS4.out.size
            have hS5 : Hid (Keep (fun j => j = b2) A V5) := keepB hS4.out hw5
            have hX5 : Hid (Blk V5 b2 30 [.slice fa n c, dv]) := ((hw5).block b2 HL.out).trans hX4.out
            clear hd5 hw5 hg5 hp5
            refine hK1.out _ _ hS5.out ?_
            clear hK1
            intro _
            try simp only [Act.put, List.setIfInBounds_toArray, List.set_cons_zero, List.set_cons_succ]
            refine wpAnyH_take (i := 10) (oi := { dst := some 56, op := Op.fieldAddr 30 (Operand.tmp 4) 0, type := 0, pos := "ref.go:95", after := #[{ on := 0, ground := Ground.phase }, { on := 1, ground := Ground.phase }, { on := 2, ground := Ground.phase }, { on := 3, ground := Ground.phase }, { on := 4, ground := Ground.phase }, { on := 5, ground := Ground.phase }, { on := 6, ground := Ground.phase }, { on := 7, ground := Ground.phase }, { on := 8, ground := Ground.phase }, { on := 9, ground := Ground.phase }], guard := none }) (v := .pointer (some ⟨b2, 0, none⟩)) rfl (by kernel_rfl) (by kernel_rfl) (by kernel_rfl) (fun _ _ _ h => h.elim) (Or.inl ⟨by rfl, ?y6⟩) hS5.out ?_
            case y6 =>
              intro V hV
              go_simp
            simp only [Act.put, List.setIfInBounds_toArray, List.set_cons_zero, List.set_cons_succ]
            refine wpAnyH_ready (rs := [11]) (by kernel_rfl) (by simp) (AllReadyH.cons (i := 11) (o := { dst := none, op := Op.store 27 (Operand.tmp 56) (Operand.tmp 55), type := 0, pos := "ref.go:95", after := #[{ on := 10, ground := Ground.data }, { on := 9, ground := Ground.data }, { on := 9, ground := Ground.chain }, { on := 0, ground := Ground.phase }, { on := 1, ground := Ground.phase }, { on := 2, ground := Ground.phase }, { on := 3, ground := Ground.phase }, { on := 4, ground := Ground.phase }, { on := 5, ground := Ground.phase }, { on := 6, ground := Ground.phase }, { on := 7, ground := Ground.phase }, { on := 8, ground := Ground.phase }, { on := 9, ground := Ground.phase }], guard := none }) rfl ?_ AllReadyH.nil)
            · intro K1 hK1
              refine step_st (by rfl) 27 (.tmp 56) (.tmp 55) rfl b2 0 v5 30 _ rfl rfl hX5.out (by simp) (by kernel_rfl) (own_slice ho5.out).1 (own_slice ho5.out).2 ?_
              obtain ⟨V6, hv6⟩ : ∃ V, V5.setCell ⟨b2, 0, none⟩ v5 = V := ⟨_, rfl⟩
              have hg6 : V5.grownBy V6 (some b2) := by rw [← hv6]; exact grown_setCell _ _ _ _
              have hS6 : Hid (Keep (fun j => j = b2) A V6) := hS5.out.trans (Keep.grown (S := fun j => j = b2) hg6 rfl) (fun _ hj _ => hj)
              have hX6 : Hid (Blk V6 b2 30 [v5, dv]) := by rw [← hv6]; exact hX5.out.set 0 v5
              have hO6 : Hid (V6.ownsRow A.heap.size 92 34 v5 (0 + n + 1) ([] ++ cs ++ f.cells)) := own_sameR ho5.out (fun g h1 h2 => hg6.block g h2 (fun e => by cases e; have := HL.out; omega))
              rw [hv6]
              clear hv6 hg6
              refine hK1.out _ _ hS6.out ?_
              clear hK1
              intro _
              try simp only [Act.put, List.setIfInBounds_toArray, List.set_cons_zero, List.set_cons_succ]
              refine wpAnyH_done (by kernel_rfl) ?_ _
              exact hQ V6 _ _ _ _ hO6.out hX6.out hS6.out
    · intro K1 hK1
      refine step_bs (by rfl) 27 (.tmp 53) _ rfl rfl (run_bs27 f HFL.out _) ?_
      have hr2 : V1.heap.size ≥ A.heap.size := hS1.out.size
      obtain ⟨V2, hv2⟩ : ∃ V, V1.alloc (.cells f.cells.toArray 92) = V := ⟨_, rfl⟩
      have hl2 : Below V1.heap.size V1 V2 := by rw [← hv2]; exact below_al _ _
      have hw2 : Below A.heap.size V1 V2 := hl2.mono hr2
      have hS2 : Hid (Keep (fun j => j = b2) A V2) := keepB hS1.out hw2
      have hX2 : Hid (Blk V2 b2 30 [.slice fa n c, dv]) := ((hw2).block b2 HL.out).trans hX1.out
      obtain ⟨nb, hnb⟩ : ∃ m, V1.heap.size = m := ⟨_, rfl⟩
      have hM2 : Hid (Blk V2 nb 92 f.cells) := by show Blk _ _ _ _; rw [← hv2, ← hnb]; simpa using Blk.new V1 f.cells.toArray 92
      have hO2 : Hid (V2.ownsRow A.heap.size 92 34 (.slice (some ⟨q1, 0, none⟩) 0 0) 0 []) := ownsRow_below hO1.out hl2
      have hN2 : Hid (Blk V2 nb 92 f.cells ∧ (Value.slice (some ⟨q1, 0, none⟩) 0 0).ownBlock ≠ some nb) := ⟨hM2.out, fun e => by have h1 := (hO1.out.lt _ e).2; omega⟩
      rw [hv2, hnb]
      clear hv2 hnb hw2 hr2 hl2
      refine hK1.out _ _ hS2.out ?_
      clear hK1
      intro _
      try simp only [Act.put, List.setIfInBounds_toArray, List.set_cons_zero, List.set_cons_succ]
      refine wpAnyH_ready (rs := [2]) (by kernel_rfl) (by simp) (AllReadyH.cons (i := 2) (o := { dst := some 48, op := Op.load 27 (Operand.tmp 47), type := 27, pos := "ref.go:95", after := #[{ on := 1, ground := Ground.data }], guard := none }) rfl ?_ AllReadyH.nil)
      · intro K1 hK1
        rw [if_pos (by rfl)]
        have hc : V2.cell? ⟨b2, 0, none⟩ = some (.slice fa n c) := hX2.out.cell rfl
        go_wp2
        clear hc
        refine hK1.out _ _ hS2.out ?_
        clear hK1
        intro _
        try simp only [Act.put, List.setIfInBounds_toArray, List.set_cons_zero, List.set_cons_succ]
        refine wpAnyH_ready (rs := [3]) (by kernel_rfl) (by simp) (AllReadyH.cons (i := 3) (o := { dst := some 49, op := Op.call { callee := Callee.builtin Builtin.append, args := #[Operand.tmp 46, Operand.tmp 48], argTypes := #[27, 27] }, type := 27, pos := "ref.go:95", after := #[{ on := 0, ground := Ground.data }, { on := 2, ground := Ground.data }], guard := none }) rfl ?_ AllReadyH.nil)
        · intro K1 hK1
          have hd4 := HR.out V2 hS2.out
          refine step_append_g (by rfl) (.tmp 46) (.tmp 48) 27 rfl _ 92 i0 z 34 A.heap.size Try.underlying27 HI0.out.1 HI0.out.2.1 HI0.out.2.2.1 HI0.out.2.2.2.1 HI0.out.2.2.2.2 (by omega) _ 0 [] hO2.out fa (n) c cs rfl rfl hd4 hS2.out.size (by have := HN.out; omega) ?_
          intro v4 V4 ho4 hg4 hp4
          have hw4 : Below A.heap.size V2 V4 := grown_below hO2.out hg4.out hS2.out.size
          have hS4 : Hid (Keep (fun j => j = b2) A V4) := keepB hS2.out hw4
          have hX4 : Hid (Blk V4 b2 30 [.slice fa n c, dv]) := ((hw4).block b2 HL.out).trans hX2.out
          have hN4 : Hid (Blk V4 nb 92 f.cells ∧ v4.ownBlock ≠ some nb) := ⟨hN2.out.1.kept hg4.out (fun e => hN2.out.2 e.symm), fun e => by
            rcases hp4.out with e2 | e2
            · exact hN2.out.2 (by rw [← e2]; exact e)
            · have h1 := hN2.out.1.lt
              rw [e2] at e
              cases e
              omega⟩
          clear hd4 hw4 hg4 hp4
          refine hK1.out _ _ hS4.out ?_
          clear hK1
          intro _
          try simp only [Act.put, List.setIfInBounds_toArray, List.set_cons_zero, List.set_cons_succ]
          refine wpAnyH_ready (rs := [9]) (by kernel_rfl) (by simp) (AllReadyH.cons (i := 9) (o := { dst := some 55, op := Op.call { callee := Callee.builtin Builtin.append, args := #[Operand.tmp 49, Operand.tmp 54], argTypes := #[27, 27] }, type := 27, pos := "ref.go:95", after := #[{ on := 3, ground := Ground.data }, { on := 8, ground := Ground.data }, { on := 3, ground := Ground.chain }], guard := none }) rfl ?_ AllReadyH.nil)
          · intro K1 hK1
            have hd5 := rx_oneM hN4.out.1 HFL.out
            refine step_append_g (by rfl) (.tmp 49) (.tmp 54) 27 rfl _ 92 i0 z 34 A.heap.size Try.underlying27 HI0.out.1 HI0.out.2.1 HI0.out.2.2.1 HI0.out.2.2.2.1 HI0.out.2.2.2.2 (by omega) _ (0 + n) ([] ++ cs) ho4.out (some ⟨nb, 0, none⟩) (1) 1 f.cells rfl rfl hd5 hS4.out.size (by have := HN.out; omega) ?_
            intro v5 V5 ho5 hg5 hp5
            have hw5 : Below A.heap.size V4 V5 := grown_below ho4.out hg5.out hS4.out.size
            have hS5 : Hid (Keep (fun j => j = b2) A V5) := keepB hS4.out hw5
            have hX5 : Hid (Blk V5 b2 30 [.slice fa n c, dv]) := ((hw5).block b2 HL.out).trans hX4.out
            clear hd5 hw5 hg5 hp5
            refine hK1.out _ _ hS5.out ?_
            clear hK1
            intro _
            try simp only [Act.put, List.setIfInBounds_toArray, List.set_cons_zero, List.set_cons_succ]
            refine wpAnyH_take (i := 10) (oi := { dst := some 56, op := Op.fieldAddr 30 (Operand.tmp 4) 0, type := 0, pos := "ref.go:95", after := #[{ on := 0, ground := Ground.phase }, { on := 1, ground := Ground.phase }, { on := 2, ground := Ground.phase }, { on := 3, ground := Ground.phase }, { on := 4, ground := Ground.phase }, { on := 5, ground := Ground.phase }, { on := 6, ground := Ground.phase }, { on := 7, ground := Ground.phase }, { on := 8, ground := Ground.phase }, { on := 9, ground := Ground.phase }], guard := none }) (v := .pointer (some ⟨b2, 0, none⟩)) rfl (by kernel_rfl) (by kernel_rfl) (by kernel_rfl) (fun _ _ _ h => h.elim) (Or.inl ⟨by rfl, ?y7⟩) hS5.out ?_
            case y7 =>
              intro V hV
              go_simp
            simp only [Act.put, List.setIfInBounds_toArray, List.set_cons_zero, List.set_cons_succ]
            refine wpAnyH_ready (rs := [11]) (by kernel_rfl) (by simp) (AllReadyH.cons (i := 11) (o := { dst := none, op := Op.store 27 (Operand.tmp 56) (Operand.tmp 55), type := 0, pos := "ref.go:95", after := #[{ on := 10, ground := Ground.data }, { on := 9, ground := Ground.data }, { on := 9, ground := Ground.chain }, { on := 0, ground := Ground.phase }, { on := 1, ground := Ground.phase }, { on := 2, ground := Ground.phase }, { on := 3, ground := Ground.phase }, { on := 4, ground := Ground.phase }, { on := 5, ground := Ground.phase }, { on := 6, ground := Ground.phase }, { on := 7, ground := Ground.phase }, { on := 8, ground := Ground.phase }, { on := 9, ground := Ground.phase }], guard := none }) rfl ?_ AllReadyH.nil)
            · intro K1 hK1
              refine step_st (by rfl) 27 (.tmp 56) (.tmp 55) rfl b2 0 v5 30 _ rfl rfl hX5.out (by simp) (by kernel_rfl) (own_slice ho5.out).1 (own_slice ho5.out).2 ?_
              obtain ⟨V6, hv6⟩ : ∃ V, V5.setCell ⟨b2, 0, none⟩ v5 = V := ⟨_, rfl⟩
              have hg6 : V5.grownBy V6 (some b2) := by rw [← hv6]; exact grown_setCell _ _ _ _
              have hS6 : Hid (Keep (fun j => j = b2) A V6) := hS5.out.trans (Keep.grown (S := fun j => j = b2) hg6 rfl) (fun _ hj _ => hj)
              have hX6 : Hid (Blk V6 b2 30 [v5, dv]) := by rw [← hv6]; exact hX5.out.set 0 v5
              have hO6 : Hid (V6.ownsRow A.heap.size 92 34 v5 (0 + n + 1) ([] ++ cs ++ f.cells)) := own_sameR ho5.out (fun g h1 h2 => hg6.block g h2 (fun e => by cases e; have := HL.out; omega))
              rw [hv6]
              clear hv6 hg6
              refine hK1.out _ _ hS6.out ?_
              clear hK1
              intro _
              try simp only [Act.put, List.setIfInBounds_toArray, List.set_cons_zero, List.set_cons_succ]
              refine wpAnyH_done (by kernel_rfl) ?_ _
              exact hQ V6 _ _ _ _ hO6.out hX6.out hS6.out
  · intro K1 hK1
    rw [if_pos (by rfl)]
    have hc : V0.cell? ⟨b2, 0, none⟩ = some (.slice fa n c) := hX0.out.cell rfl
    go_wp2
    clear hc
    refine hK1.out _ _ hS0.out ?_
    clear hK1
    intro _
    try simp only [Act.put, List.setIfInBounds_toArray, List.set_cons_zero, List.set_cons_succ]
    refine wpAnyH_ready (rs := [0, 8]) (by kernel_rfl) (by simp) (AllReadyH.cons (i := 0) (o := { dst := some 46, op := Op.buildSlice 27 0 #[], type := 27, pos := "ref.go:95", after := #[], guard := none }) rfl ?_ (AllReadyH.cons (i := 8) (o := { dst := some 54, op := Op.buildSlice 27 1 #[(0, Operand.tmp 53)], type := 27, pos := "ref.go:95", after := #[{ on := 7, ground := Ground.data }], guard := none }) rfl ?_ AllReadyH.nil))
    · intro K1 hK1
      refine step_bs0R (by rfl) 27 rfl (run_bs27_0 _) ?_
      have hr2 : V0.heap.size ≥ A.heap.size := hS0.out.size
      obtain ⟨V2, hv2⟩ : ∃ V, V0.alloc (.cells #[] 92) = V := ⟨_, rfl⟩
      have hl2 : Below V0.heap.size V0 V2 := by rw [← hv2]; exact below_al _ _
      have hw2 : Below A.heap.size V0 V2 := hl2.mono hr2
      have hO2 : Hid (V2.ownsRow A.heap.size 92 34 (.slice (some ⟨V0.heap.size, 0, none⟩) 0 0) 0 []) := by rw [← hv2]; exact own_base (empty_row V0 92 34) hr2
      have hS2 : Hid (Keep (fun j => j = b2) A V2) := keepB hS0.out hw2
      have hX2 : Hid (Blk V2 b2 30 [.slice fa n c, dv]) := ((hw2).block b2 HL.out).trans hX0.out
      obtain ⟨q2, hq2⟩ : ∃ m, V0.heap.size = m := ⟨_, rfl⟩
      rw [hq2] at hO2
      rw [hv2, hq2]
      clear hv2 hq2 hw2 hr2 hl2
      refine hK1.out _ _ hS2.out ?_
      clear hK1
      intro _
      try simp only [Act.put, List.setIfInBounds_toArray, List.set_cons_zero, List.set_cons_succ]
      refine wpAnyH_ready (rs := [3, 8]) (by kernel_rfl) (by simp) (AllReadyH.cons (i := 3) (o := { dst := some 49, op := Op.call { callee := Callee.builtin Builtin.append, args := #[Operand.tmp 46, Operand.tmp 48], argTypes := #[27, 27] }, type := 27, pos := "ref.go:95", after := #[{ on := 0, ground := Ground.data }, { on := 2, ground := Ground.data }], guard := none }) rfl ?_ (AllReadyH.cons (i := 8) (o := { dst := some 54, op := Op.buildSlice 27 1 #[(0, Operand.tmp 53)], type := 27, pos := "ref.go:95", after := #[{ on := 7, ground := Ground.data }], guard := none }) rfl ?_ AllReadyH.nil))
      · intro K1 hK1
        have hd3 := HR.out V2 hS2.out
        refine step_append_g (by rfl) (.tmp 46) (.tmp 48) 27 rfl _ 92 i0 z 34 A.heap.size Try.underlying27 HI0.out.1 HI0.out.2.1 HI0.out.2.2.1 HI0.out.2.2.2.1 HI0.out.2.2.2.2 (by omega) _ 0 [] hO2.out fa (n) c cs rfl rfl hd3 hS2.out.size (by have := HN.out; omega) ?_
        intro v3 V3 ho3 hg3 hp3
        have hw3 : Below A.heap.size V2 V3 := grown_below hO2.out hg3.out hS2.out.size
        have hS3 : Hid (Keep (fun j => j = b2) A V3) := keepB hS2.out hw3
        have hX3 : Hid (Blk V3 b2 30 [.slice fa n c, dv]) := ((hw3).block b2 HL.out).trans hX2.out
        clear hd3 hw3 hg3 hp3
        refine hK1.out _ _ hS3.out ?_
        clear hK1
        intro _
        try simp only [Act.put, List.setIfInBounds_toArray, List.set_cons_zero, List.set_cons_succ]
        refine wpAnyH_ready (rs := [8]) (by kernel_rfl) (by simp) (AllReadyH.cons (i := 8) (o := { dst := some 54, op := Op.buildSlice 27 1 #[(0, Operand.tmp 53)], type := 27, pos := "ref.go:95", after := #[{ on := 7, ground := Ground.data }], guard := none }) rfl ?_ AllReadyH.nil)
        · intro K1 hK1
          refine step_bs (by rfl) 27 (.tmp 53) _ rfl rfl (run_bs27 f HFL.out _) ?_
          have hr4 : V3.heap.size ≥ A.heap.size := hS3.out.size
          obtain ⟨V4, hv4⟩ : ∃ V, V3.alloc (.cells f.cells.toArray 92) = V := ⟨_, rfl⟩
          have hl4 : Below V3.heap.size V3 V4 := by rw [← hv4]; exact below_al _ _
          have hw4 : Below A.heap.size V3 V4 := hl4.mono hr4
          have hS4 : Hid (Keep (fun j => j = b2) A V4) := keepB hS3.out hw4
          have hX4 : Hid (Blk V4 b2 30 [.slice fa n c, dv]) := ((hw4).block b2 HL.out).trans hX3.out
          obtain ⟨nb, hnb⟩ : ∃ m, V3.heap.size = m := ⟨_, rfl⟩
          have hM4 : Hid (Blk V4 nb 92 f.cells) := by show Blk _ _ _ _; rw [← hv4, ← hnb]; simpa using Blk.new V3 f.cells.toArray 92
          have hO4 : Hid (V4.ownsRow A.heap.size 92 34 v3 (0 + n) ([] ++ cs)) := ownsRow_below ho3.out hl4
          have hN4 : Hid (Blk V4 nb 92 f.cells ∧ v3.ownBlock ≠ some nb) := ⟨hM4.out, fun e => by have h1 := (ho3.out.lt _ e).2; omega⟩
          rw [hv4, hnb]
          clear hv4 hnb hw4 hr4 hl4
          refine hK1.out _ _ hS4.out ?_
          clear hK1
          intro _
          try simp only [Act.put, List.setIfInBounds_toArray, List.set_cons_zero, List.set_cons_succ]
          refine wpAnyH_ready (rs := [9]) (by kernel_rfl) (by simp) (AllReadyH.cons (i := 9) (o := { dst := some 55, op := Op.call { callee := Callee.builtin Builtin.append, args := #[Operand.tmp 49, Operand.tmp 54], argTypes := #[27, 27] }, type := 27, pos := "ref.go:95", after := #[{ on := 3, ground := Ground.data }, { on := 8, ground := Ground.data }, { on := 3, ground := Ground.chain }], guard := none }) rfl ?_ AllReadyH.nil)
          · intro K1 hK1
            have hd5 := rx_oneM hN4.out.1 HFL.out
            refine step_append_g (by rfl) (.tmp 49) (.tmp 54) 27 rfl _ 92 i0 z 34 A.heap.size Try.underlying27 HI0.out.1 HI0.out.2.1 HI0.out.2.2.1 HI0.out.2.2.2.1 HI0.out.2.2.2.2 (by omega) _ (0 + n) ([] ++ cs) hO4.out (some ⟨nb, 0, none⟩) (1) 1 f.cells rfl rfl hd5 hS4.out.size (by have := HN.out; omega) ?_
            intro v5 V5 ho5 hg5 hp5
            have hw5 : Below A.heap.size V4 V5 := grown_below hO4.out hg5.out hS4.out.size
            have hS5 : Hid (Keep (fun j => j = b2) A V5) := keepB hS4.out hw5
            have hX5 : Hid (Blk V5 b2 30 [.slice fa n c, dv]) := ((hw5).block b2 HL.out).trans hX4.out
            clear hd5 hw5 hg5 hp5
            refine hK1.out _ _ hS5.out ?_
            clear hK1
            intro _
            try simp only [Act.put, List.setIfInBounds_toArray, List.set_cons_zero, List.set_cons_succ]
            refine wpAnyH_take (i := 10) (oi := { dst := some 56, op := Op.fieldAddr 30 (Operand.tmp 4) 0, type := 0, pos := "ref.go:95", after := #[{ on := 0, ground := Ground.phase }, { on := 1, ground := Ground.phase }, { on := 2, ground := Ground.phase }, { on := 3, ground := Ground.phase }, { on := 4, ground := Ground.phase }, { on := 5, ground := Ground.phase }, { on := 6, ground := Ground.phase }, { on := 7, ground := Ground.phase }, { on := 8, ground := Ground.phase }, { on := 9, ground := Ground.phase }], guard := none }) (v := .pointer (some ⟨b2, 0, none⟩)) rfl (by kernel_rfl) (by kernel_rfl) (by kernel_rfl) (fun _ _ _ h => h.elim) (Or.inl ⟨by rfl, ?y8⟩) hS5.out ?_
            case y8 =>
              intro V hV
              go_simp
            simp only [Act.put, List.setIfInBounds_toArray, List.set_cons_zero, List.set_cons_succ]
            refine wpAnyH_ready (rs := [11]) (by kernel_rfl) (by simp) (AllReadyH.cons (i := 11) (o := { dst := none, op := Op.store 27 (Operand.tmp 56) (Operand.tmp 55), type := 0, pos := "ref.go:95", after := #[{ on := 10, ground := Ground.data }, { on := 9, ground := Ground.data }, { on := 9, ground := Ground.chain }, { on := 0, ground := Ground.phase }, { on := 1, ground := Ground.phase }, { on := 2, ground := Ground.phase }, { on := 3, ground := Ground.phase }, { on := 4, ground := Ground.phase }, { on := 5, ground := Ground.phase }, { on := 6, ground := Ground.phase }, { on := 7, ground := Ground.phase }, { on := 8, ground := Ground.phase }, { on := 9, ground := Ground.phase }], guard := none }) rfl ?_ AllReadyH.nil)
            · intro K1 hK1
              refine step_st (by rfl) 27 (.tmp 56) (.tmp 55) rfl b2 0 v5 30 _ rfl rfl hX5.out (by simp) (by kernel_rfl) (own_slice ho5.out).1 (own_slice ho5.out).2 ?_
              obtain ⟨V6, hv6⟩ : ∃ V, V5.setCell ⟨b2, 0, none⟩ v5 = V := ⟨_, rfl⟩
              have hg6 : V5.grownBy V6 (some b2) := by rw [← hv6]; exact grown_setCell _ _ _ _
              have hS6 : Hid (Keep (fun j => j = b2) A V6) := hS5.out.trans (Keep.grown (S := fun j => j = b2) hg6 rfl) (fun _ hj _ => hj)
              have hX6 : Hid (Blk V6 b2 30 [v5, dv]) := by rw [← hv6]; exact hX5.out.set 0 v5
              have hO6 : Hid (V6.ownsRow A.heap.size 92 34 v5 (0 + n + 1) ([] ++ cs ++ f.cells)) := own_sameR ho5.out (fun g h1 h2 => hg6.block g h2 (fun e => by cases e; have := HL.out; omega))
              rw [hv6]
              clear hv6 hg6
              refine hK1.out _ _ hS6.out ?_
              clear hK1
              intro _
              try simp only [Act.put, List.setIfInBounds_toArray, List.set_cons_zero, List.set_cons_succ]
              refine wpAnyH_done (by kernel_rfl) ?_ _
              exact hQ V6 _ _ _ _ hO6.out hX6.out hS6.out
      · intro K1 hK1
        refine step_bs (by rfl) 27 (.tmp 53) _ rfl rfl (run_bs27 f HFL.out _) ?_
        have hr3 : V2.heap.size ≥ A.heap.size := hS2.out.size
        obtain ⟨V3, hv3⟩ : ∃ V, V2.alloc (.cells f.cells.toArray 92) = V := ⟨_, rfl⟩
        have hl3 : Below V2.heap.size V2 V3 := by rw [← hv3]; exact below_al _ _
        have hw3 : Below A.heap.size V2 V3 := hl3.mono hr3
        have hS3 : Hid (Keep (fun j => j = b2) A V3) := keepB hS2.out hw3
        have hX3 : Hid (Blk V3 b2 30 [.slice fa n c, dv]) := ((hw3).block b2 HL.out).trans hX2.out
        obtain ⟨nb, hnb⟩ : ∃ m, V2.heap.size = m := ⟨_, rfl⟩
        have hM3 : Hid (Blk V3 nb 92 f.cells) := by show Blk _ _ _ _; rw [← hv3, ← hnb]; simpa using Blk.new V2 f.cells.toArray 92
        have hO3 : Hid (V3.ownsRow A.heap.size 92 34 (.slice (some ⟨q2, 0, none⟩) 0 0) 0 []) := ownsRow_below hO2.out hl3
        have hN3 : Hid (Blk V3 nb 92 f.cells ∧ (Value.slice (some ⟨q2, 0, none⟩) 0 0).ownBlock ≠ some nb) := ⟨hM3.out, fun e => by have h1 := (hO2.out.lt _ e).2; omega⟩
        rw [hv3, hnb]
        clear hv3 hnb hw3 hr3 hl3
        refine hK1.out _ _ hS3.out ?_
        clear hK1
        intro _
        try simp only [Act.put, List.setIfInBounds_toArray, List.set_cons_zero, List.set_cons_succ]
        refine wpAnyH_ready (rs := [3]) (by kernel_rfl) (by simp) (AllReadyH.cons (i := 3) (o := { dst := some 49, op := Op.call { callee := Callee.builtin Builtin.append, args := #[Operand.tmp 46, Operand.tmp 48], argTypes := #[27, 27] }, type := 27, pos := "ref.go:95", after := #[{ on := 0, ground := Ground.data }, { on := 2, ground := Ground.data }], guard := none }) rfl ?_ AllReadyH.nil)
        · intro K1 hK1
          have hd4 := HR.out V3 hS3.out
          refine step_append_g (by rfl) (.tmp 46) (.tmp 48) 27 rfl _ 92 i0 z 34 A.heap.size Try.underlying27 HI0.out.1 HI0.out.2.1 HI0.out.2.2.1 HI0.out.2.2.2.1 HI0.out.2.2.2.2 (by omega) _ 0 [] hO3.out fa (n) c cs rfl rfl hd4 hS3.out.size (by have := HN.out; omega) ?_
          intro v4 V4 ho4 hg4 hp4
          have hw4 : Below A.heap.size V3 V4 := grown_below hO3.out hg4.out hS3.out.size
          have hS4 : Hid (Keep (fun j => j = b2) A V4) := keepB hS3.out hw4
          have hX4 : Hid (Blk V4 b2 30 [.slice fa n c, dv]) := ((hw4).block b2 HL.out).trans hX3.out
          have hN4 : Hid (Blk V4 nb 92 f.cells ∧ v4.ownBlock ≠ some nb) := ⟨hN3.out.1.kept hg4.out (fun e => hN3.out.2 e.symm), fun e => by
            rcases hp4.out with e2 | e2
            · exact hN3.out.2 (by rw [← e2]; exact e)
            · have h1 := hN3.out.1.lt
              rw [e2] at e
              cases e
              omega⟩
          clear hd4 hw4 hg4 hp4
          refine hK1.out _ _ hS4.out ?_
          clear hK1
          intro _
          try simp only [Act.put, List.setIfInBounds_toArray, List.set_cons_zero, List.set_cons_succ]
          refine wpAnyH_ready (rs := [9]) (by kernel_rfl) (by simp) (AllReadyH.cons (i := 9) (o := { dst := some 55, op := Op.call { callee := Callee.builtin Builtin.append, args := #[Operand.tmp 49, Operand.tmp 54], argTypes := #[27, 27] }, type := 27, pos := "ref.go:95", after := #[{ on := 3, ground := Ground.data }, { on := 8, ground := Ground.data }, { on := 3, ground := Ground.chain }], guard := none }) rfl ?_ AllReadyH.nil)
          · intro K1 hK1
            have hd5 := rx_oneM hN4.out.1 HFL.out
            refine step_append_g (by rfl) (.tmp 49) (.tmp 54) 27 rfl _ 92 i0 z 34 A.heap.size Try.underlying27 HI0.out.1 HI0.out.2.1 HI0.out.2.2.1 HI0.out.2.2.2.1 HI0.out.2.2.2.2 (by omega) _ (0 + n) ([] ++ cs) ho4.out (some ⟨nb, 0, none⟩) (1) 1 f.cells rfl rfl hd5 hS4.out.size (by have := HN.out; omega) ?_
            intro v5 V5 ho5 hg5 hp5
            have hw5 : Below A.heap.size V4 V5 := grown_below ho4.out hg5.out hS4.out.size
            have hS5 : Hid (Keep (fun j => j = b2) A V5) := keepB hS4.out hw5
            have hX5 : Hid (Blk V5 b2 30 [.slice fa n c, dv]) := ((hw5).block b2 HL.out).trans hX4.out
            clear hd5 hw5 hg5 hp5
            refine hK1.out _ _ hS5.out ?_
            clear hK1
            intro _
            try simp only [Act.put, List.setIfInBounds_toArray, List.set_cons_zero, List.set_cons_succ]
            refine wpAnyH_take (i := 10) (oi := { dst := some 56, op := Op.fieldAddr 30 (Operand.tmp 4) 0, type := 0, pos := "ref.go:95", after := #[{ on := 0, ground := Ground.phase }, { on := 1, ground := Ground.phase }, { on := 2, ground := Ground.phase }, { on := 3, ground := Ground.phase }, { on := 4, ground := Ground.phase }, { on := 5, ground := Ground.phase }, { on := 6, ground := Ground.phase }, { on := 7, ground := Ground.phase }, { on := 8, ground := Ground.phase }, { on := 9, ground := Ground.phase }], guard := none }) (v := .pointer (some ⟨b2, 0, none⟩)) rfl (by kernel_rfl) (by kernel_rfl) (by kernel_rfl) (fun _ _ _ h => h.elim) (Or.inl ⟨by rfl, ?y9⟩) hS5.out ?_
            case y9 =>
              intro V hV
              go_simp
            simp only [Act.put, List.setIfInBounds_toArray, List.set_cons_zero, List.set_cons_succ]
            refine wpAnyH_ready (rs := [11]) (by kernel_rfl) (by simp) (AllReadyH.cons (i := 11) (o := { dst := none, op := Op.store 27 (Operand.tmp 56) (Operand.tmp 55), type := 0, pos := "ref.go:95", after := #[{ on := 10, ground := Ground.data }, { on := 9, ground := Ground.data }, { on := 9, ground := Ground.chain }, { on := 0, ground := Ground.phase }, { on := 1, ground := Ground.phase }, { on := 2, ground := Ground.phase }, { on := 3, ground := Ground.phase }, { on := 4, ground := Ground.phase }, { on := 5, ground := Ground.phase }, { on := 6, ground := Ground.phase }, { on := 7, ground := Ground.phase }, { on := 8, ground := Ground.phase }, { on := 9, ground := Ground.phase }], guard := none }) rfl ?_ AllReadyH.nil)
            · intro K1 hK1
              refine step_st (by rfl) 27 (.tmp 56) (.tmp 55) rfl b2 0 v5 30 _ rfl rfl hX5.out (by simp) (by kernel_rfl) (own_slice ho5.out).1 (own_slice ho5.out).2 ?_
              obtain ⟨V6, hv6⟩ : ∃ V, V5.setCell ⟨b2, 0, none⟩ v5 = V := ⟨_, rfl⟩
              have hg6 : V5.grownBy V6 (some b2) := by rw [← hv6]; exact grown_setCell _ _ _ _
              have hS6 : Hid (Keep (fun j => j = b2) A V6) := hS5.out.trans (Keep.grown (S := fun j => j = b2) hg6 rfl) (fun _ hj _ => hj)
              have hX6 : Hid (Blk V6 b2 30 [v5, dv]) := by rw [← hv6]; exact hX5.out.set 0 v5
              have hO6 : Hid (V6.ownsRow A.heap.size 92 34 v5 (0 + n + 1) ([] ++ cs ++ f.cells)) := own_sameR ho5.out (fun g h1 h2 => hg6.block g h2 (fun e => by cases e; have := HL.out; omega))
              rw [hv6]
              clear hv6 hg6
              refine hK1.out _ _ hS6.out ?_
              clear hK1
              intro _
              try simp only [Act.put, List.setIfInBounds_toArray, List.set_cons_zero, List.set_cons_succ]
              refine wpAnyH_done (by kernel_rfl) ?_ _
              exact hQ V6 _ _ _ _ hO6.out hX6.out hS6.out
    · intro K1 hK1
      refine step_bs (by rfl) 27 (.tmp 53) _ rfl rfl (run_bs27 f HFL.out _) ?_
      have hr2 : V0.heap.size ≥ A.heap.size := hS0.out.size
      obtain ⟨V2, hv2⟩ : ∃ V, V0.alloc (.cells f.cells.toArray 92) = V := ⟨_, rfl⟩
      have hl2 : Below V0.heap.size V0 V2 := by rw [← hv2]; exact below_al _ _
      have hw2 : Below A.heap.size V0 V2 := hl2.mono hr2
      have hS2 : Hid (Keep (fun j => j = b2) A V2) := keepB hS0.out hw2
      have hX2 : Hid (Blk V2 b2 30 [.slice fa n c, dv]) := ((hw2).block b2 HL.out).trans hX0.out
      obtain ⟨nb, hnb⟩ : ∃ m, V0.heap.size = m := ⟨_, rfl⟩
      have hM2 : Hid (Blk V2 nb 92 f.cells) := by show Blk _ _ _ _; rw [← hv2, ← hnb]; simpa using Blk.new V0 f.cells.toArray 92
      rw [hv2, hnb]
      clear hv2 hnb hw2 hr2 hl2
      refine hK1.out _ _ hS2.out ?_
      clear hK1
      intro _
      try simp only [Act.put, List.setIfInBounds_toArray, List.set_cons_zero, List.set_cons_succ]
      refine wpAnyH_ready (rs := [0]) (by kernel_rfl) (by simp) (AllReadyH.cons (i := 0) (o := { dst := some 46, op := Op.buildSlice 27 0 #[], type := 27, pos := "ref.go:95", after := #[], guard := none }) rfl ?_ AllReadyH.nil)
      · intro K1 hK1
        refine step_bs0R (by rfl) 27 rfl (run_bs27_0 _) ?_
        have hr3 : V2.heap.size ≥ A.heap.size := hS2.out.size
        obtain ⟨V3, hv3⟩ : ∃ V, V2.alloc (.cells #[] 92) = V := ⟨_, rfl⟩
        have hl3 : Below V2.heap.size V2 V3 := by rw [← hv3]; exact below_al _ _
        have hw3 : Below A.heap.size V2 V3 := hl3.mono hr3
        have hO3 : Hid (V3.ownsRow A.heap.size 92 34 (.slice (some ⟨V2.heap.size, 0, none⟩) 0 0) 0 []) := by rw [← hv3]; exact own_base (empty_row V2 92 34) hr3
        have hS3 : Hid (Keep (fun j => j = b2) A V3) := keepB hS2.out hw3
        have hX3 : Hid (Blk V3 b2 30 [.slice fa n c, dv]) := ((hw3).block b2 HL.out).trans hX2.out
        have hN3 : Hid (Blk V3 nb 92 f.cells ∧ (Value.slice (some ⟨V2.heap.size, 0, none⟩) 0 0).ownBlock ≠ some nb) := ⟨hM2.out.below hl3 hM2.out.lt, fun e => by have h1 := hM2.out.lt; simp [Value.ownBlock] at e; omega⟩
        obtain ⟨q3, hq3⟩ : ∃ m, V2.heap.size = m := ⟨_, rfl⟩
        rw [hq3] at hO3
        rw [hq3] at hN3
        rw [hv3, hq3]
        clear hv3 hq3 hw3 hr3 hl3
        refine hK1.out _ _ hS3.out ?_
        clear hK1
        intro _
        try simp only [Act.put, List.setIfInBounds_toArray, List.set_cons_zero, List.set_cons_succ]
        refine wpAnyH_ready (rs := [3]) (by kernel_rfl) (by simp) (AllReadyH.cons (i := 3) (o := { dst := some 49, op := Op.call { callee := Callee.builtin Builtin.append, args := #[Operand.tmp 46, Operand.tmp 48], argTypes := #[27, 27] }, type := 27, pos := "ref.go:95", after := #[{ on := 0, ground := Ground.data }, { on := 2, ground := Ground.data }], guard := none }) rfl ?_ AllReadyH.nil)
        · intro K1 hK1
          have hd4 := HR.out V3 hS3.out
          refine step_append_g (by rfl) (.tmp 46) (.tmp 48) 27 rfl _ 92 i0 z 34 A.heap.size Try.underlying27 HI0.out.1 HI0.out.2.1 HI0.out.2.2.1 HI0.out.2.2.2.1 HI0.out.2.2.2.2 (by omega) _ 0 [] hO3.out fa (n) c cs rfl rfl hd4 hS3.out.size (by have := HN.out; omega) ?_
          intro v4 V4 ho4 hg4 hp4
          have hw4 : Below A.heap.size V3 V4 := grown_below hO3.out hg4.out hS3.out.size
          have hS4 : Hid (Keep (fun j => j = b2) A V4) := keepB hS3.out hw4
          have hX4 : Hid (Blk V4 b2 30 [.slice fa n c, dv]) := ((hw4).block b2 HL.out).trans hX3.out
          have hN4 : Hid (Blk V4 nb 92 f.cells ∧ v4.ownBlock ≠ some nb) := ⟨hN3.out.1.kept hg4.out (fun e => hN3.out.2 e.symm), fun e => by
            rcases hp4.out with e2 | e2
            · exact hN3.out.2 (by rw [← e2]; exact e)
            · have h1 := hN3.out.1.lt
              rw [e2] at e
              cases e
              omega⟩
          clear hd4 hw4 hg4 hp4
          refine hK1.out _ _ hS4.out ?_
          clear hK1
          intro _
          try simp only [Act.put, List.setIfInBounds_toArray, List.set_cons_zero, List.set_cons_succ]
          refine wpAnyH_ready (rs := [9]) (by kernel_rfl) (by simp) (AllReadyH.cons (i := 9) (o := { dst := some 55, op := Op.call { callee := Callee.builtin Builtin.append, args := #[Operand.tmp 49, Operand.tmp 54], argTypes := #[27, 27] }, type := 27, pos := "ref.go:95", after := #[{ on := 3, ground := Ground.data }, { on := 8, ground := Ground.data }, { on := 3, ground := Ground.chain }], guard := none }) rfl ?_ AllReadyH.nil)
          · intro K1 hK1
            have hd5 := rx_oneM hN4.out.1 HFL.out
            refine step_append_g (by rfl) (.tmp 49) (.tmp 54) 27 rfl _ 92 i0 z 34 A.heap.size Try.underlying27 HI0.out.1 HI0.out.2.1 HI0.out.2.2.1 HI0.out.2.2.2.1 HI0.out.2.2.2.2 (by omega) _ (0 + n) ([] ++ cs) ho4.out (some ⟨nb, 0, none⟩) (1) 1 f.cells rfl rfl hd5 hS4.out.size (by have := HN.out; omega) ?_
            intro v5 V5 ho5 hg5 hp5
            have hw5 : Below A.heap.size V4 V5 := grown_below ho4.out hg5.out hS4.out.size
            have hS5 : Hid (Keep (fun j => j = b2) A V5) := keepB hS4.out hw5
            have hX5 : Hid (Blk V5 b2 30 [.slice fa n c, dv]) := ((hw5).block b2 HL.out).trans hX4.out
            clear hd5 hw5 hg5 hp5
            refine hK1.out _ _ hS5.out ?_
            clear hK1
            intro _
            try simp only [Act.put, List.setIfInBounds_toArray, List.set_cons_zero, List.set_cons_succ]
            refine wpAnyH_take (i := 10) (oi := { dst := some 56, op := Op.fieldAddr 30 (Operand.tmp 4) 0, type := 0, pos := "ref.go:95", after := #[{ on := 0, ground := Ground.phase }, { on := 1, ground := Ground.phase }, { on := 2, ground := Ground.phase }, { on := 3, ground := Ground.phase }, { on := 4, ground := Ground.phase }, { on := 5, ground := Ground.phase }, { on := 6, ground := Ground.phase }, { on := 7, ground := Ground.phase }, { on := 8, ground := Ground.phase }, { on := 9, ground := Ground.phase }], guard := none }) (v := .pointer (some ⟨b2, 0, none⟩)) rfl (by kernel_rfl) (by kernel_rfl) (by kernel_rfl) (fun _ _ _ h => h.elim) (Or.inl ⟨by rfl, ?y10⟩) hS5.out ?_
            case y10 =>
              intro V hV
              go_simp
            simp only [Act.put, List.setIfInBounds_toArray, List.set_cons_zero, List.set_cons_succ]
            refine wpAnyH_ready (rs := [11]) (by kernel_rfl) (by simp) (AllReadyH.cons (i := 11) (o := { dst := none, op := Op.store 27 (Operand.tmp 56) (Operand.tmp 55), type := 0, pos := "ref.go:95", after := #[{ on := 10, ground := Ground.data }, { on := 9, ground := Ground.data }, { on := 9, ground := Ground.chain }, { on := 0, ground := Ground.phase }, { on := 1, ground := Ground.phase }, { on := 2, ground := Ground.phase }, { on := 3, ground := Ground.phase }, { on := 4, ground := Ground.phase }, { on := 5, ground := Ground.phase }, { on := 6, ground := Ground.phase }, { on := 7, ground := Ground.phase }, { on := 8, ground := Ground.phase }, { on := 9, ground := Ground.phase }], guard := none }) rfl ?_ AllReadyH.nil)
            · intro K1 hK1
              refine step_st (by rfl) 27 (.tmp 56) (.tmp 55) rfl b2 0 v5 30 _ rfl rfl hX5.out (by simp) (by kernel_rfl) (own_slice ho5.out).1 (own_slice ho5.out).2 ?_
              obtain ⟨V6, hv6⟩ : ∃ V, V5.setCell ⟨b2, 0, none⟩ v5 = V := ⟨_, rfl⟩
              have hg6 : V5.grownBy V6 (some b2) := by rw [← hv6]; exact grown_setCell _ _ _ _
              have hS6 : Hid (Keep (fun j => j = b2) A V6) := hS5.out.trans (Keep.grown (S := fun j => j = b2) hg6 rfl) (fun _ hj _ => hj)
              have hX6 : Hid (Blk V6 b2 30 [v5, dv]) := by rw [← hv6]; exact hX5.out.set 0 v5
              have hO6 : Hid (V6.ownsRow A.heap.size 92 34 v5 (0 + n + 1) ([] ++ cs ++ f.cells)) := own_sameR ho5.out (fun g h1 h2 => hg6.block g h2 (fun e => by cases e; have := HL.out; omega))
              rw [hv6]
              clear hv6 hg6
              refine hK1.out _ _ hS6.out ?_
              clear hK1
              intro _
              try simp only [Act.put, List.setIfInBounds_toArray, List.set_cons_zero, List.set_cons_succ]
              refine wpAnyH_done (by kernel_rfl) ?_ _
              exact hQ V6 _ _ _ _ hO6.out hX6.out hS6.out
  · intro K1 hK1
    refine step_bs (by rfl) 27 (.tmp 53) _ rfl rfl (run_bs27 f HFL.out _) ?_
    have hr1 : V0.heap.size ≥ A.heap.size := hS0.out.size
    obtain ⟨V1, hv1⟩ : ∃ V, V0.alloc (.cells f.cells.toArray 92) = V := ⟨_, rfl⟩
    have hl1 : Below V0.heap.size V0 V1 := by rw [← hv1]; exact below_al _ _
    have hw1 : Below A.heap.size V0 V1 := hl1.mono hr1
    have hS1 : Hid (Keep (fun j => j = b2) A V1) := keepB hS0.out hw1
    have hX1 : Hid (Blk V1 b2 30 [.slice fa n c, dv]) := ((hw1).block b2 HL.out).trans hX0.out
    obtain ⟨nb, hnb⟩ : ∃ m, V0.heap.size = m := ⟨_, rfl⟩
    have hM1 : Hid (Blk V1 nb 92 f.cells) := by show Blk _ _ _ _; rw [← hv1, ← hnb]; simpa using Blk.new V0 f.cells.toArray 92
    rw [hv1, hnb]
    clear hv1 hnb hw1 hr1 hl1
    refine hK1.out _ _ hS1.out ?_
    clear hK1
    intro _
    try simp only [Act.put, List.setIfInBounds_toArray, List.set_cons_zero, List.set_cons_succ]
    refine wpAnyH_ready (rs := [0, 2]) (by kernel_rfl) (by simp) (AllReadyH.cons (i := 0) (o := { dst := some 46, op := Op.buildSlice 27 0 #[], type := 27, pos := "ref.go:95", after := #[], guard := none }) rfl ?_ (AllReadyH.cons (i := 2) (o := { dst := some 48, op := Op.load 27 (Operand.tmp 47), type := 27, pos := "ref.go:95", after := #[{ on := 1, ground := Ground.data }], guard := none }) rfl ?_ AllReadyH.nil))
    · intro K1 hK1
      refine step_bs0R (by rfl) 27 rfl (run_bs27_0 _) ?_
      have hr2 : V1.heap.size ≥ A.heap.size := hS1.out.size
      obtain ⟨V2, hv2⟩ : ∃ V, V1.alloc (.cells #[] 92) = V := ⟨_, rfl⟩
      have hl2 : Below V1.heap.size V1 V2 := by rw [← hv2]; exact below_al _ _
      have hw2 : Below A.heap.size V1 V2 := hl2.mono hr2
      have hO2 : Hid (V2.ownsRow A.heap.size 92 34 (.slice (some ⟨V1.heap.size, 0, none⟩) 0 0) 0 []) := by rw [← hv2]; exact own_base (empty_row V1 92 34) hr2
      have hS2 : Hid (Keep (fun j => j = b2) A V2) := keepB hS1.out hw2
      have hX2 : Hid (Blk V2 b2 30 [.slice fa n c, dv]) := ((hw2).block b2 HL.out).trans hX1.out
      have hN2 : Hid (Blk V2 nb 92 f.cells ∧ (Value.slice (some ⟨V1.heap.size, 0, none⟩) 0 0).ownBlock ≠ some nb) := ⟨hM1.out.below hl2 hM1.out.lt, fun e => by have h1 := hM1.out.lt; simp [Value.ownBlock] at e; omega⟩
      obtain ⟨q2, hq2⟩ : ∃ m, V1.heap.size = m := ⟨_, rfl⟩
      rw [hq2] at hO2
      rw [hq2] at hN2
      rw [hv2, hq2]
      clear hv2 hq2 hw2 hr2 hl2
      refine hK1.out _ _ hS2.out ?_
      clear hK1
      intro _
      try simp only [Act.put, List.setIfInBounds_toArray, List.set_cons_zero, List.set_cons_succ]
      refine wpAnyH_ready (rs := [2]) (by kernel_rfl) (by simp) (AllReadyH.cons (i := 2) (o := { dst := some 48, op := Op.load 27 (Operand.tmp 47), type := 27, pos := "ref.go:95", after := #[{ on := 1, ground := Ground.data }], guard := none }) rfl ?_ AllReadyH.nil)
      · intro K1 hK1
        rw [if_pos (by rfl)]
        have hc : V2.cell? ⟨b2, 0, none⟩ = some (.slice fa n c) := hX2.out.cell rfl
        go_wp2
        clear hc
        refine hK1.out _ _ hS2.out ?_
        clear hK1
        intro _
        try simp only [Act.put, List.setIfInBounds_toArray, List.set_cons_zero, List.set_cons_succ]
        refine wpAnyH_ready (rs := [3]) (by kernel_rfl) (by simp) (AllReadyH.cons (i := 3) (o := { dst := some 49, op := Op.call { callee := Callee.builtin Builtin.append, args := #[Operand.tmp 46, Operand.tmp 48], argTypes := #[27, 27] }, type := 27, pos := "ref.go:95", after := #[{ on := 0, ground := Ground.data }, { on := 2, ground := Ground.data }], guard := none }) rfl ?_ AllReadyH.nil)
        · intro K1 hK1
          have hd4 := HR.out V2 hS2.out
          refine step_append_g (by rfl) (.tmp 46) (.tmp 48) 27 rfl _ 92 i0 z 34 A.heap.size Try.underlying27 HI0.out.1 HI0.out.2.1 HI0.out.2.2.1 HI0.out.2.2.2.1 HI0.out.2.2.2.2 (by omega) _ 0 [] hO2.out fa (n) c cs rfl rfl hd4 hS2.out.size (by have := HN.out; omega) ?_
          intro v4 V4 ho4 hg4 hp4
          have hw4 : Below A.heap.size V2 V4 := grown_below hO2.out hg4.out hS2.out.size
          have hS4 : Hid (Keep (fun j => j = b2) A V4) := keepB hS2.out hw4
          have hX4 : Hid (Blk V4 b2 30 [.slice fa n c, dv]) := ((hw4).block b2 HL.out).trans hX2.out
          have hN4 : Hid (Blk V4 nb 92 f.cells ∧ v4.ownBlock ≠ some nb) := ⟨hN2.out.1.kept hg4.out (fun e => hN2.out.2 e.symm), fun e => by
            rcases hp4.out with e2 | e2
            · exact hN2.out.2 (by rw [← e2]; exact e)
            · have h1 := hN2.out.1.lt
              rw [e2] at e
              cases e
              omega⟩
          clear hd4 hw4 hg4 hp4
          refine hK1.out _ _ hS4.out ?_
          clear hK1
          intro _
          try simp only [Act.put, List.setIfInBounds_toArray, List.set_cons_zero, List.set_cons_succ]
          refine wpAnyH_ready (rs := [9]) (by kernel_rfl) (by simp) (AllReadyH.cons (i := 9) (o := { dst := some 55, op := Op.call { callee := Callee.builtin Builtin.append, args := #[Operand.tmp 49, Operand.tmp 54], argTypes := #[27, 27] }, type := 27, pos := "ref.go:95", after := #[{ on := 3, ground := Ground.data }, { on := 8, ground := Ground.data }, { on := 3, ground := Ground.chain }], guard := none }) rfl ?_ AllReadyH.nil)
          · intro K1 hK1
            have hd5 := rx_oneM hN4.out.1 HFL.out
            refine step_append_g (by rfl) (.tmp 49) (.tmp 54) 27 rfl _ 92 i0 z 34 A.heap.size Try.underlying27 HI0.out.1 HI0.out.2.1 HI0.out.2.2.1 HI0.out.2.2.2.1 HI0.out.2.2.2.2 (by omega) _ (0 + n) ([] ++ cs) ho4.out (some ⟨nb, 0, none⟩) (1) 1 f.cells rfl rfl hd5 hS4.out.size (by have := HN.out; omega) ?_
            intro v5 V5 ho5 hg5 hp5
            have hw5 : Below A.heap.size V4 V5 := grown_below ho4.out hg5.out hS4.out.size
            have hS5 : Hid (Keep (fun j => j = b2) A V5) := keepB hS4.out hw5
            have hX5 : Hid (Blk V5 b2 30 [.slice fa n c, dv]) := ((hw5).block b2 HL.out).trans hX4.out
            clear hd5 hw5 hg5 hp5
            refine hK1.out _ _ hS5.out ?_
            clear hK1
            intro _
            try simp only [Act.put, List.setIfInBounds_toArray, List.set_cons_zero, List.set_cons_succ]
            refine wpAnyH_take (i := 10) (oi := { dst := some 56, op := Op.fieldAddr 30 (Operand.tmp 4) 0, type := 0, pos := "ref.go:95", after := #[{ on := 0, ground := Ground.phase }, { on := 1, ground := Ground.phase }, { on := 2, ground := Ground.phase }, { on := 3, ground := Ground.phase }, { on := 4, ground := Ground.phase }, { on := 5, ground := Ground.phase }, { on := 6, ground := Ground.phase }, { on := 7, ground := Ground.phase }, { on := 8, ground := Ground.phase }, { on := 9, ground := Ground.phase }], guard := none }) (v := .pointer (some ⟨b2, 0, none⟩)) rfl (by kernel_rfl) (by kernel_rfl) (by kernel_rfl) (fun _ _ _ h => h.elim) (Or.inl ⟨by rfl, ?y11⟩) hS5.out ?_
            case y11 =>
              intro V hV
              go_simp
            simp only [Act.put, List.setIfInBounds_toArray, List.set_cons_zero, List.set_cons_succ]
            refine wpAnyH_ready (rs := [11]) (by kernel_rfl) (by simp) (AllReadyH.cons (i := 11) (o := { dst := none, op := Op.store 27 (Operand.tmp 56) (Operand.tmp 55), type := 0, pos := "ref.go:95", after := #[{ on := 10, ground := Ground.data }, { on := 9, ground := Ground.data }, { on := 9, ground := Ground.chain }, { on := 0, ground := Ground.phase }, { on := 1, ground := Ground.phase }, { on := 2, ground := Ground.phase }, { on := 3, ground := Ground.phase }, { on := 4, ground := Ground.phase }, { on := 5, ground := Ground.phase }, { on := 6, ground := Ground.phase }, { on := 7, ground := Ground.phase }, { on := 8, ground := Ground.phase }, { on := 9, ground := Ground.phase }], guard := none }) rfl ?_ AllReadyH.nil)
            · intro K1 hK1
              refine step_st (by rfl) 27 (.tmp 56) (.tmp 55) rfl b2 0 v5 30 _ rfl rfl hX5.out (by simp) (by kernel_rfl) (own_slice ho5.out).1 (own_slice ho5.out).2 ?_
              obtain ⟨V6, hv6⟩ : ∃ V, V5.setCell ⟨b2, 0, none⟩ v5 = V := ⟨_, rfl⟩
              have hg6 : V5.grownBy V6 (some b2) := by rw [← hv6]; exact grown_setCell _ _ _ _
              have hS6 : Hid (Keep (fun j => j = b2) A V6) := hS5.out.trans (Keep.grown (S := fun j => j = b2) hg6 rfl) (fun _ hj _ => hj)
              have hX6 : Hid (Blk V6 b2 30 [v5, dv]) := by rw [← hv6]; exact hX5.out.set 0 v5
              have hO6 : Hid (V6.ownsRow A.heap.size 92 34 v5 (0 + n + 1) ([] ++ cs ++ f.cells)) := own_sameR ho5.out (fun g h1 h2 => hg6.block g h2 (fun e => by cases e; have := HL.out; omega))
              rw [hv6]
              clear hv6 hg6
              refine hK1.out _ _ hS6.out ?_
              clear hK1
              intro _
              try simp only [Act.put, List.setIfInBounds_toArray, List.set_cons_zero, List.set_cons_succ]
              refine wpAnyH_done (by kernel_rfl) ?_ _
              exact hQ V6 _ _ _ _ hO6.out hX6.out hS6.out
    · intro K1 hK1
      rw [if_pos (by rfl)]
      have hc : V1.cell? ⟨b2, 0, none⟩ = some (.slice fa n c) := hX1.out.cell rfl
      go_wp2
      clear hc
      refine hK1.out _ _ hS1.out ?_
      clear hK1
      intro _
      try simp only [Act.put, List.setIfInBounds_toArray, List.set_cons_zero, List.set_cons_succ]
      refine wpAnyH_ready (rs := [0]) (by kernel_rfl) (by simp) (AllReadyH.cons (i := 0) (o := { dst := some 46, op := Op.buildSlice 27 0 #[], type := 27, pos := "ref.go:95", after := #[], guard := none }) rfl ?_ AllReadyH.nil)
      · intro K1 hK1
        refine step_bs0R (by rfl) 27 rfl (run_bs27_0 _) ?_
        have hr3 : V1.heap.size ≥ A.heap.size := hS1.out.size
        obtain ⟨V3, hv3⟩ : ∃ V, V1.alloc (.cells #[] 92) = V := ⟨_, rfl⟩
        have hl3 : Below V1.heap.size V1 V3 := by rw [← hv3]; exact below_al _ _
        have hw3 : Below A.heap.size V1 V3 := hl3.mono hr3
        have hO3 : Hid (V3.ownsRow A.heap.size 92 34 (.slice (some ⟨V1.heap.size, 0, none⟩) 0 0) 0 []) := by rw [← hv3]; exact own_base (empty_row V1 92 34) hr3
        have hS3 : Hid (Keep (fun j => j = b2) A V3) := keepB hS1.out hw3
        have hX3 : Hid (Blk V3 b2 30 [.slice fa n c, dv]) := ((hw3).block b2 HL.out).trans hX1.out
        have hN3 : Hid (Blk V3 nb 92 f.cells ∧ (Value.slice (some ⟨V1.heap.size, 0, none⟩) 0 0).ownBlock ≠ some nb) := ⟨hM1.out.below hl3 hM1.out.lt, fun e => by have h1 := hM1.out.lt; simp [Value.ownBlock] at e; omega⟩
        obtain ⟨q3, hq3⟩ : ∃ m, V1.heap.size = m := ⟨_, rfl⟩
        rw [hq3] at hO3
        rw [hq3] at hN3
        rw [hv3, hq3]
        clear hv3 hq3 hw3 hr3 hl3
        refine hK1.out _ _ hS3.out ?_
        clear hK1
        intro _
        try simp only [Act.put, List.setIfInBounds_toArray, List.set_cons_zero, List.set_cons_succ]
        refine wpAnyH_ready (rs := [3]) (by kernel_rfl) (by simp) (AllReadyH.cons (i := 3) (o := { dst := some 49, op := Op.call { callee := Callee.builtin Builtin.append, args := #[Operand.tmp 46, Operand.tmp 48], argTypes := #[27, 27] }, type := 27, pos := "ref.go:95", after := #[{ on := 0, ground := Ground.data }, { on := 2, ground := Ground.data }], guard := none }) rfl ?_ AllReadyH.nil)
        · intro K1 hK1
          have hd4 := HR.out V3 hS3.out
          refine step_append_g (by rfl) (.tmp 46) (.tmp 48) 27 rfl _ 92 i0 z 34 A.heap.size Try.underlying27 HI0.out.1 HI0.out.2.1 HI0.out.2.2.1 HI0.out.2.2.2.1 HI0.out.2.2.2.2 (by omega) _ 0 [] hO3.out fa (n) c cs rfl rfl hd4 hS3.out.size (by have := HN.out; omega) ?_
          intro v4 V4 ho4 hg4 hp4
          have hw4 : Below A.heap.size V3 V4 := grown_below hO3.out hg4.out hS3.out.size
          have hS4 : Hid (Keep (fun j => j = b2) A V4) := keepB hS3.out hw4
          have hX4 : Hid (Blk V4 b2 30 [.slice fa n c, dv]) := ((hw4).block b2 HL.out).trans hX3.out
          have hN4 : Hid (Blk V4 nb 92 f.cells ∧ v4.ownBlock ≠ some nb) := ⟨hN3.out.1.kept hg4.out (fun e => hN3.out.2 e.symm), fun e => by
            rcases hp4.out with e2 | e2
            · exact hN3.out.2 (by rw [← e2]; exact e)
            · have h1 := hN3.out.1.lt
              rw [e2] at e
              cases e
              omega⟩
          clear hd4 hw4 hg4 hp4
          refine hK1.out _ _ hS4.out ?_
          clear hK1
          intro _
          try simp only [Act.put, List.setIfInBounds_toArray, List.set_cons_zero, List.set_cons_succ]
          refine wpAnyH_ready (rs := [9]) (by kernel_rfl) (by simp) (AllReadyH.cons (i := 9) (o := { dst := some 55, op := Op.call { callee := Callee.builtin Builtin.append, args := #[Operand.tmp 49, Operand.tmp 54], argTypes := #[27, 27] }, type := 27, pos := "ref.go:95", after := #[{ on := 3, ground := Ground.data }, { on := 8, ground := Ground.data }, { on := 3, ground := Ground.chain }], guard := none }) rfl ?_ AllReadyH.nil)
          · intro K1 hK1
            have hd5 := rx_oneM hN4.out.1 HFL.out
            refine step_append_g (by rfl) (.tmp 49) (.tmp 54) 27 rfl _ 92 i0 z 34 A.heap.size Try.underlying27 HI0.out.1 HI0.out.2.1 HI0.out.2.2.1 HI0.out.2.2.2.1 HI0.out.2.2.2.2 (by omega) _ (0 + n) ([] ++ cs) ho4.out (some ⟨nb, 0, none⟩) (1) 1 f.cells rfl rfl hd5 hS4.out.size (by have := HN.out; omega) ?_
            intro v5 V5 ho5 hg5 hp5
            have hw5 : Below A.heap.size V4 V5 := grown_below ho4.out hg5.out hS4.out.size
            have hS5 : Hid (Keep (fun j => j = b2) A V5) := keepB hS4.out hw5
            have hX5 : Hid (Blk V5 b2 30 [.slice fa n c, dv]) := ((hw5).block b2 HL.out).trans hX4.out
            clear hd5 hw5 hg5 hp5
            refine hK1.out _ _ hS5.out ?_
            clear hK1
            intro _
            try simp only [Act.put, List.setIfInBounds_toArray, List.set_cons_zero, List.set_cons_succ]
            refine wpAnyH_take (i := 10) (oi := { dst := some 56, op := Op.fieldAddr 30 (Operand.tmp 4) 0, type := 0, pos := "ref.go:95", after := #[{ on := 0, ground := Ground.phase }, { on := 1, ground := Ground.phase }, { on := 2, ground := Ground.phase }, { on := 3, ground := Ground.phase }, { on := 4, ground := Ground.phase }, { on := 5, ground := Ground.phase }, { on := 6, ground := Ground.phase }, { on := 7, ground := Ground.phase }, { on := 8, ground := Ground.phase }, { on := 9, ground := Ground.phase }], guard := none }) (v := .pointer (some ⟨b2, 0, none⟩)) rfl (by kernel_rfl) (by kernel_rfl) (by kernel_rfl) (fun _ _ _ h => h.elim) (Or.inl ⟨by rfl, ?y12⟩) hS5.out ?_
            case y12 =>
              intro V hV
              go_simp
            simp only [Act.put, List.setIfInBounds_toArray, List.set_cons_zero, List.set_cons_succ]
            refine wpAnyH_ready (rs := [11]) (by kernel_rfl) (by simp) (AllReadyH.cons (i := 11) (o := { dst := none, op := Op.store 27 (Operand.tmp 56) (Operand.tmp 55), type := 0, pos := "ref.go:95", after := #[{ on := 10, ground := Ground.data }, { on := 9, ground := Ground.data }, { on := 9, ground := Ground.chain }, { on := 0, ground := Ground.phase }, { on := 1, ground := Ground.phase }, { on := 2, ground := Ground.phase }, { on := 3, ground := Ground.phase }, { on := 4, ground := Ground.phase }, { on := 5, ground := Ground.phase }, { on := 6, ground := Ground.phase }, { on := 7, ground := Ground.phase }, { on := 8, ground := Ground.phase }, { on := 9, ground := Ground.phase }], guard := none }) rfl ?_ AllReadyH.nil)
            · intro K1 hK1
              refine step_st (by rfl) 27 (.tmp 56) (.tmp 55) rfl b2 0 v5 30 _ rfl rfl hX5.out (by simp) (by kernel_rfl) (own_slice ho5.out).1 (own_slice ho5.out).2 ?_
              obtain ⟨V6, hv6⟩ : ∃ V, V5.setCell ⟨b2, 0, none⟩ v5 = V := ⟨_, rfl⟩
              have hg6 : V5.grownBy V6 (some b2) := by rw [← hv6]; exact grown_setCell _ _ _ _
              have hS6 : Hid (Keep (fun j => j = b2) A V6) := hS5.out.trans (Keep.grown (S := fun j => j = b2) hg6 rfl) (fun _ hj _ => hj)
              have hX6 : Hid (Blk V6 b2 30 [v5, dv]) := by rw [← hv6]; exact hX5.out.set 0 v5
              have hO6 : Hid (V6.ownsRow A.heap.size 92 34 v5 (0 + n + 1) ([] ++ cs ++ f.cells)) := own_sameR ho5.out (fun g h1 h2 => hg6.block g h2 (fun e => by cases e; have := HL.out; omega))
              rw [hv6]
              clear hv6 hg6
              refine hK1.out _ _ hS6.out ?_
              clear hK1
              intro _
              try simp only [Act.put, List.setIfInBounds_toArray, List.set_cons_zero, List.set_cons_succ]
              refine wpAnyH_done (by kernel_rfl) ?_ _
              exact hQ V6 _ _ _ _ hO6.out hX6.out hS6.out
set_option maxRecDepth 100000 in
set_option maxHeartbeats 4000000 in
theorem rpo11 {Q : Exit → Act → World → Prop} {x0 x1 x2 x3 x5 x6 x7 x9 x10 x11 x12 x13 x14 x15 x16 x17 x18 x19 x20 x21 x22 x23 x24 x25 x26 x27 x28 x29 x30 x31 x32 x33 x34 x35 x36 x37 x38 x39 x40 x41 x42 x43 x44 x45 x46 x47 x48 x49 x50 x51 x52 x53 x54 x55 x56 x57 x58 x59 x60 : Value} {ds : List Deferred} {A : World} {b2 b8 ne ec : Nat} {ea : Option Addr} {dv : Value}
    (HX : Hid (Blk A b2 30 [.slice ea ne ec, dv] ∧ ¬ (b2 = b8))) (HB8 : Hid (Blk A b8 30 [.slice none 0 0, .slice none 0 0])) (HON : Hid (∀ v ∈ [.slice ea ne ec, dv], v.oneCell' = true))
    (hQ : ∀ V1, Blk V1 b8 30 [.slice ea ne ec, dv] → Keep (fun j => j = b8) A V1 → Q .normal { tmps := #[x0, x1, x2, x3, .pointer (some ⟨b2, 0, none⟩), x5, x6, x7, .pointer (some ⟨b8, 0, none⟩), iv (ne : Int), iv 0, x11, x12, x13, x14, x15, x16, x17, x18, x19, x20, x21, x22, x23, x24, x25, x26, x27, x28, x29, x30, x31, x32, x33, x34, x35, x36, x37, x38, x39, x40, x41, x42, x43, x44, x45, x46, x47, x48, x49, x50, x51, x52, x53, x54, x55, x56, .agg [.slice ea ne ec, dv].toArray, .pointer (some ⟨b2, 0, none⟩), .slice ea ne ec, iv (ne : Int)], defers := ds } V1) :
    (Code.region 11 #[{ dst := some 57, op := Op.load 30 (Operand.tmp 4), type := 30, pos := "ref.go:96", after := #[], guard := none }, { dst := some 58, op := Op.fieldAddr 30 (Operand.tmp 4) 0, type := 0, pos := "ref.go:96", after := #[], guard := none }, { dst := some 59, op := Op.load 27 (Operand.tmp 58), type := 27, pos := "ref.go:96", after := #[{ on := 1, ground := Ground.data }], guard := none }, { dst := some 60, op := Op.call { callee := Callee.builtin Builtin.len, args := #[Operand.tmp 59], argTypes := #[27] }, type := 3, pos := "ref.go:96", after := #[{ on := 2, ground := Ground.data }], guard := none }, { dst := none, op := Op.store 30 (Operand.tmp 8) (Operand.tmp 57), type := 0, pos := "ref.go:96", after := #[{ on := 0, ground := Ground.data }, { on := 0, ground := Ground.phase }, { on := 1, ground := Ground.textOnly Departure.lateStores }, { on := 2, ground := Ground.textOnly Departure.lateStores }, { on := 3, ground := Ground.textOnly Departure.lateStoresUnsure }], guard := none }, { dst := some 9, op := Op.assign (Operand.tmp 60), type := 3, pos := "ref.go:96", after := #[{ on := 3, ground := Ground.data }, { on := 4, ground := Ground.chain }, { on := 0, ground := Ground.phase }, { on := 1, ground := Ground.phase }, { on := 2, ground := Ground.phase }, { on := 3, ground := Ground.phase }, { on := 4, ground := Ground.phase }], guard := none }, { dst := some 10, op := Op.assign (Operand.const (Value.int IntKind.i64 0)), type := 3, pos := "ref.go:96", after := #[{ on := 5, ground := Ground.chain }, { on := 0, ground := Ground.phase }, { on := 1, ground := Ground.phase }, { on := 2, ground := Ground.phase }, { on := 3, ground := Ground.phase }, { on := 4, ground := Ground.phase }, { on := 5, ground := Ground.phase }], guard := none }] true).wp Try.prog Q { tmps := #[x0, x1, x2, x3, .pointer (some ⟨b2, 0, none⟩), x5, x6, x7, .pointer (some ⟨b8, 0, none⟩), x9, x10, x11, x12, x13, x14, x15, x16, x17, x18, x19, x20, x21, x22, x23, x24, x25, x26, x27, x28, x29, x30, x31, x32, x33, x34, x35, x36, x37, x38, x39, x40, x41, x42, x43, x44, x45, x46, x47, x48, x49, x50, x51, x52, x53, x54, x55, x56, x57, x58, x59, x60], defers := ds } A := by
  refine Code.wp_mono (Q := fun x a' w' => match x with | .normal => Q .normal a' w' | _ => False) (by intro x a' w' h; cases x <;> first | exact h | exact h.elim) ?_
  refine wp_region_held (S := fun V => Keep (fun j => j = b8) A V) (by kernel_rfl) ?_
  have hS0 : Hid (Keep (fun j => j = b8) A A.drew) := (Keep.refl _ A).drew
  change wpAnyH Try.prog .any _ _ (fun V => Keep (fun j => j = b8) A V) 7 (Array.replicate 7 false) _ A.drew
  obtain ⟨V0, hV0⟩ : ∃ V0, A.drew = V0 := ⟨_, rfl⟩
  rw [hV0]
  rw [hV0] at hS0
  have hX0 : Hid (Blk V0 b8 30 [.slice none 0 0, .slice none 0 0]) := by rw [← hV0]; exact HB8.out
  clear hV0
  refine wpAnyH_take (i := 0) (oi := { dst := some 57, op := Op.load 30 (Operand.tmp 4), type := 30, pos := "ref.go:96", after := #[], guard := none }) (v := .agg [.slice ea ne ec, dv].toArray) rfl (by kernel_rfl) (by kernel_rfl) (by kernel_rfl) (fun _ _ _ h => h.elim) (yieldsIf_load_mid (by rfl) _ _ rfl _ _ rfl ([.slice ea ne ec, dv]) _ (fun V hV => rangeAt_same (HX.out.1.range0) ((show Keep (fun j => j = b8) A V from hV).block _ (HX.out.1.lt) (HX.out.2))) Try.underlying30 rfl (size30)) hS0.out ?_
  simp only [Act.put, List.setIfInBounds_toArray, List.set_cons_zero, List.set_cons_succ]
  refine wpAnyH_take (i := 1) (oi := { dst := some 58, op := Op.fieldAddr 30 (Operand.tmp 4) 0, type := 0, pos := "ref.go:96", after := #[], guard := none }) (v := .pointer (some ⟨b2, 0, none⟩)) rfl (by kernel_rfl) (by kernel_rfl) (by kernel_rfl) (fun _ _ _ h => h.elim) (Or.inl ⟨by rfl, ?y1⟩) hS0.out ?_
  case y1 =>
    intro V hV
    go_simp
  simp only [Act.put, List.setIfInBounds_toArray, List.set_cons_zero, List.set_cons_succ]
  refine wpAnyH_take (i := 2) (oi := { dst := some 59, op := Op.load 27 (Operand.tmp 58), type := 27, pos := "ref.go:96", after := #[{ on := 1, ground := Ground.data }], guard := none }) (v := .slice ea ne ec) rfl (by kernel_rfl) (by kernel_rfl) (by kernel_rfl) (fun _ _ _ h => h.elim) (Or.inl ⟨by rfl, ?y2⟩) hS0.out ?_
  case y2 =>
    intro V hV
    have hc : V.cell? ⟨b2, 0, none⟩ = some (.slice ea ne ec) := (World.cell?_of_block (a := ⟨b2, 0, none⟩) ((show Keep (fun j => j = b8) A V from hV).block b2 HX.out.1.lt HX.out.2)).trans (HX.out.1.cell rfl)
    go_simp
  simp only [Act.put, List.setIfInBounds_toArray, List.set_cons_zero, List.set_cons_succ]
  refine wpAnyH_take (i := 3) (oi := { dst := some 60, op := Op.call { callee := Callee.builtin Builtin.len, args := #[Operand.tmp 59], argTypes := #[27] }, type := 3, pos := "ref.go:96", after := #[{ on := 2, ground := Ground.data }], guard := none }) (v := iv (ne : Int)) rfl (by kernel_rfl) (by kernel_rfl) (by kernel_rfl) (fun _ _ _ h => h.elim) (Or.inl ⟨by rfl, ?y3⟩) hS0.out ?_
  case y3 =>
    intro V hV
    go_simp
  simp only [Act.put, List.setIfInBounds_toArray, List.set_cons_zero, List.set_cons_succ]
  refine wpAnyH_ready (rs := [4]) (by kernel_rfl) (by simp) (AllReadyH.cons (i := 4) (o := { dst := none, op := Op.store 30 (Operand.tmp 8) (Operand.tmp 57), type := 0, pos := "ref.go:96", after := #[{ on := 0, ground := Ground.data }, { on := 0, ground := Ground.phase }, { on := 1, ground := Ground.textOnly Departure.lateStores }, { on := 2, ground := Ground.textOnly Departure.lateStores }, { on := 3, ground := Ground.textOnly Departure.lateStoresUnsure }], guard := none }) rfl ?_ AllReadyH.nil)
  · intro K1 hK1
    refine step_stB (by rfl) 30 (.tmp 8) (.tmp 57) rfl b8 [.slice ea ne ec, dv] 30 _ rfl rfl hX0.out (by simp) size30 HON.out ?_
    intro V1 hr1 hg1
    have hS1 : Hid (Keep (fun j => j = b8) A V1) := hS0.out.trans (Keep.grown (S := fun j => j = b8) hg1.out rfl) (fun _ hj _ => hj)
    have hX1 : Hid (Blk V1 b8 30 [.slice ea ne ec, dv]) := hr1.out
    clear hr1 hg1
    refine hK1.out _ _ hS1.out ?_
    clear hK1
    intro _
    try simp only [Act.put, List.setIfInBounds_toArray, List.set_cons_zero, List.set_cons_succ]
    refine wpAnyH_take (i := 5) (oi := { dst := some 9, op := Op.assign (Operand.tmp 60), type := 3, pos := "ref.go:96", after := #[{ on := 3, ground := Ground.data }, { on := 4, ground := Ground.chain }, { on := 0, ground := Ground.phase }, { on := 1, ground := Ground.phase }, { on := 2, ground := Ground.phase }, { on := 3, ground := Ground.phase }, { on := 4, ground := Ground.phase }], guard := none }) (v := iv (ne : Int)) rfl (by kernel_rfl) (by kernel_rfl) (by kernel_rfl) (fun _ _ _ h => h.elim) (Or.inl ⟨by rfl, ?y4⟩) hS1.out ?_
    case y4 =>
      intro V hV
      go_simp
    simp only [Act.put, List.setIfInBounds_toArray, List.set_cons_zero, List.set_cons_succ]
    refine wpAnyH_take (i := 6) (oi := { dst := some 10, op := Op.assign (Operand.const (Value.int IntKind.i64 0)), type := 3, pos := "ref.go:96", after := #[{ on := 5, ground := Ground.chain }, { on := 0, ground := Ground.phase }, { on := 1, ground := Ground.phase }, { on := 2, ground := Ground.phase }, { on := 3, ground := Ground.phase }, { on := 4, ground := Ground.phase }, { on := 5, ground := Ground.phase }], guard := none }) (v := iv 0) rfl (by kernel_rfl) (by kernel_rfl) (by kernel_rfl) (fun _ _ _ h => h.elim) (Or.inl ⟨by rfl, ?y5⟩) hS1.out ?_
    case y5 =>
      intro V hV
      go_simp
    simp only [Act.put, List.setIfInBounds_toArray, List.set_cons_zero, List.set_cons_succ]
    refine wpAnyH_done (by kernel_rfl) ?_ _
    exact hQ V1 hX1.out hS1.out
end Go.Proofs.Ytaecigpjcbjcbaa.Oct

/- Layer 20 (review): the document's board: Propose. -/
namespace Go.Proofs.Ytaecigpjcbjcbaa.Oct
open Go.RowKit
set_option linter.unusedSimpArgs false
set_option linter.unusedVariables false

def dupB (R : Rb) (ch : BA) (h : Hs) (k : Nat) : Bool := match R.L[k - 1]? with
  | some m => decide (m.ch = ch) && decide (m.h = h)
  | none => false
def rPropose (R : Rb) (au ch : BA) (h : Hs) : Rb × Int × Int := if (openN R R.L.length).any (dupB R ch h) = true then (R, 0, 110) else if 64 ≤ (openN R R.L.length).length then (R, 0, 3) else ({ R with L := R.L ++ [⟨au, ch, h⟩] }, (R.L.length : Int) + 1, 0)
theorem openN_mem (R : Rb) : ∀ n k, k ∈ openN R n → 1 ≤ k ∧ k ≤ n
  | 0, k, h => by simp [openN] at h
  | n + 1, k, h => by
    unfold openN at h
    rcases List.mem_append.1 h with h | h
    · have := openN_mem R n k h
      omega
    · split at h
      · simp at h; omega
      · simp at h
theorem results_cell2 {fn : Func} {p u u2 : Tmp} {ty : TypeId} (h : fn.results = #[.cell p ty, .tmp u, .tmp u2]) (tmps : Array Value) (P : Program) (w : World) :
    (results fn tmps).run P w = ((asAddr (tmps.getD p undef)).run P w).andThen fun a w₁ => ((loadVar ty a).run P w₁).andThen fun v w₂ => .ok (.tuple #[v, tmps.getD u undef, tmps.getD u2 undef]) w₂ := by
  simp only [results, h]
  simp [Sem.run_bind, Result.andThen]
/-- numbers that are read, from their row's beginning -/
def RN (w : World) (a : Option Addr) (n : Nat) (l : List Nat) : Prop := 0 < n → ∃ g, a = some ⟨g, 0, none⟩ ∧ g < w.heap.size ∧ ∀ (i k : Nat), l[i]? = some k → w.cell? ⟨g, i, none⟩ = some (iv (k : Int))
theorem RN.below {w w' : World} {a : Option Addr} {n : Nat} {l : List Nat} (h : RN w a n l) (hb : Below w.heap.size w w') : RN w' a n l := fun hp => by
  obtain ⟨g, e, h1, h2⟩ := h hp
  exact ⟨g, e, Nat.lt_of_lt_of_le h1 hb.size, fun i k hk => (hb.cell (p := ⟨g, i, none⟩) h1).trans (h2 i k hk)⟩
theorem RN.of {w : World} {B n c : Nat} {a : Option Addr} {l : List Nat} (h : w.ownsRow B 3 1 (.slice a n c) n (opnC l)) : RN w a n l := fun hp => by
  obtain ⟨a', c', e, _, _, _, _, h5⟩ := SV.own h (opn_one l)
  cases e
  rcases h5 with ⟨_, rfl⟩ | ⟨g, rfl, hg, hc⟩
  · rcases h.2 with ⟨_, e⟩ | ⟨_, _, _, _, _, _, e, _⟩ <;> omega
  · exact ⟨g, rfl, hg, fun i k hk => hc i _ (by simp [opnC, hk])⟩
theorem rret30uu {R : Ending → World → Prop} {fn : Func} {pt u u2 : Tmp} {a : Act} {w : World} {g : Nat} {X : List Value} (hr : fn.results = #[.cell pt 30, .tmp u, .tmp u2]) (hd : a.defers = []) (hp : a.tmps.getD pt undef = .pointer (some ⟨g, 0, none⟩)) (hl : X.length = 2)
    (hb : Blk w g 30 X) (hR : R (.returned (.tuple #[.agg X.toArray, a.tmps.getD u undef, a.tmps.getD u2 undef])) w) : bodyPost Try.prog fn R .ret a w := by
  have hl := run_loadVar_mid (P := Try.prog) w g 0 30 X _ (by have := hb.range 0 2; rwa [List.drop_zero, List.take_of_length_le (by omega)] at this) Try.underlying30 rfl (by rw [hl]; exact size30)
  refine bodyPost_ret (v := .tuple #[.agg X.toArray, a.tmps.getD u undef, a.tmps.getD u2 undef]) ?_ hd hR
  rw [results_cell2 hr, hp]
  simp [asAddr, hl, Result.andThen]
def Ro3 (w : World) (lv dv : Value) (q : Rb × Int × Int) (e : Ending) (w' : World) : Prop := ∃ lv' dv', e = .returned (.tuple #[.agg #[lv', dv'], iv q.2.1, iv q.2.2]) ∧ Hid (RBt w' lv' dv' q.1 ∧ Below w.heap.size w w' ∧ New w lv lv' ∧ New w dv dv')
theorem mkC_app (F G : List Mk) : mkC (F ++ G) = mkC F ++ mkC G := by simp [mkC]
theorem mkC_one (F : List Mk) : ∀ u ∈ mkC F, u.oneCell' = true := by
  intro u hu
  obtain ⟨f, _, hf⟩ := List.mem_flatMap.1 hu
  exact Mk.one f u hf
set_option maxRecDepth 100000 in
set_option maxHeartbeats 4000000 in
theorem rpropose_is {w : World} {lv dv : Value} {R : Rb} (h : RBt w lv dv R) (au : BA) (ch : BA) (h0 : Hs) (hh : h0.length = 32) (hL : R.L.length + 1 ≤ 1000) : Calls Try.prog 31 #[.agg #[lv, dv], .string au, .string ch, .agg (U h0).toArray] w (Ro3 w lv dv (rPropose R au ch h0)) := by
  obtain ⟨nl, hnl⟩ : ∃ m, R.L.length = m := ⟨_, rfl⟩
  obtain ⟨nd, hnd⟩ : ∃ m, R.D.length = m := ⟨_, rfl⟩
  obtain ⟨la, lc, rfl, _⟩ := h.l
  obtain ⟨da, dc, rfl, _⟩ := h.d
  rw [hnl, hnd] at h ⊢
  obtain ⟨b, hb⟩ : ∃ b, w.heap.size = b := ⟨_, rfl⟩
  obtain ⟨uh, huh⟩ : ∃ l, U h0 = l := ⟨_, rfl⟩
  have HUH : Hid (U h0 = uh ∧ h0.length = 32) := ⟨huh, hh⟩
  have HLL : Hid (R.L.length + 1 ≤ 1000) := hL
  obtain ⟨q, hq⟩ : ∃ q, rPropose R au ch h0 = q := ⟨_, rfl⟩
  have HQ : Hid (rPropose R au ch h0 = q) := hq
  rw [hq, huh]
  have hz30 := zero30
  obtain ⟨A, hA⟩ : ∃ A, ((w.alloc (.cells #[.slice la nl lc, .slice da nd dc] 30)).alloc (.cells uh.toArray 32)).alloc (.cells #[.slice none 0 0, .slice none 0 0] 30) = A := ⟨_, rfl⟩
  have hB : Below w.heap.size w A := by rw [← hA]; exact (((Below.refl _ w).alloc (Nat.le_refl _) _).alloc (by simp) _).alloc (by simp; omega) _
  have h2 : Blk A b 30 [.slice la nl lc, .slice da nd dc] := by rw [← hA, ← hb]; exact ((Blk.new w _ _).alloc _).alloc _
  have h3 : Blk A (b + 1) 32 uh := by
    rw [← hA, ← hb]
    have := (Blk.new (w.alloc (.cells #[.slice la nl lc, .slice da nd dc] 30)) uh.toArray 32).alloc (.cells #[.slice none 0 0, .slice none 0 0] 30)
    rw [World.size_alloc] at this
    simpa using this
  have h4 : Blk A (b + 1 + 1) 30 [.slice none 0 0, .slice none 0 0] := by
    rw [← hA, ← hb]
    have := Blk.new ((w.alloc (.cells #[.slice la nl lc, .slice da nd dc] 30)).alloc (.cells uh.toArray 32)) #[.slice none 0 0, .slice none 0 0] 30
    rwa [World.size_alloc, World.size_alloc] at this
  have HA0 : Hid (RBt w (.slice la nl lc) (.slice da nd dc) R) := h
  have HA : Hid (Below w.heap.size w A ∧ Blk A b 30 [.slice la nl lc, .slice da nd dc] ∧ RBt A (.slice la nl lc) (.slice da nd dc) R ∧ Blk A (b + 1) 32 uh ∧ Blk A (b + 1 + 1) 30 [.slice none 0 0, .slice none 0 0]) := ⟨hB, h2, h.below hB, h3, h4⟩
  have HN : Hid (R.L.length = nl ∧ R.D.length = nd ∧ w.heap.size = b) := ⟨hnl, hnd, hb⟩
  have ql : (nl : Int) ≤ 1000 := by have := h.nl; omega
  have qd : (nd : Int) ≤ 1000 := by have := h.nd; omega
  clear h hnl hnd hB h2 h3 h4 hq huh hh hL
  go_enter Try.func31, Try.ntmps31
  go_wp2_with (with_reducible change wpList _ _ _ ({ dst := some 14, op := _, type := _, pos := _, after := _, guard := _ } :: _) _ _; refine Hid.out ?_)
  show wpList _ _ _ _ _ _
  refine wpList_load_row rfl 30 (.tmp 4) rfl b rfl 30 #[.slice la nl lc, .slice da nd dc] (0, 0) _ HA.out.2.1 Try.underlying30 rfl size30 ?_
  simp only [Act.put, List.setIfInBounds_toArray, List.set_cons_zero, List.set_cons_succ]
  have HC := rOpen_is HA.out.2.2.1
  go_wp2_with fail
  refine HC.mono ?_
  rintro e V ⟨v', rfl, ho, hbV⟩
  have HV : Hid (Below w.heap.size w V ∧ Blk V b 30 [.slice la nl lc, .slice da nd dc] ∧ RBt V (.slice la nl lc) (.slice da nd dc) R ∧ Blk V (b + 1) 32 uh ∧ Blk V (b + 1 + 1) 30 [.slice none 0 0, .slice none 0 0]) := ⟨below_tr HA.out.1 hbV, HA.out.2.1.below hbV HA.out.2.1.lt, HA.out.2.2.1.below hbV, HA.out.2.2.2.1.below hbV HA.out.2.2.2.1.lt, HA.out.2.2.2.2.below hbV HA.out.2.2.2.2.lt⟩
  obtain ⟨ol, hol⟩ : ∃ l, openN R R.L.length = l := ⟨_, rfl⟩
  rw [hol] at ho
  obtain ⟨no, hno⟩ : ∃ n, ol.length = n := ⟨_, rfl⟩
  rw [hno] at ho
  obtain ⟨sl, hsl⟩ := own_sl ho
  subst hsl
  have hsn : sl.n = no := by
    rcases ho.2 with ⟨e, e2⟩ | ⟨_, _, _, e, _⟩
    · injection e with e1 e3 e4; omega
    · injection e with e1 e3 e4
  rw [hsn] at ho ⊢
  have HOL : Hid (openN R R.L.length = ol ∧ ol.length = no ∧ no ≤ 1000) := ⟨hol, hno, by rw [← hno, ← hol]; have := openN_len R R.L.length; have := HLL.out; omega⟩
  have HSL : Hid (RN V sl.a no ol) := RN.of ho
  have qo : (no : Int) ≤ 1000 := by have := HOL.out.2.2; omega
  obtain ⟨sa, hsa⟩ : ∃ a, sl.a = a := ⟨_, rfl⟩
  obtain ⟨sc, hsc⟩ : ∃ a, sl.c = a := ⟨_, rfl⟩
  rw [hsa, hsc]
  rw [hsa] at HSL
  clear HC hbV ho hol hno hsn hb hA HA hsa hsc
  go_wp2
  go_loopw [12] (fun u wr => ∃ i : Nat, u = iv i ∧ Hid (i ≤ no ∧ (ol.take i).any (dupB R ch h0) = false) ∧ Hid (Below w.heap.size w wr ∧ Blk wr b 30 [.slice la nl lc, .slice da nd dc] ∧ RBt wr (.slice la nl lc) (.slice da nd dc) R ∧ Blk wr (b + 1) 32 uh ∧ Blk wr (b + 1 + 1) 30 [.slice none 0 0, .slice none 0 0]) ∧ Hid (RN wr sa no ol)) (fun u _ => no - (intOf u).toNat)
  case atStart => exact ⟨0, rfl, ⟨Nat.zero_le _, rfl⟩, HV.out, HSL.out⟩
  case round =>
    obtain ⟨i, rfl, HI, HW, HSW⟩ := hrel
    by_cases hi : i = no
    · have q1 : (no : Int) ≤ (i : Int) := by omega
      have HND2 : Hid (ol.any (dupB R ch h0) = false) := by
        show _ = _
        have := HI.out.2
        rwa [hi, ← HOL.out.2.1, List.take_length] at this
      clear hi
      by_cases h64 : (64 : Int) ≤ (no : Int)
      · have HF : Hid (q = (R, 0, 3)) := by
          show _ = _
          rw [← HQ.out]; unfold rPropose; rw [HOL.out.1, HND2.out, if_neg (by simp), if_pos (by rw [HOL.out.2.1]; omega)]
        go_wp2_with (with_reducible change wpList _ _ _ ({ dst := some 45, op := _, type := _, pos := _, after := _, guard := _ } :: _) _ _; refine Hid.out ?_)
        show wpList _ _ _ _ _ _
        refine wpList_load_row rfl 30 (.tmp 4) rfl b rfl 30 #[.slice la nl lc, .slice da nd dc] (0, 0) _ HW.out.2.1 Try.underlying30 rfl size30 ?_
        simp only [Act.put, List.setIfInBounds_toArray, List.set_cons_zero, List.set_cons_succ]
        have HRV : Hid (Below w.heap.size w wr ∧ RBt wr (.slice la nl lc) (.slice da nd dc) R ∧ Blk wr (b + 1 + 1) 30 [.slice none 0 0, .slice none 0 0] ∧ New w (.slice la nl lc) (.slice la nl lc) ∧ New w (.slice da nd dc) (.slice da nd dc)) := ⟨HW.out.1, HW.out.2.2.1, HW.out.2.2.2.2, .inl rfl, .inl rfl⟩
        go_wp2_with (with_reducible change wpList _ _ _ ({ dst := none, op := Op.store 30 _ _, type := _, pos := _, after := _, guard := _ } :: _) _ _; refine Hid.out ?_)
        show wpList _ _ _ _ _ _
        refine wpList_store_blk rfl 30 (.tmp 8) (.tmp 45) rfl (b + 1 + 1) 0 30 [.slice none 0 0, .slice none 0 0] [.slice la nl lc, .slice da nd dc] rfl rfl HRV.out.2.2.1 (by simp) size30 (two HRV.out.2.1) ?_
        intro Ve hbe hge
        have HE : Hid (Blk Ve (b + 1 + 1) 30 [.slice la nl lc, .slice da nd dc] ∧ RBt Ve (.slice la nl lc) (.slice da nd dc) R ∧ Below w.heap.size w Ve ∧ New w (.slice la nl lc) (.slice la nl lc) ∧ New w (.slice da nd dc) (.slice da nd dc)) := by
          have hn := HN.out.2.2
          have hbw : Below w.heap.size w Ve := HRV.out.1.grown hge.out HRV.out.1.size (fun j hj => by cases hj; omega)
          exact ⟨by simpa using hbe.out, rb_other HRV.out.2.1 HRV.out.2.2.1 hge.out, hbw, HRV.out.2.2.2⟩
        clear hbe hge
        go_wp2_with fail
        refine rret30uu rfl rfl rfl rfl HE.out.1 ?_
        exact ⟨_, _, by rw [HF.out]; rfl, by rw [HF.out]; exact HE.out.2⟩
      · have h63 : (no : Int) < 64 := by omega
        have HF : Hid (q = ({ R with L := R.L ++ [⟨au, ch, h0⟩] }, (nl : Int) + 1, 0)) := by
          show _ = _
          rw [← HQ.out]; unfold rPropose; rw [HOL.out.1, HND2.out, if_neg (by simp), if_neg (by rw [HOL.out.2.1]; omega), HN.out.1]
        clear h64
        obtain ⟨i0, z, e1, e2, e3, e4, e5⟩ := info92
        have HI0 : Hid (Try.prog.info? 92 = some i0 ∧ i0.zero = some z ∧ i0.size = 34 ∧ i0.bytes ≤ 1000 ∧ z.cells.size = 34) := ⟨e1, e2, e3, e4, e5⟩
        have HL : Hid (b < wr.heap.size) := HW.out.2.1.lt
        have HFL : Hid ((⟨au, ch, h0⟩ : Mk).h.length = 32) := HUH.out.2
        have HXX : Hid (Blk wr b 30 [.slice la nl lc, .slice da nd dc]) := HW.out.2.1
        have HR : Hid (∀ V, Keep (fun j => j = b) wr V → Rx V la nl 34 (mkC R.L)) := fun V hV => by
          have h1 := HA0.out.l
          rw [HN.out.1] at h1
          have h2 := h1.rx
          obtain ⟨a', c', e', _, _, _, _, h5⟩ := h1
          cases e'
          refine ⟨h2.1, h2.2.1, fun hp => ?_⟩
          rcases h5 with ⟨e, e'⟩ | ⟨g, e, hg, hx⟩
          · obtain ⟨g', off, e9, _⟩ := h2.2.2 hp
            rw [e] at e9
            cases e9
          · have hB := HW.out.1
            have hbb := HN.out.2.2
            exact ⟨g, 0, e, fun j u hu => by rw [Nat.zero_add]; exact (World.cell?_of_block (a := ⟨g, j, none⟩) ((hV.block g (Nat.lt_of_lt_of_le hg hB.size) (by omega)).trans (hB.block g hg))).trans (hx j u hu)⟩
        have HNn : Hid (nl ≤ 100000) := by show _ ≤ _; omega
        have HF3 : Hid (wr.rangeAt (b + 1) 0 (U (⟨au, ch, h0⟩ : Mk).h) ∧ b + 1 < wr.heap.size ∧ ¬ (b + 1 = b)) := ⟨by have := HW.out.2.2.2.1.range0; rw [← HUH.out.1] at this; exact this, HW.out.2.2.2.1.lt, by omega⟩
        clear e1 e2 e3 e4 e5
        go_wp2_with fail
        refine rpo10 (f := ⟨au, ch, h0⟩) HL HFL HXX HR HNn HI0 HF3 ?_
        intro V1 v1 v2 q5 nb hown hbk hkp
        have hown2 : V1.ownsRow wr.heap.size 92 34 v2 (nl + 1) (mkC (R.L ++ [⟨au, ch, h0⟩])) := by
          rw [List.nil_append, Nat.zero_add] at hown
          rw [mkC_app, show mkC [(⟨au, ch, h0⟩ : Mk)] = (⟨au, ch, h0⟩ : Mk).cells by simp [mkC]]
          exact hown
        obtain ⟨s2, hs2⟩ := own_sl hown2
        subst hs2
        have hsn : s2.n = nl + 1 := by
          rcases hown2.2 with ⟨e, e2⟩ | ⟨_, _, _, e, _⟩
          · injection e with e1 e3 e4; omega
          · injection e with e1 e3 e4
        rw [hsn] at hown2 hbk ⊢
        have HV1 : Hid (V1.ownsRow wr.heap.size 92 34 (.slice s2.a (nl + 1) s2.c) (nl + 1) (mkC (R.L ++ [⟨au, ch, h0⟩])) ∧ Blk V1 b 30 [.slice s2.a (nl + 1) s2.c, .slice da nd dc] ∧ Keep (fun j => j = b) wr V1 ∧ Blk V1 (b + 1 + 1) 30 [.slice none 0 0, .slice none 0 0]) := ⟨hown2, hbk, hkp, hkp.blk HW.out.2.2.2.2 (by omega)⟩
        clear hown hown2 hbk hkp HR HXX HL HNn HF3 hsn
        have HX1 : Hid (Blk V1 b 30 [.slice s2.a (nl + 1) s2.c, .slice da nd dc] ∧ ¬ (b = b + 1 + 1)) := ⟨HV1.out.2.1, by omega⟩
        have HB8 : Hid (Blk V1 (b + 1 + 1) 30 [.slice none 0 0, .slice none 0 0]) := HV1.out.2.2.2
        have HON : Hid (∀ v ∈ [Value.slice s2.a (nl + 1) s2.c, Value.slice da nd dc], v.oneCell' = true) := by
          intro v hv
          simp at hv
          rcases hv with rfl | rfl <;> rfl
        go_wp2_with fail
        refine rpo11 HX1 HB8 HON ?_
        intro V2 hb2 hk2
        have HE : Hid (Blk V2 (b + 1 + 1) 30 [.slice s2.a (nl + 1) s2.c, .slice da nd dc] ∧ RBt V2 (.slice s2.a (nl + 1) s2.c) (.slice da nd dc) { R with L := R.L ++ [⟨au, ch, h0⟩] } ∧ Below w.heap.size w V2 ∧ New w (.slice la nl lc) (.slice s2.a (nl + 1) s2.c) ∧ New w (.slice da nd dc) (.slice da nd dc)) := by
          have hbb := HN.out.2.2
          have kA : Keep (fun j => j = b ∨ j = b + 1 + 1) wr V2 := (HV1.out.2.2.1.mono (T := fun j => j = b ∨ j = b + 1 + 1) (fun j _ hj => .inl hj)).trans (hk2.mono (T := fun j => j = b ∨ j = b + 1 + 1) (fun j _ hj => .inr hj)) (fun _ hj _ => hj)
          have hbw : Below w.heap.size w V2 := HW.out.1.trans (kA.toBelow HW.out.1.size (fun j hj => by rcases hj with e | e <;> omega))
          have hown : V2.ownsRow wr.heap.size 92 34 (.slice s2.a (nl + 1) s2.c) (nl + 1) (mkC (R.L ++ [⟨au, ch, h0⟩])) := own_sameR HV1.out.1 (fun g h1 h2 => hk2.block g h2 (fun e => by have := HW.out.2.2.2.2.lt; omega))
          have hlen : (R.L ++ [(⟨au, ch, h0⟩ : Mk)]).length = nl + 1 := by rw [List.length_append, HN.out.1]; rfl
          have hr := HA0.out.below hbw
          refine ⟨hb2, ⟨by rw [show ({ R with L := R.L ++ [⟨au, ch, h0⟩] } : Rb).L.length = nl + 1 from hlen]; exact SV.own hown (mkC_one _), hr.d, fun m hm => ?_, hr.ks, ?_, hr.nd⟩, hbw, .inr fun g hg => Nat.le_trans HW.out.1.size (own_new hown g hg), .inl rfl⟩
          · rcases List.mem_append.1 hm with hm | hm
            · exact hr.hs m hm
            · simp at hm; subst hm; exact HUH.out.2
          · show (R.L ++ [_]).length ≤ 1000
            have := HLL.out
            rw [List.length_append]
            exact this
        clear hb2 hk2 HX1 HB8 HON HV1
        go_wp2_with fail
        refine rret30uu rfl rfl rfl rfl HE.out.1 ?_
        exact ⟨.slice s2.a (nl + 1) s2.c, .slice da nd dc, by rw [HF.out]; simp, by rw [HF.out]; exact HE.out.2⟩
    · have q2 : i < no := by have := HI.out.1; omega
      have q1 : (i : Int) < (no : Int) := by omega
      have HI2 : Hid (i < no) := q2
      obtain ⟨ga, hsa, hga, hca⟩ := HSW.out (by omega)
      subst hsa
      obtain ⟨k, hk⟩ : ∃ k, ol[i]? = some k := ⟨_, List.getElem?_eq_getElem (by rw [HOL.out.2.1]; exact q2)⟩
      have hkm := openN_mem R R.L.length k (by rw [HOL.out.1]; exact List.mem_of_getElem? hk)
      obtain ⟨j, rfl⟩ : ∃ j, k = j + 1 := ⟨k - 1, by omega⟩
      have hjl : j < nl := by have := HN.out.1; omega
      obtain ⟨g1, m, ha, hg1, hm, hml, hra⟩ := HW.out.2.2.1.made hjl
      subst ha
      have k1 : wr.cell? ⟨ga, i, none⟩ = some (iv ((j : Int) + 1)) := by have := hca i _ hk; rwa [show (((j + 1 : Nat) : Int)) = (j : Int) + 1 by omega] at this
      have k0 : wr.cell? ⟨b, 0, none⟩ = some (.slice (some ⟨g1, 0, none⟩) nl lc) := HW.out.2.1.cell rfl
      have HL : Hid (b < wr.heap.size ∧ ga < wr.heap.size) := ⟨HW.out.2.1.lt, hga⟩
      have HG : Hid (wr.rangeAt g1 (j * 34) m.cells ∧ g1 < wr.heap.size ∧ m.h.length = 32) := ⟨hra, hg1, hml⟩
      have HIX : Hid ((i : Int) < (no : Int) ∧ i < no ∧ (j : Int) < (nl : Int) ∧ j < nl ∧ j ≤ 1000000) := ⟨q1, q2, by omega, hjl, by omega⟩
      have HM : Hid (R.L[j]? = some m ∧ ol[i]? = some (j + 1)) := ⟨hm, hk⟩
      clear hi hca hk hkm hjl hg1 hm hml hra hga
      go_wp2_with fail
      refine rpo5 HL k0 k1 HG HIX ?_
      intro V1 q5 hq1 hq2 hq3
      have HV1 : Hid (Below w.heap.size w V1 ∧ Blk V1 b 30 [.slice (some ⟨g1, 0, none⟩) nl lc, .slice da nd dc] ∧ RBt V1 (.slice (some ⟨g1, 0, none⟩) nl lc) (.slice da nd dc) R ∧ Blk V1 (b + 1) 32 uh ∧ Blk V1 (b + 1 + 1) 30 [.slice none 0 0, .slice none 0 0]) := ⟨below_tr HW.out.1 hq3, HW.out.2.1.below hq3 HW.out.2.1.lt, HW.out.2.2.1.below hq3, HW.out.2.2.2.1.below hq3 HW.out.2.2.2.1.lt, HW.out.2.2.2.2.below hq3 HW.out.2.2.2.2.lt⟩
      have HV1n : Hid (Below w.heap.size w V1 ∧ Blk V1 b 30 [.slice (some ⟨g1, 0, none⟩) nl lc, .slice da nd dc] ∧ RBt V1 (.slice (some ⟨g1, 0, none⟩) nl lc) (.slice da nd dc) R ∧ Blk V1 (b + 1) 32 uh ∧ Blk V1 (b + 1 + 1) 30 [.slice none 0 0, .slice none 0 0]) := HV1.out
      have HSL1 : Hid (RN V1 (some ⟨ga, 0, none⟩) no ol) := HSW.out.below hq3
      have HB5 : Hid (V1.rangeAt q5 2 (U m.h) ∧ m.h.length = 32) := ⟨(Mk.cell hq1.range0).2.2, HG.out.2.2⟩
      have kc : V1.cell? ⟨q5, 1, none⟩ = some (.string m.ch) := hq1.cell rfl
      clear hq1 hq2 hq3 HL HG HIX k0 k1
      by_cases hch : m.ch = ch
      · have e2 : (m.ch.toList == ch.toList) = true := by rw [eq_iff]; simpa using hch
        obtain ⟨r, hr⟩ : ∃ r, decide (m.h = h0) = r := ⟨_, rfl⟩
        have HRR : Hid (decide (m.h = h0) = r) := hr
        have hcmp : (Op.equalIn 10000 32 (.agg (U m.h).toArray) (.agg uh.toArray)).run Try.prog V1 = .ok r V1 := by rw [← HUH.out.1, ← hr]; exact eqH m.h h0 HB5.out.2 HUH.out.2 V1
        have HCH : Hid (m.ch = ch) := hch
        clear hr hch
        go_wp2_with (with_reducible change wpList _ _ _ ({ dst := some 37, op := _, type := _, pos := _, after := _, guard := _ } :: _) _ _; refine Hid.out ?_)
        show wpList _ _ _ _ _ _
        refine wpList_load_want rfl 32 (.tmp 36) rfl q5 2 rfl (U m.h) _ HB5.out.1 Try.underlying32 rfl (info32 _ HB5.out.2) ?_
        simp only [Act.put, List.setIfInBounds_toArray, List.set_cons_zero, List.set_cons_succ]
        go_wp2_with (with_reducible change wpList _ _ _ ({ dst := some 38, op := _, type := _, pos := _, after := _, guard := _ } :: _) _ _; refine Hid.out ?_)
        show wpList _ _ _ _ _ _
        refine wpList_load_want rfl 32 (.tmp 7) rfl (b + 1) 0 rfl uh _ HV1.out.2.2.2.1.range0 Try.underlying32 rfl (by rw [← HUH.out.1]; exact info32 _ HUH.out.2) ?_
        simp only [Act.put, List.setIfInBounds_toArray, List.set_cons_zero, List.set_cons_succ]
        cases r
        · have HX : Hid (i + 1 ≤ no ∧ (ol.take (i + 1)).any (dupB R ch h0) = false) := by
            refine ⟨HI2.out, ?_⟩
            rw [take_snoc HM.out.2, List.any_append, HI.out.2]
            simp [dupB, HM.out.1, HRR.out]
          go_wp2
          go_roundw
          case rel => exact ⟨i + 1, by simp, HX.out, HV1n.out, HSL1.out⟩
          case measure =>
            have := HI2.out
            simp only [intOf]
            omega
        · have HF : Hid (q = (R, 0, 110)) := by
            show _ = _
            rw [← HQ.out]; unfold rPropose; rw [HOL.out.1, if_pos]
            rw [List.any_eq_true]
            exact ⟨j + 1, List.mem_of_getElem? HM.out.2, by simp [dupB, HM.out.1, HRR.out, HCH.out]⟩
          go_wp2_with (with_reducible change wpList _ _ _ ({ dst := some 41, op := _, type := _, pos := _, after := _, guard := _ } :: _) _ _; refine Hid.out ?_)
          show wpList _ _ _ _ _ _
          refine wpList_load_row rfl 30 (.tmp 4) rfl b rfl 30 #[.slice (some ⟨g1, 0, none⟩) nl lc, .slice da nd dc] (0, 0) _ HV1.out.2.1 Try.underlying30 rfl size30 ?_
          simp only [Act.put, List.setIfInBounds_toArray, List.set_cons_zero, List.set_cons_succ]
          have HRV : Hid (Below w.heap.size w V1 ∧ RBt V1 (.slice (some ⟨g1, 0, none⟩) nl lc) (.slice da nd dc) R ∧ Blk V1 (b + 1 + 1) 30 [.slice none 0 0, .slice none 0 0] ∧ New w (.slice (some ⟨g1, 0, none⟩) nl lc) (.slice (some ⟨g1, 0, none⟩) nl lc) ∧ New w (.slice da nd dc) (.slice da nd dc)) := ⟨HV1.out.1, HV1.out.2.2.1, HV1.out.2.2.2.2, .inl rfl, .inl rfl⟩
          go_wp2_with (with_reducible change wpList _ _ _ ({ dst := none, op := Op.store 30 _ _, type := _, pos := _, after := _, guard := _ } :: _) _ _; refine Hid.out ?_)
          show wpList _ _ _ _ _ _
          refine wpList_store_blk rfl 30 (.tmp 8) (.tmp 41) rfl (b + 1 + 1) 0 30 [.slice none 0 0, .slice none 0 0] [.slice (some ⟨g1, 0, none⟩) nl lc, .slice da nd dc] rfl rfl HRV.out.2.2.1 (by simp) size30 (two HRV.out.2.1) ?_
          intro Ve hbe hge
          have HE : Hid (Blk Ve (b + 1 + 1) 30 [.slice (some ⟨g1, 0, none⟩) nl lc, .slice da nd dc] ∧ RBt Ve (.slice (some ⟨g1, 0, none⟩) nl lc) (.slice da nd dc) R ∧ Below w.heap.size w Ve ∧ New w (.slice (some ⟨g1, 0, none⟩) nl lc) (.slice (some ⟨g1, 0, none⟩) nl lc) ∧ New w (.slice da nd dc) (.slice da nd dc)) := by
            have hn := HN.out.2.2
            have hbw : Below w.heap.size w Ve := HRV.out.1.grown hge.out HRV.out.1.size (fun j hj => by cases hj; omega)
            exact ⟨by simpa using hbe.out, rb_other HRV.out.2.1 HRV.out.2.2.1 hge.out, hbw, HRV.out.2.2.2⟩
          clear hbe hge
          go_wp2_with fail
          refine rret30uu rfl rfl rfl rfl HE.out.1 ?_
          exact ⟨_, _, by rw [HF.out]; rfl, by rw [HF.out]; exact HE.out.2⟩
      · have e2 : (m.ch.toList == ch.toList) = false := by rw [eq_iff]; simpa using hch
        have HX : Hid (i + 1 ≤ no ∧ (ol.take (i + 1)).any (dupB R ch h0) = false) := by
          refine ⟨HI2.out, ?_⟩
          rw [take_snoc HM.out.2, List.any_append, HI.out.2]
          simp [dupB, HM.out.1, hch]
        clear hch
        go_wp2
        go_roundw
        case rel => exact ⟨i + 1, by simp, HX.out, HV1n.out, HSL1.out⟩
        case measure =>
          have := HI2.out
          simp only [intOf]
          omega
end Go.Proofs.Ytaecigpjcbjcbaa.Oct
