/-
  Layer 21 (queue): the reference: Step, Same.
-/
import Derived.Test.YtipipckbcelphaaWRfs
namespace Go.Proofs.Ytipipckbcelphaa.Oct
open Go.RowKit Go.Shelf
set_option linter.unusedSimpArgs false
set_option linter.unusedVariables false

theorem eq38x (x : Int × Int × Int) (W : World) : (binOp BinOp.eql 38 (.agg (qd x).toArray) (.agg (qd x).toArray)).run Try.prog W = .ok (.bool true) W := by
  obtain ⟨a, b, c⟩ := x
  show (binOp BinOp.eql 38 (.agg #[iv a, iv b, iv c]) (.agg #[iv a, iv b, iv c])).run Try.prog W = .ok (.bool true) W
  first
  | (simp [binOp, go_sem]; done)
  | (unfold binOp; simp [go_sem]; done)
  | (go_simp; done)
theorem ne38x (x : Int × Int × Int) (W : World) : (binOp BinOp.neq 38 (.agg (qd x).toArray) (.agg (qd x).toArray)).run Try.prog W = .ok (.bool false) W := by
  obtain ⟨a, b, c⟩ := x
  show (binOp BinOp.neq 38 (.agg #[iv a, iv b, iv c]) (.agg #[iv a, iv b, iv c])).run Try.prog W = .ok (.bool false) W
  first
  | (simp [binOp, go_sem]; done)
  | (unfold binOp; simp [go_sem]; done)
  | (go_simp; done)
theorem yl_ne {o : Oper} {a : Act} (V : World) (p q : Operand) (x : Int × Int × Int) (hop : o.op = .binOp .neq 38 p q 38) (hx : a.eval p = .agg (qd x).toArray) (hy : a.eval q = .agg (qd x).toArray) : (execOp a.eval o).run Try.prog V = .ok (.value (.bool false)) V := by
  have h := ne38x x V
  unfold execOp
  simp only [hop, hx, hy, Sem.run_bind, Sem.run_pure]
  have hg : (eqGuard BinOp.neq 38 p q (.agg (qd x).toArray) (.agg (qd x).toArray)).run Try.prog V = .ok () V := by
    first
    | (simp [eqGuard, go_sem]; done)
    | (unfold eqGuard; simp [go_sem, Try.underlying38]; done)
    | (unfold eqGuard; go_simp; done)
  rw [hg]
  simp only [Result.andThen_ok, h]
theorem ret3 {R : Ending → World → Prop} {fn : Func} {p1 p2 u : Tmp} {a : Act} {w : World} {g1 g2 : Nat} {X Y : List Value} (hr : fn.results = #[.cell p1 30, .cell p2 38, .tmp u]) (hd : a.defers = []) (h1 : a.tmps.getD p1 undef = .pointer (some ⟨g1, 0, none⟩)) (h2 : a.tmps.getD p2 undef = .pointer (some ⟨g2, 0, none⟩)) (l1 : X.length = 2) (l2 : Y.length = 3)
    (hb1 : Blk w g1 30 X) (hb2 : Blk w g2 38 Y) (hR : R (.returned (.tuple #[.agg X.toArray, .agg Y.toArray, a.tmps.getD u undef])) w) : bodyPost Try.prog fn R .ret a w := by
  have k1 := run_loadVar_mid (P := Try.prog) w g1 0 30 X _ (by have := hb1.range 0 2; rwa [List.drop_zero, List.take_of_length_le (by omega)] at this) Try.underlying30 rfl (by rw [l1]; exact size30)
  have k2 := run_loadVar_mid (P := Try.prog) w g2 0 38 Y _ (by have := hb2.range 0 3; rwa [List.drop_zero, List.take_of_length_le (by omega)] at this) Try.underlying38 rfl (by rw [l2]; exact size38)
  refine bodyPost_ret (v := .tuple #[.agg X.toArray, .agg Y.toArray, a.tmps.getD u undef]) ?_ hd hR
  have h1' : a.tmps[p1]?.getD undef = .pointer (some ⟨g1, 0, none⟩) := by simpa using h1
  have h2' : a.tmps[p2]?.getD undef = .pointer (some ⟨g2, 0, none⟩) := by simpa using h2
  simp only [results, hr]
  simp [Sem.run_bind, Result.andThen, h1', h2', asAddr, k1, k2]
set_option maxRecDepth 100000 in
set_option maxHeartbeats 4000000 in
theorem rstep_is {w : World} {wv ev : Value} {l : List Int} {E : List (Int × Int × Int)} (h : RQ w wv ev l E) (hE9 : E.length + 1 ≤ 3000000000000) {x : Int} (hx : l[0]? = some x) (r : Int) :
    Calls Try.prog 17 #[.agg #[wv, ev], iv r] w fun e w' => ∃ wv' ev', e = .returned (.tuple #[.agg #[wv', ev'], .agg (qd (x, hw r, r)).toArray, iv 0]) ∧ REndP w (l.eraseIdx 0) (E ++ [(x, hw r, r)]) wv' ev' w' := by
  have hkl : 0 < l.length := (List.getElem?_eq_some_iff.1 hx).1
  obtain ⟨a, c, a', c', rfl, rfl⟩ := h.shape
  obtain ⟨n, hn⟩ : ∃ n, l.length = n := ⟨_, rfl⟩
  obtain ⟨m, hm⟩ : ∃ m, E.length = m := ⟨_, rfl⟩
  have HRQ : Hid (RQ w (.slice a n c) (.slice a' m c') l E) := by rw [← hn, ← hm]; exact h
  rw [hn, hm]
  rw [hn] at hkl
  obtain ⟨g, rfl⟩ : ∃ g, a = some ⟨g, 0, none⟩ := by
    obtain ⟨a9, c9, e9, _, _, h9, _⟩ := HRQ.out.wr
    rw [hn] at e9 h9
    cases e9
    obtain ⟨g, off, rfl, _⟩ := h9.2.2 (by omega)
    have := HRQ.out.wz _ _ _ rfl
    simp at this
    subst this
    exact ⟨g, rfl⟩
  have HCX : Hid (w.cell? ⟨g, 0, none⟩ = some (iv x) ∧ g < w.heap.size) := by
    obtain ⟨a9, c9, e9, _, _, h9, _, h5⟩ := HRQ.out.wr
    rw [hn] at e9 h9
    cases e9
    obtain ⟨g', off, e', _, h8⟩ := h9.2.2 (by omega)
    cases e'
    exact ⟨h8 0 _ (ivs_at hx), h5 _ rfl⟩
  have hz30 := zero30
  have hz38 := zero38
  obtain ⟨b2, hb2⟩ : ∃ b, w.heap.size = b := ⟨_, rfl⟩
  obtain ⟨A, hA⟩ : ∃ A, ((w.alloc (.cells #[.slice (some ⟨g, 0, none⟩) n c, .slice a' m c'] 30)).alloc (.cells #[.slice none 0 0, .slice none 0 0] 30)).alloc (.cells #[iv 0, iv 0, iv 0] 38) = A := ⟨_, rfl⟩
  have hB : Below w.heap.size w A := by rw [← hA]; exact (((Below.refl _ w).alloc (Nat.le_refl _) _).alloc (by simp) _).alloc (by simp; omega) _
  have h2 : Blk A b2 30 [.slice (some ⟨g, 0, none⟩) n c, .slice a' m c'] := by rw [← hA, ← hb2]; exact ((Blk.new w _ _).alloc _).alloc _
  have h4 : Blk A (b2 + 1) 30 [.slice none 0 0, .slice none 0 0] := by
    rw [← hA, ← hb2]
    have := (Blk.new (w.alloc (.cells #[.slice (some ⟨g, 0, none⟩) n c, .slice a' m c'] 30)) #[.slice none 0 0, .slice none 0 0] 30).alloc (.cells #[iv 0, iv 0, iv 0] 38)
    rwa [World.size_alloc] at this
  have h5 : Blk A (b2 + 1 + 1) 38 q0 := by
    rw [← hA, ← hb2]
    have := Blk.new ((w.alloc (.cells #[.slice (some ⟨g, 0, none⟩) n c, .slice a' m c'] 30)).alloc (.cells #[.slice none 0 0, .slice none 0 0] 30)) #[iv 0, iv 0, iv 0] 38
    rwa [World.size_alloc, World.size_alloc] at this
  have cb : A.cell? ⟨b2, 0, none⟩ = some (.slice (some ⟨g, 0, none⟩) n c) := h2.cell rfl
  have HB : Hid (Below w.heap.size w A ∧ Blk A b2 30 [.slice (some ⟨g, 0, none⟩) n c, .slice a' m c'] ∧ Blk A (b2 + 1) 30 [.slice none 0 0, .slice none 0 0] ∧ Blk A (b2 + 1 + 1) 38 q0 ∧ l.length = n ∧ E.length = m ∧ w.heap.size = b2) := ⟨hB, h2, h4, h5, hn, hm, hb2⟩
  have HXX : Hid (E.length + 1 ≤ 3000000000000 ∧ l[0]? = some x) := ⟨hE9, hx⟩
  have HT := rend_is (k := 0) ((HRQ.out.below hB).below (below_drew0 A)) hE9 hx (fun j y hj => absurd hj (by omega)) (hw r) r
  have HX : Hid (Blk A b2 30 [.slice (some ⟨g, 0, none⟩) n c, .slice a' m c'] ∧ A.cell? ⟨g, 0, none⟩ = some (iv x)) := ⟨h2, (hB.cell (p := ⟨g, 0, none⟩) HCX.out.2).trans HCX.out.1⟩
  have HN : Hid (0 < n ∧ n ≤ 1000) := ⟨hkl, by have := HRQ.out.nW; omega⟩
  have q1 : ¬ ((n : Int) = 0) := by omega
  have q1b : ((n : Int) == 0) = false := by simpa using (show ¬ n = 0 by omega)
  have q2 : (n : Int) ≤ 1000 := by have := HN.out.2; omega
  clear h hx hkl hE9 hn hm hB h2 h4 h5
  by_cases hr : r = 0
  · have hwr : hw r = 1 := by rw [hr]; rfl
    have q3 : (r == 0) = true := by simp [hr]
    have HHW : Hid (hw r = 1) := hwr
    rw [hwr] at HT
    clear hr hwr
    go_enter Try.func17, Try.ntmps17
    go_wp2_with fail
    refine rstep6 HX HN HT ?_
    intro V1 V0 wv1 ev1 hre hk1 hb1
    obtain ⟨a2, c2, a3, c3, hsw, hse⟩ := hre.1.shape
    obtain ⟨n2, hn2⟩ : ∃ n2, (l.eraseIdx 0).length = n2 := ⟨_, rfl⟩
    obtain ⟨n3, hn3⟩ : ∃ n3, (E ++ [(x, 1, r)]).length = n3 := ⟨_, rfl⟩
    have hn3' : n3 = m + 1 := by rw [← hn3, List.length_append, HB.out.2.2.2.2.2.1]; rfl
    rw [hn2] at hsw
    rw [hn3] at hse
    subst hsw
    obtain ⟨ge, oe, ha3, hge, hrge⟩ : ∃ ge oe, a3 = some ⟨ge, oe, none⟩ ∧ ge < V0.heap.size ∧ V0.rangeAt ge (oe + m * 3) (qd (x, 1, r)) := by
      obtain ⟨a9, c9, e9, _, _, h9, _, h5⟩ := hre.1.er
      rw [hse, hn3] at e9
      rw [hn3] at h9
      cases e9
      obtain ⟨ge, oe, rfl, h7, h8⟩ := h9.2.2 (by omega)
      refine ⟨ge, oe, rfl, h7, fun j u hu => ?_⟩
      rw [Nat.add_assoc]
      refine h8 (m * 3 + j) u ?_
      rw [qdC_app, List.getElem?_append_right (by rw [qdC_len, HB.out.2.2.2.2.2.1]; omega), qdC_len, HB.out.2.2.2.2.2.1, Nat.add_sub_cancel_left]
      exact hu
    subst ha3
    subst hse
    have hsz := HB.out.2.2.2.2.2.2
    have hA5 := HB.out.2.2.2.1.lt
    have hbw : ∀ g, blkOf (.slice a2 n2 c2) = some g → A.heap.size ≤ g := fun g hg => hre.2.2.1 g hg
    have hbe : A.heap.size ≤ ge := hre.2.2.2 ge rfl
    have hAV : Keep (fun j => j = b2) A V1 := (Keep.below (S := fun j => j = b2) (below_tr (below_drew0 A) hre.2.1)).trans hk1 (fun _ hj _ => hj)
    have hrg : V1.rangeAt ge (oe + m * 3) (qd (x, 1, r)) := rangeAt_same hrge (hk1.block ge hge (by omega))
    have HL : Hid (b2 < V1.heap.size ∧ ¬ (b2 = b2 + 1 ∨ b2 = b2 + 1 + 1) ∧ ge < V1.heap.size ∧ b2 + 1 ≠ b2 + 1 + 1 ∧ ¬ (ge = b2 + 1 ∨ ge = b2 + 1 + 1)) := ⟨hb1.lt, by omega, Nat.lt_of_lt_of_le hge hk1.size, by omega, by omega⟩
    have HX7 : Hid (V1.rangeAt b2 0 [.slice a2 n2 c2, .slice (some ⟨ge, oe, none⟩) n3 c3] ∧ V1.rangeAt ge (oe + m * 3) (qd (x, 1, r))) := ⟨by have := hb1.range 0 2; exact this, hrg⟩
    have k1 : V1.cell? ⟨b2, 1, none⟩ = some (.slice (some ⟨ge, oe, none⟩) n3 c3) := hb1.cell rfl
    have HN7 : Hid (n3 = m + 1 ∧ m ≤ 4000000000000) := ⟨hn3', by have h1 := HXX.out.1; have h2 := HB.out.2.2.2.2.2.1; omega⟩
    have HONE : Hid ((∀ v ∈ ([.slice a2 n2 c2, .slice (some ⟨ge, oe, none⟩) n3 c3] : List Value), v.oneCell' = true) ∧ ∀ v ∈ qd (x, 1, r), v.oneCell' = true) := ⟨one_rq hre.1, qd_one _⟩
    have HY : Hid (Blk V1 (b2 + 1) 30 [.slice none 0 0, .slice none 0 0] ∧ Blk V1 (b2 + 1 + 1) 38 q0) := ⟨hAV.blk HB.out.2.2.1 (by omega), hAV.blk HB.out.2.2.2.1 (by omega)⟩
    have HRE : Hid (REndP w (l.eraseIdx 0) (E ++ [(x, 1, r)]) (.slice a2 n2 c2) (.slice (some ⟨ge, oe, none⟩) n3 c3) V1) := by
      refine ⟨hre.1.keep hk1 (fun g hg e => by have := hbw g hg; omega) (fun g hg e => by have hg' : ge = g := (by simpa [blkOf] using hg); omega), HB.out.1.trans (hAV.toBelow HB.out.1.size (fun k hk => by omega)), fun g hg => Nat.le_trans HB.out.1.size (hbw g hg), fun g hg => by cases hg; exact Nat.le_trans HB.out.1.size hbe⟩
    have HBW : Hid (A.heap.size ≤ ge ∧ (∀ g, blkOf (.slice a2 n2 c2) = some g → A.heap.size ≤ g) ∧ b2 + 1 + 1 < A.heap.size) := ⟨hbe, hbw, hA5⟩
    clear hre hk1 hb1 hge hrge hbw hbe hAV hrg hn2 hn3 hn3' HT HX cb hA5
    go_wp2_with fail
    refine rstep7 HL HX7 k1 HN7 HONE HY ?_
    intro V2 hy2 hk2
    have HF : Hid (Blk V2 (b2 + 1) 30 [.slice a2 n2 c2, .slice (some ⟨ge, oe, none⟩) n3 c3] ∧ Blk V2 (b2 + 1 + 1) 38 (qd (x, 1, r)) ∧ REndP w (l.eraseIdx 0) (E ++ [(x, 1, r)]) (.slice a2 n2 c2) (.slice (some ⟨ge, oe, none⟩) n3 c3) V2) := by
      have h1 := HBW.out
      refine ⟨hy2.1, hy2.2, HRE.out.1.keep hk2 (fun g hg e => by have := h1.2.1 g hg; omega) (fun g hg e => by have hg' : ge = g := (by simpa [blkOf] using hg); omega), HRE.out.2.1.trans (hk2.toBelow HRE.out.2.1.size (fun k hk => by omega)), HRE.out.2.2⟩
    clear hy2 hk2 k1 HL HX7 HY
    go_wp2_with fail
    refine ret3 rfl rfl rfl rfl rfl rfl HF.out.1 HF.out.2.1 ?_
    rw [HHW.out]
    exact ⟨_, _, rfl, HF.out.2.2⟩
  · have hwr : hw r = 2 := by unfold hw; rw [if_neg hr]
    have q3 : (r == 0) = false := by simpa using hr
    have HHW : Hid (hw r = 2) := hwr
    rw [hwr] at HT
    clear hr hwr
    go_enter Try.func17, Try.ntmps17
    go_wp2_with fail
    refine rstep6 HX HN HT ?_
    intro V1 V0 wv1 ev1 hre hk1 hb1
    obtain ⟨a2, c2, a3, c3, hsw, hse⟩ := hre.1.shape
    obtain ⟨n2, hn2⟩ : ∃ n2, (l.eraseIdx 0).length = n2 := ⟨_, rfl⟩
    obtain ⟨n3, hn3⟩ : ∃ n3, (E ++ [(x, 2, r)]).length = n3 := ⟨_, rfl⟩
    have hn3' : n3 = m + 1 := by rw [← hn3, List.length_append, HB.out.2.2.2.2.2.1]; rfl
    rw [hn2] at hsw
    rw [hn3] at hse
    subst hsw
    obtain ⟨ge, oe, ha3, hge, hrge⟩ : ∃ ge oe, a3 = some ⟨ge, oe, none⟩ ∧ ge < V0.heap.size ∧ V0.rangeAt ge (oe + m * 3) (qd (x, 2, r)) := by
      obtain ⟨a9, c9, e9, _, _, h9, _, h5⟩ := hre.1.er
      rw [hse, hn3] at e9
      rw [hn3] at h9
      cases e9
      obtain ⟨ge, oe, rfl, h7, h8⟩ := h9.2.2 (by omega)
      refine ⟨ge, oe, rfl, h7, fun j u hu => ?_⟩
      rw [Nat.add_assoc]
      refine h8 (m * 3 + j) u ?_
      rw [qdC_app, List.getElem?_append_right (by rw [qdC_len, HB.out.2.2.2.2.2.1]; omega), qdC_len, HB.out.2.2.2.2.2.1, Nat.add_sub_cancel_left]
      exact hu
    subst ha3
    subst hse
    have hsz := HB.out.2.2.2.2.2.2
    have hA5 := HB.out.2.2.2.1.lt
    have hbw : ∀ g, blkOf (.slice a2 n2 c2) = some g → A.heap.size ≤ g := fun g hg => hre.2.2.1 g hg
    have hbe : A.heap.size ≤ ge := hre.2.2.2 ge rfl
    have hAV : Keep (fun j => j = b2) A V1 := (Keep.below (S := fun j => j = b2) (below_tr (below_drew0 A) hre.2.1)).trans hk1 (fun _ hj _ => hj)
    have hrg : V1.rangeAt ge (oe + m * 3) (qd (x, 2, r)) := rangeAt_same hrge (hk1.block ge hge (by omega))
    have HL : Hid (b2 < V1.heap.size ∧ ¬ (b2 = b2 + 1 ∨ b2 = b2 + 1 + 1) ∧ ge < V1.heap.size ∧ b2 + 1 ≠ b2 + 1 + 1 ∧ ¬ (ge = b2 + 1 ∨ ge = b2 + 1 + 1)) := ⟨hb1.lt, by omega, Nat.lt_of_lt_of_le hge hk1.size, by omega, by omega⟩
    have HX7 : Hid (V1.rangeAt b2 0 [.slice a2 n2 c2, .slice (some ⟨ge, oe, none⟩) n3 c3] ∧ V1.rangeAt ge (oe + m * 3) (qd (x, 2, r))) := ⟨by have := hb1.range 0 2; exact this, hrg⟩
    have k1 : V1.cell? ⟨b2, 1, none⟩ = some (.slice (some ⟨ge, oe, none⟩) n3 c3) := hb1.cell rfl
    have HN7 : Hid (n3 = m + 1 ∧ m ≤ 4000000000000) := ⟨hn3', by have h1 := HXX.out.1; have h2 := HB.out.2.2.2.2.2.1; omega⟩
    have HONE : Hid ((∀ v ∈ ([.slice a2 n2 c2, .slice (some ⟨ge, oe, none⟩) n3 c3] : List Value), v.oneCell' = true) ∧ ∀ v ∈ qd (x, 2, r), v.oneCell' = true) := ⟨one_rq hre.1, qd_one _⟩
    have HY : Hid (Blk V1 (b2 + 1) 30 [.slice none 0 0, .slice none 0 0] ∧ Blk V1 (b2 + 1 + 1) 38 q0) := ⟨hAV.blk HB.out.2.2.1 (by omega), hAV.blk HB.out.2.2.2.1 (by omega)⟩
    have HRE : Hid (REndP w (l.eraseIdx 0) (E ++ [(x, 2, r)]) (.slice a2 n2 c2) (.slice (some ⟨ge, oe, none⟩) n3 c3) V1) := by
      refine ⟨hre.1.keep hk1 (fun g hg e => by have := hbw g hg; omega) (fun g hg e => by have hg' : ge = g := (by simpa [blkOf] using hg); omega), HB.out.1.trans (hAV.toBelow HB.out.1.size (fun k hk => by omega)), fun g hg => Nat.le_trans HB.out.1.size (hbw g hg), fun g hg => by cases hg; exact Nat.le_trans HB.out.1.size hbe⟩
    have HBW : Hid (A.heap.size ≤ ge ∧ (∀ g, blkOf (.slice a2 n2 c2) = some g → A.heap.size ≤ g) ∧ b2 + 1 + 1 < A.heap.size) := ⟨hbe, hbw, hA5⟩
    clear hre hk1 hb1 hge hrge hbw hbe hAV hrg hn2 hn3 hn3' HT HX cb hA5
    go_wp2_with fail
    refine rstep7 HL HX7 k1 HN7 HONE HY ?_
    intro V2 hy2 hk2
    have HF : Hid (Blk V2 (b2 + 1) 30 [.slice a2 n2 c2, .slice (some ⟨ge, oe, none⟩) n3 c3] ∧ Blk V2 (b2 + 1 + 1) 38 (qd (x, 2, r)) ∧ REndP w (l.eraseIdx 0) (E ++ [(x, 2, r)]) (.slice a2 n2 c2) (.slice (some ⟨ge, oe, none⟩) n3 c3) V2) := by
      have h1 := HBW.out
      refine ⟨hy2.1, hy2.2, HRE.out.1.keep hk2 (fun g hg e => by have := h1.2.1 g hg; omega) (fun g hg e => by have hg' : ge = g := (by simpa [blkOf] using hg); omega), HRE.out.2.1.trans (hk2.toBelow HRE.out.2.1.size (fun k hk => by omega)), HRE.out.2.2⟩
    clear hy2 hk2 k1 HL HX7 HY
    go_wp2_with fail
    refine ret3 rfl rfl rfl rfl rfl rfl HF.out.1 HF.out.2.1 ?_
    rw [HHW.out]
    exact ⟨_, _, rfl, HF.out.2.2⟩
#print axioms rstep_is
set_option maxRecDepth 100000 in
set_option maxHeartbeats 4000000 in
theorem same6 {Q : Exit → Act → World → Prop} {x2 x3 x4 x6 x7 x8 x9 x10 x11 x12 x13 x14 x15 x16 x17 x18 x19 x20 x21 x22 x23 x24 x25 : Value} {ds : List Deferred} {A : World} {b1 o1 b2 o2 n c1 c2 i : Nat} {x : Int × Int × Int}
    (HL : Hid (b1 < A.heap.size ∧ b2 < A.heap.size)) (k1 : A.rangeAt b1 (o1 + i * 3) (qd x)) (k2 : A.rangeAt b2 (o2 + i * 3) (qd x)) (q1 : (i : Int) < (n : Int)) (q2 : i < n)
    (hQ : ∀ V1, Below A.heap.size A V1 → Q .normal { tmps := #[.slice (some ⟨b1, o1, none⟩) n c1, .slice (some ⟨b2, o2, none⟩) n c2, x2, x3, x4, iv (i : Int), x6, x7, x8, x9, x10, x11, x12, x13, x14, x15, x16, .slice (some ⟨b1, o1, none⟩) n c1, iv (i : Int), .pointer (some ⟨b1, o1 + i * 3, none⟩), .agg (qd x).toArray, .slice (some ⟨b2, o2, none⟩) n c2, iv (i : Int), .pointer (some ⟨b2, o2 + i * 3, none⟩), .agg (qd x).toArray, .bool false], defers := ds } V1) :
    (Code.region 6 #[{ dst := some 17, op := Op.move (Operand.tmp 0), type := 28, pos := "ref.go:85", after := #[], guard := none }, { dst := some 18, op := Op.move (Operand.tmp 5), type := 3, pos := "ref.go:85", after := #[], guard := none }, { dst := some 19, op := Op.indexAddr 28 (Operand.tmp 17) (Operand.tmp 18), type := 0, pos := "ref.go:85", after := #[{ on := 0, ground := Ground.data }, { on := 1, ground := Ground.data }], guard := none }, { dst := some 20, op := Op.load 38 (Operand.tmp 19), type := 38, pos := "ref.go:85", after := #[{ on := 2, ground := Ground.data }], guard := none }, { dst := some 21, op := Op.move (Operand.tmp 1), type := 28, pos := "ref.go:85", after := #[], guard := none }, { dst := some 22, op := Op.move (Operand.tmp 5), type := 3, pos := "ref.go:85", after := #[], guard := none }, { dst := some 23, op := Op.indexAddr 28 (Operand.tmp 21) (Operand.tmp 22), type := 0, pos := "ref.go:85", after := #[{ on := 4, ground := Ground.data }, { on := 5, ground := Ground.data }], guard := none }, { dst := some 24, op := Op.load 38 (Operand.tmp 23), type := 38, pos := "ref.go:85", after := #[{ on := 6, ground := Ground.data }], guard := none }, { dst := some 25, op := Op.binOp BinOp.neq 38 (Operand.tmp 20) (Operand.tmp 24) 38, type := 4, pos := "ref.go:85", after := #[{ on := 3, ground := Ground.data }, { on := 7, ground := Ground.data }], guard := none }] true).wp Try.prog Q { tmps := #[.slice (some ⟨b1, o1, none⟩) n c1, .slice (some ⟨b2, o2, none⟩) n c2, x2, x3, x4, iv (i : Int), x6, x7, x8, x9, x10, x11, x12, x13, x14, x15, x16, x17, x18, x19, x20, x21, x22, x23, x24, x25], defers := ds } A := by
  refine Code.wp_mono (Q := fun x a' w' => match x with | .normal => Q .normal a' w' | _ => False) (by intro x a' w' h; cases x <;> first | exact h | exact h.elim) ?_
  refine wp_region_held (S := fun V => Below A.heap.size A V) (by kernel_rfl) ?_
  have hS0 : Hid (Below A.heap.size A A.drew) := below_drew0 A
  change wpAnyH Try.prog .any _ _ (fun V => Below A.heap.size A V) 9 (Array.replicate 9 false) _ A.drew
  obtain ⟨V0, hV0⟩ : ∃ V0, A.drew = V0 := ⟨_, rfl⟩
  rw [hV0]
  rw [hV0] at hS0
  clear hV0
  refine wpAnyH_take (i := 0) (oi := { dst := some 17, op := Op.move (Operand.tmp 0), type := 28, pos := "ref.go:85", after := #[], guard := none }) (v := .slice (some ⟨b1, o1, none⟩) n c1) rfl (by kernel_rfl) (by kernel_rfl) (by kernel_rfl) (fun _ _ _ h => h.elim) (Or.inl ⟨by rfl, ?y1⟩) hS0.out ?_
  case y1 =>
    intro V hV
    go_simp
  simp only [Act.put, List.setIfInBounds_toArray, List.set_cons_zero, List.set_cons_succ]
  refine wpAnyH_take (i := 1) (oi := { dst := some 18, op := Op.move (Operand.tmp 5), type := 3, pos := "ref.go:85", after := #[], guard := none }) (v := iv (i : Int)) rfl (by kernel_rfl) (by kernel_rfl) (by kernel_rfl) (fun _ _ _ h => h.elim) (Or.inl ⟨by rfl, ?y2⟩) hS0.out ?_
  case y2 =>
    intro V hV
    go_simp
  simp only [Act.put, List.setIfInBounds_toArray, List.set_cons_zero, List.set_cons_succ]
  refine wpAnyH_take (i := 2) (oi := { dst := some 19, op := Op.indexAddr 28 (Operand.tmp 17) (Operand.tmp 18), type := 0, pos := "ref.go:85", after := #[{ on := 0, ground := Ground.data }, { on := 1, ground := Ground.data }], guard := none }) (v := .pointer (some ⟨b1, o1 + i * 3, none⟩)) rfl (by kernel_rfl) (by kernel_rfl) (by kernel_rfl) (fun _ _ _ h => h.elim) (Or.inl ⟨by rfl, ?y3⟩) hS0.out ?_
  case y3 =>
    intro V hV
    have hcmp := q1
    have hcmp2 := q2
    go_simp
  simp only [Act.put, List.setIfInBounds_toArray, List.set_cons_zero, List.set_cons_succ]
  refine wpAnyH_take (i := 3) (oi := { dst := some 20, op := Op.load 38 (Operand.tmp 19), type := 38, pos := "ref.go:85", after := #[{ on := 2, ground := Ground.data }], guard := none }) (v := .agg (qd x).toArray) rfl (by kernel_rfl) (by kernel_rfl) (by kernel_rfl) (fun _ _ _ h => h.elim) (yieldsIf_load_mid (by rfl) _ _ rfl _ _ rfl (qd x) _ (fun V hV => rangeAt_same (k1) ((show Below A.heap.size A V from hV).block _ (HL.out.1))) Try.underlying38 rfl (size38)) hS0.out ?_
  simp only [Act.put, List.setIfInBounds_toArray, List.set_cons_zero, List.set_cons_succ]
  refine wpAnyH_take (i := 4) (oi := { dst := some 21, op := Op.move (Operand.tmp 1), type := 28, pos := "ref.go:85", after := #[], guard := none }) (v := .slice (some ⟨b2, o2, none⟩) n c2) rfl (by kernel_rfl) (by kernel_rfl) (by kernel_rfl) (fun _ _ _ h => h.elim) (Or.inl ⟨by rfl, ?y4⟩) hS0.out ?_
  case y4 =>
    intro V hV
    go_simp
  simp only [Act.put, List.setIfInBounds_toArray, List.set_cons_zero, List.set_cons_succ]
  refine wpAnyH_take (i := 5) (oi := { dst := some 22, op := Op.move (Operand.tmp 5), type := 3, pos := "ref.go:85", after := #[], guard := none }) (v := iv (i : Int)) rfl (by kernel_rfl) (by kernel_rfl) (by kernel_rfl) (fun _ _ _ h => h.elim) (Or.inl ⟨by rfl, ?y5⟩) hS0.out ?_
  case y5 =>
    intro V hV
    go_simp
  simp only [Act.put, List.setIfInBounds_toArray, List.set_cons_zero, List.set_cons_succ]
  refine wpAnyH_take (i := 6) (oi := { dst := some 23, op := Op.indexAddr 28 (Operand.tmp 21) (Operand.tmp 22), type := 0, pos := "ref.go:85", after := #[{ on := 4, ground := Ground.data }, { on := 5, ground := Ground.data }], guard := none }) (v := .pointer (some ⟨b2, o2 + i * 3, none⟩)) rfl (by kernel_rfl) (by kernel_rfl) (by kernel_rfl) (fun _ _ _ h => h.elim) (Or.inl ⟨by rfl, ?y6⟩) hS0.out ?_
  case y6 =>
    intro V hV
    have hcmp := q1
    have hcmp2 := q2
    go_simp
  simp only [Act.put, List.setIfInBounds_toArray, List.set_cons_zero, List.set_cons_succ]
  refine wpAnyH_take (i := 7) (oi := { dst := some 24, op := Op.load 38 (Operand.tmp 23), type := 38, pos := "ref.go:85", after := #[{ on := 6, ground := Ground.data }], guard := none }) (v := .agg (qd x).toArray) rfl (by kernel_rfl) (by kernel_rfl) (by kernel_rfl) (fun _ _ _ h => h.elim) (yieldsIf_load_mid (by rfl) _ _ rfl _ _ rfl (qd x) _ (fun V hV => rangeAt_same (k2) ((show Below A.heap.size A V from hV).block _ (HL.out.2))) Try.underlying38 rfl (size38)) hS0.out ?_
  simp only [Act.put, List.setIfInBounds_toArray, List.set_cons_zero, List.set_cons_succ]
  refine wpAnyH_take (i := 8) (oi := { dst := some 25, op := Op.binOp BinOp.neq 38 (Operand.tmp 20) (Operand.tmp 24) 38, type := 4, pos := "ref.go:85", after := #[{ on := 3, ground := Ground.data }, { on := 7, ground := Ground.data }], guard := none }) (v := .bool false) rfl (by kernel_rfl) (by kernel_rfl) (by kernel_rfl) (fun _ _ _ h => h.elim) (Or.inl ⟨by rfl, ?y7⟩) hS0.out ?_
  case y7 =>
    intro V hV
    exact yl_ne V (.tmp 20) (.tmp 24) x rfl rfl rfl
  simp only [Act.put, List.setIfInBounds_toArray, List.set_cons_zero, List.set_cons_succ]
  refine wpAnyH_done (by kernel_rfl) ?_ _
  exact hQ V0 hS0.out
#print axioms same6
theorem qdC_range : ∀ {l : List (Int × Int × Int)} {i : Nat} {x : Int × Int × Int}, l[i]? = some x → ∀ j u, (qd x)[j]? = some u → (qdC l)[i * 3 + j]? = some u
  | [], i, x, h => by simp at h
  | y :: l, 0, x, h => by
    intro j u hu
    simp at h
    subst h
    simp only [qdC, List.flatMap_cons, Nat.zero_mul, Nat.zero_add]
    rw [List.getElem?_append_left (List.getElem?_eq_some_iff.1 hu).1]
    exact hu
  | y :: l, i + 1, x, h => by
    intro j u hu
    have ih := qdC_range (l := l) (i := i) (x := x) (by simpa using h) j u hu
    simp only [qdC, List.flatMap_cons] at *
    rw [List.getElem?_append_right (by simp [qd]; omega)]
    rw [show (i + 1) * 3 + j - (qd y).length = i * 3 + j by simp [qd]; omega]
    exact ih
set_option maxRecDepth 100000 in
set_option maxHeartbeats 1000000 in
theorem same_same {l : List (Int × Int × Int)} {v1 v2 : Value} {w : World} (h1 : RV w 38 3 v1 l.length (qdC l)) (h2 : RV w 38 3 v2 l.length (qdC l)) (hn : l.length ≤ 3000000000000) :
    Calls Try.prog 21 #[v1, v2] w fun e w' => e = .returned (.bool true) ∧ Below w.heap.size w w' := by
  obtain ⟨sa, sc, rfl, _, _, r1, _⟩ := h1
  obtain ⟨ta, tc, rfl, _, _, r2, _⟩ := h2
  obtain ⟨n, hnn⟩ : ∃ n, l.length = n := ⟨_, rfl⟩
  rw [hnn] at r1 r2 ⊢
  have HL : Hid (Rd w 38 3 sa n (qdC l) ∧ Rd w 38 3 ta n (qdC l) ∧ l.length = n) := ⟨r1, r2, hnn⟩
  have qn : (n : Int) ≤ 3000000000000 := by omega
  clear r1 r2 hn hnn
  go_enter Try.func21, Try.ntmps21
  go_wp2
  go_loopw [5] (fun u wr => ∃ i : Nat, u = iv i ∧ Hid (i ≤ n ∧ Below w.heap.size w wr)) (fun u _ => n - (intOf u).toNat)
  case atStart => exact ⟨0, rfl, Nat.zero_le _, Below.refl _ _⟩
  case round =>
    obtain ⟨i, rfl, HI⟩ := hrel
    by_cases hi : i = n
    · have q1 : (n : Int) ≤ (i : Int) := by omega
      have HB := HI.out.2
      clear HI hi
      go_wp2
      go_ret
      exact ⟨rfl, HB⟩
    · have q2 : i < n := by have := HI.out.1; omega
      have q1 : (i : Int) < (n : Int) := by omega
      obtain ⟨b1, o1, ha, hb1, hc1⟩ := HL.out.1.2.2 (by omega)
      obtain ⟨b2, o2, hb, hb2, hc2⟩ := HL.out.2.1.2.2 (by omega)
      subst ha
      subst hb
      obtain ⟨x, hx⟩ : ∃ x, l[i]? = some x := ⟨_, List.getElem?_eq_getElem (by rw [HL.out.2.2]; exact q2)⟩
      have HBL : Hid (b1 < wr.heap.size ∧ b2 < wr.heap.size) := ⟨Nat.lt_of_lt_of_le hb1 HI.out.2.size, Nat.lt_of_lt_of_le hb2 HI.out.2.size⟩
      have k1 : wr.rangeAt b1 (o1 + i * 3) (qd x) := fun j u hu => (HI.out.2.cell (p := ⟨b1, o1 + i * 3 + j, none⟩) hb1).trans (by rw [Nat.add_assoc]; exact hc1 _ u (qdC_range hx j u hu))
      have k2 : wr.rangeAt b2 (o2 + i * 3) (qd x) := fun j u hu => (HI.out.2.cell (p := ⟨b2, o2 + i * 3 + j, none⟩) hb2).trans (by rw [Nat.add_assoc]; exact hc2 _ u (qdC_range hx j u hu))
      have HQ : Hid (i < n) := q2
      have HK : Hid (wr.rangeAt b1 (o1 + i * 3) (qd x) ∧ wr.rangeAt b2 (o2 + i * 3) (qd x)) := ⟨k1, k2⟩
      clear hi hc1 hc2 hx hb1 hb2 k1 k2
      go_wp2_with fail
      refine same6 HBL HK.out.1 HK.out.2 q1 q2 ?_
      intro V hV
      have HV : Hid (Below w.heap.size w V) := below_tr HI.out.2 hV
      clear hV
      go_wp2
      go_roundw
      case rel => exact ⟨i + 1, by simp, HQ.out, HV.out⟩
      case measure =>
        have := HQ.out
        simp only [intOf]
        omega
#print axioms same_same
end Go.Proofs.Ytipipckbcelphaa.Oct
