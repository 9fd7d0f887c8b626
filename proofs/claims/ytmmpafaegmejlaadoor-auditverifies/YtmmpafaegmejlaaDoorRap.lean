/-
  Layer 19 (audit): the reference's Append.
-/
import Derived.Test.YtmmpafaegmejlaaDoorRar
namespace Go.Proofs.YtmmpafaegmejlaaDoor.Oct
open Go.RowKit Sha
set_option linter.unusedSimpArgs false
set_option linter.unusedVariables false

theorem ret_tct {R : Ending → World → Prop} {fn : Func} {t pt u : Tmp} {ty : TypeId} {a : Act} {w : World} {g : Nat} {X : List Value} {d : TypeDesc} (hr : fn.results = #[.tmp t, .cell pt ty, .tmp u]) (hd : a.defers = []) (hp : a.tmps.getD pt undef = .pointer (some ⟨g, 0, none⟩))
    (hb : Blk w g ty X) (hu : Tryd.prog.underlying ty = some d) (hrow : d.isRow = true) (hi : (Tryd.prog.info? ty).map (·.size) = some X.length) (hR : R (.returned (.tuple #[a.tmps.getD t undef, .agg X.toArray, a.tmps.getD u undef])) w) : bodyPost Tryd.prog fn R .ret a w := by
  have hl := run_loadVar_mid (P := Tryd.prog) w g 0 ty X _ hb.range0 hu hrow hi
  refine bodyPost_ret (v := .tuple #[a.tmps.getD t undef, .agg X.toArray, a.tmps.getD u undef]) ?_ hd hR
  unfold results
  rw [hr]
  have hp2 : a.tmps[pt]?.getD undef = .pointer (some ⟨g, 0, none⟩) := by rw [← hp]; simp
  simp [hp2, asAddr, hl, Result.andThen, Sem.run_bind]
theorem built37y (s t : Int) (p q : BA) (h : List UInt8) (hl : h.length = 32) : Tryd.prog.built 37 [(0, iv s), (1, iv t), (2, .string p), (3, .string q), (4, .agg (U h).toArray)] = some (En.mk s t p q h).cells.toArray := by
  obtain ⟨a0, a1, a2, a3, a4, a5, a6, a7, a8, a9, a10, a11, a12, a13, a14, a15, a16, a17, a18, a19, a20, a21, a22, a23, a24, a25, a26, a27, a28, a29, a30, a31, rfl⟩ := len32 hl
  kernel_rfl
/-- what the reference's Append answers -/
def RaP (w : World) (v : Value) (l : List En) (q : En × Int) (e : Ending) (w' : World) : Prop := ∃ v', e = .returned (.tuple #[v', .agg q.1.cells.toArray, iv q.2]) ∧ ((v' = v ∧ lA l q = l) ∨ OwE w' w.heap.size v' (lA l q)) ∧ Below w.heap.size w w'
set_option maxRecDepth 100000 in
set_option maxHeartbeats 4000000 in
theorem refAppend_is {w : World} {v : Value} {l : List En} (h : EsR w v l) (hl : l.length ≤ 4999) (hz : ∀ e ∈ l, e.rz) (h0 : 0 ≤ (lastE l).tick) (tick : Int) (who what : BA) (hw : who.size ≤ 140737488355328) (hwt : what.size ≤ 140737488355328) (ht : tick ≤ 9223372036854775807) : Calls Tryd.prog 15 #[v, iv tick, .string who, .string what] w (RaP w v l (nxE l tick who what)) := by
  obtain ⟨Z, hZ, HZ⟩ := zero37
  have HBL := built37
  have HE' := h
  obtain ⟨hok, a0, cap, rfl, hle, hcap, hr⟩ := h
  obtain ⟨n, hn⟩ : ∃ n, l.length = n := ⟨_, rfl⟩
  obtain ⟨m1, hm1⟩ : ∃ n, who.size = n := ⟨_, rfl⟩
  obtain ⟨m2, hm2⟩ : ∃ n, what.size = n := ⟨_, rfl⟩
  obtain ⟨r, hrr⟩ : ∃ r, w.heap.size = r := ⟨_, rfl⟩
  obtain ⟨A, hA⟩ : ∃ A, w.alloc (.cells Z.toArray 37) = A := ⟨_, rfl⟩
  have hb1 : Below w.heap.size w A := by rw [← hA]; exact below_al _ _
  have hrb : Blk A r 37 Z := by rw [← hA, ← hrr]; exact Blk.new w _ _
  have H : Hid (Below w.heap.size w A ∧ Blk A r 37 Z ∧ w.heap.size ≤ r) := ⟨hb1, hrb, by omega⟩
  have HM : Hid (who.size = m1 ∧ what.size = m2 ∧ l.length = n ∧ tick ≤ 9223372036854775807) := ⟨hm1, hm2, hn, ht⟩
  have HRZ : Hid (∀ e ∈ l, e.rz) := hz
  have HE : Hid (EsR w (.slice a0 n cap) l) := by show EsR w _ l; rw [← hn]; exact HE'
  have qm1 : (m1 : Int) ≤ 140737488355328 := by omega
  have qm2 : (m2 : Int) ≤ 140737488355328 := by omega
  have qn : (n : Int) ≤ 4999 := by omega
  have qt : tick ≤ 9223372036854775807 := ht
  obtain ⟨q, hq⟩ : ∃ q, nxE l tick who what = q := ⟨_, rfl⟩
  have hq2 := hq
  obtain ⟨x, hx⟩ : ∃ x, lastE l = x := ⟨_, rfl⟩
  unfold nxE at hq2
  rw [hx, hm1, hm2, hn] at hq2
  rw [hq, hn]
  rw [hn] at hr
  rw [hx] at h0
  have h4b : n ≤ 4999 := by omega
  clear hq hb1 hrb hw hwt ht hz HE' hle hcap hl
  by_cases hn0 : n = 0
  · have hx0 : x.tick = 0 := by
      rw [← hx, List.length_eq_zero_iff.1 (hn.trans hn0)]; rfl
    have q6 : (n : Int) ≤ 0 := by omega
    rw [hx0] at hq2
    clear hok hr hn hx hx0 h0 hn0
    go_enter Tryd.func15, Tryd.ntmps15
    by_cases h1 : tick < 0
    · have HV : Hid (q = (zE, 2)) := by show q = _; rw [← hq2]; exact if_pos (.inl h1)
      clear hq2 h4b
      go_wp2_with (with_reducible change wpList _ _ _ ({ dst := some 35, op := _, type := _, pos := _, after := _, guard := _ } :: _) _ _; refine Hid.out ?_)
      show wpList _ _ _ _ _ _
      refine wpList_built rfl 37 _ rfl zE.cells.toArray (by rw [← HBL]; simp) ?_
      go_wp2_with (with_reducible change wpList _ _ _ ({ dst := none, op := Op.store 37 _ _, type := _, pos := _, after := _, guard := _ } :: _) _ _; refine Hid.out ?_)
      show wpList _ _ _ _ _ _
      refine wpList_store_blk rfl 37 (.tmp 9) (.tmp 35) rfl r 0 37 Z zE.cells rfl rfl H.out.2.1 (by rw [HZ.out]; omega) (info37 zE_ok) (En.one _) ?_
      intro W2 hx hg
      have H2 : Hid (Blk W2 r 37 zE.cells ∧ Below w.heap.size w W2) := ⟨blk_all hx.out (by rw [HZ.out]), below_gr H.out.1 hg.out H.out.2.2⟩
      clear hx hg
      go_wp2
      refine ret_tct rfl rfl rfl H2.out.1 Tryd.underlying37 rfl (info37 zE_ok) ?_
      rw [HV.out]
      exact ⟨_, rfl, .inl ⟨rfl, rfl⟩, H2.out.2⟩
    by_cases h2 : 1099511627776 < tick
    · have HV : Hid (q = (zE, 2)) := by show q = _; rw [← hq2]; exact if_pos (.inr h2)
      have h1' : 0 ≤ tick := by omega
      clear hq2 h1 h4b
      go_wp2_with (with_reducible change wpList _ _ _ ({ dst := some 35, op := _, type := _, pos := _, after := _, guard := _ } :: _) _ _; refine Hid.out ?_)
      show wpList _ _ _ _ _ _
      refine wpList_built rfl 37 _ rfl zE.cells.toArray (by rw [← HBL]; simp) ?_
      go_wp2_with (with_reducible change wpList _ _ _ ({ dst := none, op := Op.store 37 _ _, type := _, pos := _, after := _, guard := _ } :: _) _ _; refine Hid.out ?_)
      show wpList _ _ _ _ _ _
      refine wpList_store_blk rfl 37 (.tmp 9) (.tmp 35) rfl r 0 37 Z zE.cells rfl rfl H.out.2.1 (by rw [HZ.out]; omega) (info37 zE_ok) (En.one _) ?_
      intro W2 hx hg
      have H2 : Hid (Blk W2 r 37 zE.cells ∧ Below w.heap.size w W2) := ⟨blk_all hx.out (by rw [HZ.out]), below_gr H.out.1 hg.out H.out.2.2⟩
      clear hx hg
      go_wp2
      refine ret_tct rfl rfl rfl H2.out.1 Tryd.underlying37 rfl (info37 zE_ok) ?_
      rw [HV.out]
      exact ⟨_, rfl, .inl ⟨rfl, rfl⟩, H2.out.2⟩
    have h1' : 0 ≤ tick := by omega
    have h2' : tick ≤ 1099511627776 := by omega
    rw [if_neg (fun k => k.elim h1 h2)] at hq2
    clear h1 h2
    by_cases h3 : (16 : Int) < (m1 : Int)
    · have HV : Hid (q = (zE, 3)) := by show q = _; rw [← hq2]; exact if_pos (.inl (by omega))
      clear hq2 h4b
      go_wp2_with (with_reducible change wpList _ _ _ ({ dst := some 50, op := _, type := _, pos := _, after := _, guard := _ } :: _) _ _; refine Hid.out ?_)
      show wpList _ _ _ _ _ _
      refine wpList_built rfl 37 _ rfl zE.cells.toArray (by rw [← HBL]; simp) ?_
      go_wp2_with (with_reducible change wpList _ _ _ ({ dst := none, op := Op.store 37 _ _, type := _, pos := _, after := _, guard := _ } :: _) _ _; refine Hid.out ?_)
      show wpList _ _ _ _ _ _
      refine wpList_store_blk rfl 37 (.tmp 9) (.tmp 50) rfl r 0 37 Z zE.cells rfl rfl H.out.2.1 (by rw [HZ.out]; omega) (info37 zE_ok) (En.one _) ?_
      intro W2 hx hg
      have H2 : Hid (Blk W2 r 37 zE.cells ∧ Below w.heap.size w W2) := ⟨blk_all hx.out (by rw [HZ.out]), below_gr H.out.1 hg.out H.out.2.2⟩
      clear hx hg
      go_wp2
      refine ret_tct rfl rfl rfl H2.out.1 Tryd.underlying37 rfl (info37 zE_ok) ?_
      rw [HV.out]
      exact ⟨_, rfl, .inl ⟨rfl, rfl⟩, H2.out.2⟩
    by_cases h4 : (512 : Int) < (m2 : Int)
    · have HV : Hid (q = (zE, 3)) := by show q = _; rw [← hq2]; exact if_pos (.inr (.inl (by omega)))
      have h3' : (m1 : Int) ≤ 16 := by omega
      clear hq2 h3 h4b
      go_wp2_with (with_reducible change wpList _ _ _ ({ dst := some 50, op := _, type := _, pos := _, after := _, guard := _ } :: _) _ _; refine Hid.out ?_)
      show wpList _ _ _ _ _ _
      refine wpList_built rfl 37 _ rfl zE.cells.toArray (by rw [← HBL]; simp) ?_
      go_wp2_with (with_reducible change wpList _ _ _ ({ dst := none, op := Op.store 37 _ _, type := _, pos := _, after := _, guard := _ } :: _) _ _; refine Hid.out ?_)
      show wpList _ _ _ _ _ _
      refine wpList_store_blk rfl 37 (.tmp 9) (.tmp 50) rfl r 0 37 Z zE.cells rfl rfl H.out.2.1 (by rw [HZ.out]; omega) (info37 zE_ok) (En.one _) ?_
      intro W2 hx hg
      have H2 : Hid (Blk W2 r 37 zE.cells ∧ Below w.heap.size w W2) := ⟨blk_all hx.out (by rw [HZ.out]), below_gr H.out.1 hg.out H.out.2.2⟩
      clear hx hg
      go_wp2
      refine ret_tct rfl rfl rfl H2.out.1 Tryd.underlying37 rfl (info37 zE_ok) ?_
      rw [HV.out]
      exact ⟨_, rfl, .inl ⟨rfl, rfl⟩, H2.out.2⟩
    have h3' : (m1 : Int) ≤ 16 := by omega
    have h4' : (m2 : Int) ≤ 512 := by omega
    have h5' : (n : Int) < 4096 := by omega
    rw [if_neg (by omega)] at hq2
    obtain ⟨D, hD⟩ : ∃ D, hdE l = D := ⟨_, rfl⟩
    have HV : Hid (q = (⟨(n : Int) + 1, tick, who, what, D⟩, 0) ∧ hdE l = D ∧ D.length = 32) := ⟨by rw [← hq2, ← hD], hD, by rw [← hD]; exact hdE_len l⟩
    obtain ⟨y, hy⟩ : ∃ y : En, (⟨(n : Int) + 1, tick, who, what, D⟩ : En) = y := ⟨_, rfl⟩
    have HY : Hid ((⟨(n : Int) + 1, tick, who, what, D⟩ : En) = y ∧ y.ok) := by
      refine ⟨hy, ?_⟩
      rw [← hy]
      exact ⟨HV.out.2.2, by show (n : Int) + 1 ≤ _; omega, HM.out.2.2.2, by show who.size ≤ _; rw [HM.out.1]; omega, by show what.size ≤ _; rw [HM.out.2.1]; omega⟩
    have HBD : Hid (Tryd.prog.built 37 [(0, iv ((n : Int) + 1)), (1, iv tick), (2, .string who), (3, .string what), (4, .agg (U D).toArray)] = some y.cells.toArray) := by rw [← hy]; exact built37y _ _ _ _ D HV.out.2.2
    clear hq2 h3 h4 hD h4b hy
    go_wp2_with fail
    refine (refHead_is (HE.out.below H.out.1) (by rw [HM.out.2.2.1]; omega) HRZ.out D HV.out.2.1).mono ?_
    rintro e W1 ⟨rfl, hb1⟩
    have H1 : Hid (Below w.heap.size w W1 ∧ Blk W1 r 37 Z) := ⟨below_tr H.out.1 hb1, H.out.2.1.below hb1 H.out.2.1.lt⟩
    clear hb1
    obtain ⟨g, hg⟩ : ∃ g, W1.heap.size = g := ⟨_, rfl⟩
    have HG : Hid (W1.heap.size = g) := hg
    go_wp2_with (with_reducible change wpList _ _ _ ({ dst := some 59, op := _, type := _, pos := _, after := _, guard := _ } :: _) _ _; refine Hid.out ?_)
    show wpList _ _ _ _ _ _
    refine wpList_built rfl 37 _ rfl y.cells.toArray (by simp [Act.eval]; exact HBD.out) ?_
    go_wp2_with (with_reducible change wpList _ _ _ ({ dst := none, op := Op.store 37 _ _, type := _, pos := _, after := _, guard := _ } :: _) _ _; refine Hid.out ?_)
    show wpList _ _ _ _ _ _
    refine wpList_store_blk rfl 37 (.tmp 11) (.tmp 59) rfl g 0 37 Z y.cells rfl rfl (by rw [← HG.out]; exact Blk.new W1 _ _) (by rw [HZ.out, En.len zE_ok, En.len HY.out.2]; exact Nat.le_refl _) (info37 HY.out.2) (En.one _) ?_
    intro W2 hx hg2
    have H2 : Hid (Below w.heap.size w W2 ∧ Blk W2 r 37 Z ∧ Blk W2 g 37 y.cells ∧ r < W1.heap.size) := by
      have hb : Below W1.heap.size W1 W2 := below_gr (below_al W1 _) hg2.out (by rw [HG.out]; exact Nat.le_refl _)
      exact ⟨below_tr H1.out.1 hb, H1.out.2.below hb H1.out.2.lt, blk_all hx.out (by rw [HZ.out, En.len zE_ok, En.len HY.out.2]), H1.out.2.lt⟩
    clear hx hg2 hg
    have HL6 : Hid (g < W2.heap.size ∧ some g ≠ some r) := ⟨H2.out.2.2.1.lt, fun e => by cases e; have := H2.out.2.2.2; have := HG.out; omega⟩
    have HR6 : Hid (W2.rangeAt g 0 y.cells) := H2.out.2.2.1.range0
    have HX6 : Hid (y.ok ∧ Z.length = y.cells.length) := ⟨HY.out.2, by rw [HZ.out, En.len zE_ok, En.len HY.out.2]⟩
    have HZ6 : Hid (Blk W2 r 37 Z) := H2.out.2.1
    have HRL6 : Hid (r < W2.heap.size) := H2.out.2.1.lt
    have HN6 : Hid (l.length ≤ 5000) := by have := HM.out.2.2.1; show l.length ≤ 5000; omega
    have HES6 : Hid (∀ V, W2.grownBy V (some r) → EsR V (.slice a0 n cap) l) := fun V hV => HE.out.below (below_gr H2.out.1 hV H.out.2.2)
    go_wp2_with fail
    refine ra6 HL6 HR6 HX6 HZ6 HRL6 HN6 HES6 ?_
    intro V1 q0 v2 q4 v5 hv1 hv2 hv3
    have H7 : Hid (Blk V1 r 37 y.cells ∧ OwE V1 w.heap.size v5 (l ++ [y]) ∧ Below w.heap.size w V1) := ⟨hv1, hv2.mono H2.out.1.size, below_gr H2.out.1 hv3 H.out.2.2⟩
    clear hv1 hv2 hv3
    go_wp2
    refine ret_tct rfl rfl rfl H7.out.1 Tryd.underlying37 rfl (info37 HY.out.2) ?_
    rw [HV.out.1, HY.out.1]
    exact ⟨_, rfl, .inr H7.out.2.1, H7.out.2.2⟩
  · obtain ⟨b, off, rfl, hbl, hel⟩ := hr (by omega)
    have hxl := lastE_at hn (by omega)
    rw [hx] at hxl
    obtain ⟨m, hm⟩ : ∃ m, n - 1 = m := ⟨_, rfl⟩
    rw [hm] at hxl
    have q3 : (n : Int) - 1 = (m : Int) := by omega
    have q4 : (m : Int) < (n : Int) := by omega
    have q5 : m < n := by omega
    have q6 : 0 < (n : Int) := by omega
    have ct : A.cell? ⟨b, off + m * 36 + 1, none⟩ = some (iv x.tick) := (H.out.1.cell (p := ⟨b, off + m * 36 + 1, none⟩) hbl).trans (hel m x hxl 1 (iv x.tick) rfl)
    clear hok hr hn hx hxl hel hbl hm hn0
    go_enter Tryd.func15, Tryd.ntmps15
    by_cases h1 : tick < 0
    · have HV : Hid (q = (zE, 2)) := by show q = _; rw [← hq2]; exact if_pos (.inl (by omega))
      clear hq2 h4b
      go_wp2_with (with_reducible change wpList _ _ _ ({ dst := some 35, op := _, type := _, pos := _, after := _, guard := _ } :: _) _ _; refine Hid.out ?_)
      show wpList _ _ _ _ _ _
      refine wpList_built rfl 37 _ rfl zE.cells.toArray (by rw [← HBL]; simp) ?_
      go_wp2_with (with_reducible change wpList _ _ _ ({ dst := none, op := Op.store 37 _ _, type := _, pos := _, after := _, guard := _ } :: _) _ _; refine Hid.out ?_)
      show wpList _ _ _ _ _ _
      refine wpList_store_blk rfl 37 (.tmp 9) (.tmp 35) rfl r 0 37 Z zE.cells rfl rfl H.out.2.1 (by rw [HZ.out]; omega) (info37 zE_ok) (En.one _) ?_
      intro W2 hx hg
      have H2 : Hid (Blk W2 r 37 zE.cells ∧ Below w.heap.size w W2) := ⟨blk_all hx.out (by rw [HZ.out]), below_gr H.out.1 hg.out H.out.2.2⟩
      clear hx hg
      go_wp2
      refine ret_tct rfl rfl rfl H2.out.1 Tryd.underlying37 rfl (info37 zE_ok) ?_
      rw [HV.out]
      exact ⟨_, rfl, .inl ⟨rfl, rfl⟩, H2.out.2⟩
    by_cases h2 : 1099511627776 < tick
    · have HV : Hid (q = (zE, 2)) := by show q = _; rw [← hq2]; exact if_pos (.inr h2)
      have h1' : 0 ≤ tick := by omega
      clear hq2 h1 h4b
      go_wp2_with (with_reducible change wpList _ _ _ ({ dst := some 35, op := _, type := _, pos := _, after := _, guard := _ } :: _) _ _; refine Hid.out ?_)
      show wpList _ _ _ _ _ _
      refine wpList_built rfl 37 _ rfl zE.cells.toArray (by rw [← HBL]; simp) ?_
      go_wp2_with (with_reducible change wpList _ _ _ ({ dst := none, op := Op.store 37 _ _, type := _, pos := _, after := _, guard := _ } :: _) _ _; refine Hid.out ?_)
      show wpList _ _ _ _ _ _
      refine wpList_store_blk rfl 37 (.tmp 9) (.tmp 35) rfl r 0 37 Z zE.cells rfl rfl H.out.2.1 (by rw [HZ.out]; omega) (info37 zE_ok) (En.one _) ?_
      intro W2 hx hg
      have H2 : Hid (Blk W2 r 37 zE.cells ∧ Below w.heap.size w W2) := ⟨blk_all hx.out (by rw [HZ.out]), below_gr H.out.1 hg.out H.out.2.2⟩
      clear hx hg
      go_wp2
      refine ret_tct rfl rfl rfl H2.out.1 Tryd.underlying37 rfl (info37 zE_ok) ?_
      rw [HV.out]
      exact ⟨_, rfl, .inl ⟨rfl, rfl⟩, H2.out.2⟩
    have h1' : 0 ≤ tick := by omega
    have h2' : tick ≤ 1099511627776 := by omega
    by_cases h6 : tick < x.tick
    · have HV : Hid (q = (zE, 2)) := by show q = _; rw [← hq2]; exact if_pos (.inl h6)
      clear hq2 h1 h2 h4b
      go_wp2_with (with_reducible change wpList _ _ _ ({ dst := some 35, op := _, type := _, pos := _, after := _, guard := _ } :: _) _ _; refine Hid.out ?_)
      show wpList _ _ _ _ _ _
      refine wpList_built rfl 37 _ rfl zE.cells.toArray (by rw [← HBL]; simp) ?_
      go_wp2_with (with_reducible change wpList _ _ _ ({ dst := none, op := Op.store 37 _ _, type := _, pos := _, after := _, guard := _ } :: _) _ _; refine Hid.out ?_)
      show wpList _ _ _ _ _ _
      refine wpList_store_blk rfl 37 (.tmp 9) (.tmp 35) rfl r 0 37 Z zE.cells rfl rfl H.out.2.1 (by rw [HZ.out]; omega) (info37 zE_ok) (En.one _) ?_
      intro W2 hx hg
      have H2 : Hid (Blk W2 r 37 zE.cells ∧ Below w.heap.size w W2) := ⟨blk_all hx.out (by rw [HZ.out]), below_gr H.out.1 hg.out H.out.2.2⟩
      clear hx hg
      go_wp2
      refine ret_tct rfl rfl rfl H2.out.1 Tryd.underlying37 rfl (info37 zE_ok) ?_
      rw [HV.out]
      exact ⟨_, rfl, .inl ⟨rfl, rfl⟩, H2.out.2⟩
    have h6' : x.tick ≤ tick := by omega
    rw [if_neg (fun k => k.elim h6 h2)] at hq2
    clear h1 h2 h6
    by_cases h3 : (16 : Int) < (m1 : Int)
    · have HV : Hid (q = (zE, 3)) := by show q = _; rw [← hq2]; exact if_pos (.inl (by omega))
      clear hq2 h4b
      go_wp2_with (with_reducible change wpList _ _ _ ({ dst := some 50, op := _, type := _, pos := _, after := _, guard := _ } :: _) _ _; refine Hid.out ?_)
      show wpList _ _ _ _ _ _
      refine wpList_built rfl 37 _ rfl zE.cells.toArray (by rw [← HBL]; simp) ?_
      go_wp2_with (with_reducible change wpList _ _ _ ({ dst := none, op := Op.store 37 _ _, type := _, pos := _, after := _, guard := _ } :: _) _ _; refine Hid.out ?_)
      show wpList _ _ _ _ _ _
      refine wpList_store_blk rfl 37 (.tmp 9) (.tmp 50) rfl r 0 37 Z zE.cells rfl rfl H.out.2.1 (by rw [HZ.out]; omega) (info37 zE_ok) (En.one _) ?_
      intro W2 hx hg
      have H2 : Hid (Blk W2 r 37 zE.cells ∧ Below w.heap.size w W2) := ⟨blk_all hx.out (by rw [HZ.out]), below_gr H.out.1 hg.out H.out.2.2⟩
      clear hx hg
      go_wp2
      refine ret_tct rfl rfl rfl H2.out.1 Tryd.underlying37 rfl (info37 zE_ok) ?_
      rw [HV.out]
      exact ⟨_, rfl, .inl ⟨rfl, rfl⟩, H2.out.2⟩
    by_cases h4 : (512 : Int) < (m2 : Int)
    · have HV : Hid (q = (zE, 3)) := by show q = _; rw [← hq2]; exact if_pos (.inr (.inl (by omega)))
      have h3' : (m1 : Int) ≤ 16 := by omega
      clear hq2 h3 h4b
      go_wp2_with (with_reducible change wpList _ _ _ ({ dst := some 50, op := _, type := _, pos := _, after := _, guard := _ } :: _) _ _; refine Hid.out ?_)
      show wpList _ _ _ _ _ _
      refine wpList_built rfl 37 _ rfl zE.cells.toArray (by rw [← HBL]; simp) ?_
      go_wp2_with (with_reducible change wpList _ _ _ ({ dst := none, op := Op.store 37 _ _, type := _, pos := _, after := _, guard := _ } :: _) _ _; refine Hid.out ?_)
      show wpList _ _ _ _ _ _
      refine wpList_store_blk rfl 37 (.tmp 9) (.tmp 50) rfl r 0 37 Z zE.cells rfl rfl H.out.2.1 (by rw [HZ.out]; omega) (info37 zE_ok) (En.one _) ?_
      intro W2 hx hg
      have H2 : Hid (Blk W2 r 37 zE.cells ∧ Below w.heap.size w W2) := ⟨blk_all hx.out (by rw [HZ.out]), below_gr H.out.1 hg.out H.out.2.2⟩
      clear hx hg
      go_wp2
      refine ret_tct rfl rfl rfl H2.out.1 Tryd.underlying37 rfl (info37 zE_ok) ?_
      rw [HV.out]
      exact ⟨_, rfl, .inl ⟨rfl, rfl⟩, H2.out.2⟩
    by_cases h5 : (4096 : Int) ≤ (n : Int)
    · have HV : Hid (q = (zE, 3)) := by show q = _; rw [← hq2]; exact if_pos (.inr (.inr (by omega)))
      have h3' : (m1 : Int) ≤ 16 := by omega
      have h4' : (m2 : Int) ≤ 512 := by omega
      clear hq2 h3 h4 h4b
      go_wp2_with (with_reducible change wpList _ _ _ ({ dst := some 50, op := _, type := _, pos := _, after := _, guard := _ } :: _) _ _; refine Hid.out ?_)
      show wpList _ _ _ _ _ _
      refine wpList_built rfl 37 _ rfl zE.cells.toArray (by rw [← HBL]; simp) ?_
      go_wp2_with (with_reducible change wpList _ _ _ ({ dst := none, op := Op.store 37 _ _, type := _, pos := _, after := _, guard := _ } :: _) _ _; refine Hid.out ?_)
      show wpList _ _ _ _ _ _
      refine wpList_store_blk rfl 37 (.tmp 9) (.tmp 50) rfl r 0 37 Z zE.cells rfl rfl H.out.2.1 (by rw [HZ.out]; omega) (info37 zE_ok) (En.one _) ?_
      intro W2 hx hg
      have H2 : Hid (Blk W2 r 37 zE.cells ∧ Below w.heap.size w W2) := ⟨blk_all hx.out (by rw [HZ.out]), below_gr H.out.1 hg.out H.out.2.2⟩
      clear hx hg
      go_wp2
      refine ret_tct rfl rfl rfl H2.out.1 Tryd.underlying37 rfl (info37 zE_ok) ?_
      rw [HV.out]
      exact ⟨_, rfl, .inl ⟨rfl, rfl⟩, H2.out.2⟩
    have h3' : (m1 : Int) ≤ 16 := by omega
    have h4' : (m2 : Int) ≤ 512 := by omega
    have h5' : (n : Int) < 4096 := by omega
    rw [if_neg (by omega)] at hq2
    obtain ⟨D, hD⟩ : ∃ D, hdE l = D := ⟨_, rfl⟩
    have HV : Hid (q = (⟨(n : Int) + 1, tick, who, what, D⟩, 0) ∧ hdE l = D ∧ D.length = 32) := ⟨by rw [← hq2, ← hD], hD, by rw [← hD]; exact hdE_len l⟩
    obtain ⟨y, hy⟩ : ∃ y : En, (⟨(n : Int) + 1, tick, who, what, D⟩ : En) = y := ⟨_, rfl⟩
    have HY : Hid ((⟨(n : Int) + 1, tick, who, what, D⟩ : En) = y ∧ y.ok) := by
      refine ⟨hy, ?_⟩
      rw [← hy]
      exact ⟨HV.out.2.2, by show (n : Int) + 1 ≤ _; omega, HM.out.2.2.2, by show who.size ≤ _; rw [HM.out.1]; omega, by show what.size ≤ _; rw [HM.out.2.1]; omega⟩
    have HBD : Hid (Tryd.prog.built 37 [(0, iv ((n : Int) + 1)), (1, iv tick), (2, .string who), (3, .string what), (4, .agg (U D).toArray)] = some y.cells.toArray) := by rw [← hy]; exact built37y _ _ _ _ D HV.out.2.2
    clear hq2 h3 h4 h5 hD h4b hy
    go_wp2_with fail
    refine (refHead_is (HE.out.below H.out.1) (by rw [HM.out.2.2.1]; omega) HRZ.out D HV.out.2.1).mono ?_
    rintro e W1 ⟨rfl, hb1⟩
    have H1 : Hid (Below w.heap.size w W1 ∧ Blk W1 r 37 Z) := ⟨below_tr H.out.1 hb1, H.out.2.1.below hb1 H.out.2.1.lt⟩
    clear hb1
    obtain ⟨g, hg⟩ : ∃ g, W1.heap.size = g := ⟨_, rfl⟩
    have HG : Hid (W1.heap.size = g) := hg
    go_wp2_with (with_reducible change wpList _ _ _ ({ dst := some 59, op := _, type := _, pos := _, after := _, guard := _ } :: _) _ _; refine Hid.out ?_)
    show wpList _ _ _ _ _ _
    refine wpList_built rfl 37 _ rfl y.cells.toArray (by simp [Act.eval]; exact HBD.out) ?_
    go_wp2_with (with_reducible change wpList _ _ _ ({ dst := none, op := Op.store 37 _ _, type := _, pos := _, after := _, guard := _ } :: _) _ _; refine Hid.out ?_)
    show wpList _ _ _ _ _ _
    refine wpList_store_blk rfl 37 (.tmp 11) (.tmp 59) rfl g 0 37 Z y.cells rfl rfl (by rw [← HG.out]; exact Blk.new W1 _ _) (by rw [HZ.out, En.len zE_ok, En.len HY.out.2]; exact Nat.le_refl _) (info37 HY.out.2) (En.one _) ?_
    intro W2 hx hg2
    have H2 : Hid (Below w.heap.size w W2 ∧ Blk W2 r 37 Z ∧ Blk W2 g 37 y.cells ∧ r < W1.heap.size) := by
      have hb : Below W1.heap.size W1 W2 := below_gr (below_al W1 _) hg2.out (by rw [HG.out]; exact Nat.le_refl _)
      exact ⟨below_tr H1.out.1 hb, H1.out.2.below hb H1.out.2.lt, blk_all hx.out (by rw [HZ.out, En.len zE_ok, En.len HY.out.2]), H1.out.2.lt⟩
    clear hx hg2 hg
    have HL6 : Hid (g < W2.heap.size ∧ some g ≠ some r) := ⟨H2.out.2.2.1.lt, fun e => by cases e; have := H2.out.2.2.2; have := HG.out; omega⟩
    have HR6 : Hid (W2.rangeAt g 0 y.cells) := H2.out.2.2.1.range0
    have HX6 : Hid (y.ok ∧ Z.length = y.cells.length) := ⟨HY.out.2, by rw [HZ.out, En.len zE_ok, En.len HY.out.2]⟩
    have HZ6 : Hid (Blk W2 r 37 Z) := H2.out.2.1
    have HRL6 : Hid (r < W2.heap.size) := H2.out.2.1.lt
    have HN6 : Hid (l.length ≤ 5000) := by have := HM.out.2.2.1; show l.length ≤ 5000; omega
    have HES6 : Hid (∀ V, W2.grownBy V (some r) → EsR V (.slice (some ⟨b, off, none⟩) n cap) l) := fun V hV => HE.out.below (below_gr H2.out.1 hV H.out.2.2)
    go_wp2_with fail
    refine ra6 HL6 HR6 HX6 HZ6 HRL6 HN6 HES6 ?_
    intro V1 q0 v2 q4 v5 hv1 hv2 hv3
    have H7 : Hid (Blk V1 r 37 y.cells ∧ OwE V1 w.heap.size v5 (l ++ [y]) ∧ Below w.heap.size w V1) := ⟨hv1, hv2.mono H2.out.1.size, below_gr H2.out.1 hv3 H.out.2.2⟩
    clear hv1 hv2 hv3
    go_wp2
    refine ret_tct rfl rfl rfl H7.out.1 Tryd.underlying37 rfl (info37 HY.out.2) ?_
    rw [HV.out.1, HY.out.1]
    exact ⟨_, rfl, .inr H7.out.2.1, H7.out.2.2⟩
#print axioms refAppend_is
end Go.Proofs.YtmmpafaegmejlaaDoor.Oct
