/-
  Layer 10 (patch): the writer: operations.
-/
import Derived.Test.YtgdecjacbkicmaaWrv
namespace Go.Proofs.Ytgdecjacbkicmaa.Oct
open Go.RowKit
set_option maxRecDepth 100000
set_option linter.unusedSimpArgs false
set_option linter.unusedVariables false

theorem flat_take {α : Type} (f : α → List UInt8) (l : List α) (i : Nat) (x : α) (h : l[i]? = some x) : (l.take (i + 1)).flatMap f = (l.take i).flatMap f ++ f x := by
  rw [List.take_add_one, h, List.flatMap_append]
  simp
theorem flat_len {α : Type} (f : α → List UInt8) (m : Nat) : ∀ (l : List α), (∀ x ∈ l, (f x).length ≤ m) → (l.flatMap f).length ≤ m * l.length
  | [], _ => by simp
  | x :: l, h => by
    have ih := flat_len f m l (fun y hy => h y (by simp [hy]))
    have h1 := h x (by simp)
    rw [List.flatMap_cons, List.length_append, List.length_cons, Nat.mul_add, Nat.mul_one]
    omega
theorem path_len {s : BA} (h : isPath s.data.toList = true) : s.size ≤ 64 := by
  have e : s.data.toList.length = s.size := rfl
  unfold isPath at h
  simp only [Bool.and_eq_true, decide_eq_true_eq] at h
  omega
theorem not_bad {t : BA} (h : bad t = false) : t.size ≤ 200 ∧ (10 : UInt8) ∉ t.data.toList := by
  unfold bad at h
  simp only [Bool.or_eq_false_iff, decide_eq_false_iff_not] at h
  exact ⟨by omega, h.2⟩
/-- what an operation that may be is like -/
theorem op_of {D : List Hs} {o : OpV} (h : opB D o = true) : isPath o.path.data.toList = true ∧ ((o.kind = 1 ∧ 0 < o.ln ∧ (∀ t ∈ o.ts, bad t = false) ∧ (eqVx o.up vTop = true ∨ eqVx o.up vBot = true ∨ lineOf D o.up = true) ∧ (eqVx o.dn vTop = true ∨ eqVx o.dn vBot = true ∨ lineOf D o.dn = true)) ∨ (o.kind = 2 ∧ o.ln = 0 ∧ o.dn = vTop ∧ lineOf D o.up = true)) := by
  unfold opB at h
  rw [Bool.and_eq_true, Bool.or_eq_true] at h
  refine ⟨h.1, ?_⟩
  rcases h.2 with h | h
  · left
    unfold addB at h
    simp only [Bool.and_eq_true, decide_eq_true_eq, Bool.not_eq_true', Bool.or_eq_true] at h
    obtain ⟨h1, h2, h3, h4, h5, _⟩ := h
    refine ⟨h1, by omega, fun t ht => ?_, ?_, ?_⟩
    · rw [List.any_eq_false] at h3
      have := h3 t ht
      simpa using this
    · rcases h4 with h | h
      · exact .inl h
      · exact .inr (.inr h)
    · rcases h5 with h | h
      · exact .inr (.inl h)
      · exact .inr (.inr h)
  · right
    unfold killB at h
    simp only [Bool.and_eq_true, decide_eq_true_eq] at h
    obtain ⟨h1, h2, h3, h4⟩ := h
    exact ⟨h1, h4, (eqVx_iff _ _).1 h3, h2⟩
theorem encO_len (D : List Hs) (o : OpV) (hD : D.length ≤ 100000) (h : opB D o = true) (ho : o.ts.length = o.ln) (hln : o.ln ≤ 64) : (encO D o).length ≤ 14000 := by
  obtain ⟨h1, h2⟩ := op_of h
  have hp := encT_len o.path (by have := path_len h1; omega)
  have hp2 := path_len h1
  unfold encO
  rw [List.length_cons, List.length_append, List.length_append]
  rcases h2 with ⟨hk, _, hb, hu, hd⟩ | ⟨hk, _, hd, hu⟩
  · rw [if_pos hk, List.length_append, List.length_append]
    have a1 := encV_len D o.up hD hu
    have a2 := encV_len D o.dn hD hd
    have a3 := enc_ten o.ln (by omega)
    have a4 := flat_len encT 210 o.ts (fun t ht => by have := (not_bad (hb t ht)).1; have := encT_len t (by omega); omega)
    rw [ho] at a4
    have : 210 * o.ln ≤ 210 * 64 := Nat.mul_le_mul_left _ hln
    omega
  · rw [if_neg (by omega)]
    have a1 := encV_len D o.up hD (.inr (.inr hu))
    simp only [List.length_nil]
    omega
set_option maxHeartbeats 2000000 in
theorem opW_is {B : Nat} {w : World} {g : Nat} {da : Option Addr} {dn dc : Nat} {M : List UInt8} (h : Wr B w g (.slice da dn dc) M) (D : List Hs) (hD : ∀ V, Below B w V → HsR V da dn D) (hdn : dn ≤ 100000) (o : OpV) (ho : o.ok) (hs : ∀ V, Below B w V → Strs V o.la o.ln o.ts) (hB : opB D o = true) (hln : o.ln ≤ 64) (hM : M.length ≤ 800000) (R : List UInt8) (hR : encO D o = R) :
    Calls Try.prog 64 #[.pointer (some ⟨g, 0, none⟩), .agg o.cells.toArray] w (WrP B g (.slice da dn dc) (M ++ R) w) := by
  have HP : Hid ((∀ V, Below B w V → HsR V da dn D) ∧ dn ≤ 100000 ∧ o.ok ∧ (∀ V, Below B w V → Strs V o.la o.ln o.ts) ∧ M.length ≤ 800000 ∧ B ≤ w.heap.size) := ⟨hD, hdn, ho, hs, hM, h.lt.2⟩
  obtain ⟨hpa, hof⟩ := op_of hB
  have hDl := (hD w (Below.refl _ _)).1
  have HPA : Hid (o.path.size ≤ 64 ∧ D.length ≤ 100000) := ⟨path_len hpa, by omega⟩
  obtain ⟨d, hd⟩ : ∃ d, w.heap.size = d := ⟨_, rfl⟩
  obtain ⟨W, hW⟩ : ∃ W, w.alloc (.cells o.cells.toArray 51) = W := ⟨_, rfl⟩
  have hbw : Below w.heap.size w W := by rw [← hW]; exact below_al _ _
  have hk : OpB W d o := ⟨by rw [← hW, ← hd]; exact Blk.new w _ _, ho⟩
  have c0 := hk.kind
  have H0 : Hid (Fr B w W ∧ OpB W d o ∧ Wr B W g (.slice da dn dc) M) := ⟨Fr.of_below hbw h.lt.2, hk, h.below hbw⟩
  obtain ⟨kd, hkd⟩ : ∃ m, o.kind = m := ⟨_, rfl⟩
  have HKD : Hid (o.kind = kd) := hkd
  rw [hkd] at c0 hof
  have hU : eqVx o.up vTop = true ∨ eqVx o.up vBot = true ∨ lineOf D o.up = true := by
    rcases hof with ⟨_, _, _, h, _⟩ | ⟨_, _, _, h⟩
    · exact h
    · exact .inr (.inr h)
  have HU : Hid (eqVx o.up vTop = true ∨ eqVx o.up vBot = true ∨ lineOf D o.up = true) := hU
  obtain ⟨E1, hE1⟩ : ∃ E, encT o.path = E := ⟨_, rfl⟩
  obtain ⟨E2, hE2⟩ : ∃ E, encV D o.up = E := ⟨_, rfl⟩
  have HE : Hid (encT o.path = E1 ∧ encV D o.up = E2 ∧ E1.length ≤ 80 ∧ E2.length ≤ 21) := ⟨hE1, hE2, by rw [← hE1]; have := encT_len o.path (by have := HPA.out.1; omega); have := HPA.out.1; omega, by rw [← hE2]; exact encV_len D o.up HPA.out.2 hU⟩
  unfold encO at hR
  rw [hkd, hE1, hE2] at hR
  clear h hD hdn ho hs hB hM hbw hk hkd hU hE1 hE2 hpa hDl
  rcases hof with ⟨hk1, _, hbad, _, hdn⟩ | ⟨hk1, hl0, hdt, hul⟩
  · subst hk1
    rw [if_pos rfl] at hR
    have HB : Hid (∀ t ∈ o.ts, t.size ≤ 200) := fun t ht => (not_bad (hbad t ht)).1
    have HDn : Hid (eqVx o.dn vTop = true ∨ eqVx o.dn vBot = true ∨ lineOf D o.dn = true) := hdn
    obtain ⟨E3, hE3⟩ : ∃ E, encV D o.dn = E := ⟨_, rfl⟩
    obtain ⟨E4, hE4⟩ : ∃ E, enc o.ln = E := ⟨_, rfl⟩
    have HE3 : Hid (encV D o.dn = E3 ∧ enc o.ln = E4 ∧ E3.length ≤ 21 ∧ E4.length ≤ 10 ∧ o.ln ≤ 64 ∧ o.ts.length = o.ln) := ⟨hE3, hE4, by rw [← hE3]; exact encV_len D o.dn HPA.out.2 hdn, by rw [← hE4]; exact enc_ten o.ln (by omega), hln, HP.out.2.2.1.2.2.1⟩
    rw [hE3, hE4] at hR
    have HR : Hid (UInt8.ofNat (1 : Int).toNat :: (E1 ++ (E2 ++ (E3 ++ (E4 ++ o.ts.flatMap encT)))) = R) := hR
    have qln : (o.ln : Int) ≤ 64 := by omega
    clear hbad hdn hE3 hE4 hR hln
    go_enter Try.func64, Try.ntmps64
    go_wp2_with fail
    refine (mark_is H0.out.2.2 1 (by have := HP.out.2.2.2.2.1; omega)).mono ?_
    rintro e W1 ⟨⟨rv1, rfl⟩, hw1, hf1⟩
    have H1 : Hid (Fr B w W1 ∧ OpB W1 d o ∧ Wr B W1 g (.slice da dn dc) (M ++ [1])) := ⟨H0.out.1.trans hf1, ⟨H0.out.2.1.blk.fr hf1 (by decide) (by decide), H0.out.2.1.ok⟩, hw1⟩
    have c1 := H1.out.2.1.path
    clear hw1 hf1 hW hd c0 H0
    go_wp2_with fail
    refine (text_is H1.out.2.2 o.path (by rw [List.length_append]; have := HP.out.2.2.2.2.1; simp; omega) (by have := HPA.out.1; omega)).mono ?_
    rintro e W2 ⟨⟨rv2, rfl⟩, hw2, hf2⟩
    rw [HE.out.1] at hw2
    have H2 : Hid (Fr B w W2 ∧ OpB W2 d o ∧ Wr B W2 g (.slice da dn dc) (M ++ [1] ++ E1)) := ⟨H1.out.1.trans hf2, ⟨H1.out.2.1.blk.fr hf2 (by decide) (by decide), H1.out.2.1.ok⟩, hw2⟩
    clear hw2 hf2 c1 H1
    go_wp2_with (with_reducible change wpList _ _ _ ({ dst := some 17, op := _, type := _, pos := _, after := _, guard := _ } :: _) _ _; refine Hid.out ?_)
    show wpList _ _ _ _ _ _
    refine wpList_load_mid rfl 49 (.tmp 16) rfl d 2 rfl o.up.cells _ H2.out.2.1.up Try.underlying49 rfl (info49 HP.out.2.2.1.1) ?_
    go_wp2_with fail
    refine (vertex_is H2.out.2.2 D (fun V hV => HP.out.1 V (H2.out.1.below.trans hV)) HP.out.2.1 o.up HP.out.2.2.1.1 HU.out (by simp only [List.length_append]; have := HP.out.2.2.2.2.1; have := HE.out.2.2.1; simp; omega) E2 HE.out.2.1).mono ?_
    rintro e W3 ⟨⟨rv3, rfl⟩, hw3, hf3⟩
    have H3 : Hid (Fr B w W3 ∧ OpB W3 d o ∧ Wr B W3 g (.slice da dn dc) (M ++ [1] ++ E1 ++ E2)) := ⟨H2.out.1.trans hf3, ⟨H2.out.2.1.blk.fr hf3 (by decide) (by decide), H2.out.2.1.ok⟩, hw3⟩
    have c0 : W3.cell? ⟨d, 0, none⟩ = some (iv 1) := by rw [← HKD.out]; exact H3.out.2.1.kind
    clear hw3 hf3 H2
    go_wp2_with (with_reducible change wpList _ _ _ ({ dst := some 24, op := _, type := _, pos := _, after := _, guard := _ } :: _) _ _; refine Hid.out ?_)
    show wpList _ _ _ _ _ _
    refine wpList_load_mid rfl 49 (.tmp 23) rfl d 35 rfl o.dn.cells _ H3.out.2.1.dn Try.underlying49 rfl (info49 HP.out.2.2.1.2.1) ?_
    go_wp2_with fail
    refine (vertex_is H3.out.2.2 D (fun V hV => HP.out.1 V (H3.out.1.below.trans hV)) HP.out.2.1 o.dn HP.out.2.2.1.2.1 HDn.out (by simp only [List.length_append]; have := HP.out.2.2.2.2.1; have := HE.out.2.2; simp; omega) E3 HE3.out.1).mono ?_
    rintro e W4 ⟨⟨rv4, rfl⟩, hw4, hf4⟩
    have H4 : Hid (Fr B w W4 ∧ OpB W4 d o ∧ Wr B W4 g (.slice da dn dc) (M ++ [1] ++ E1 ++ E2 ++ E3)) := ⟨H3.out.1.trans hf4, ⟨H3.out.2.1.blk.fr hf4 (by decide) (by decide), H3.out.2.1.ok⟩, hw4⟩
    have c68 := H4.out.2.1.lines
    clear hw4 hf4 c0 H3
    go_wp2_with fail
    refine (number_w H4.out.2.2 o.ln (by simp only [List.length_append]; have := HP.out.2.2.2.2.1; have := HE.out.2.2; have := HE3.out.2.2.1; simp; omega) (by have := HE3.out.2.2.2.2.1; omega)).mono ?_
    rintro e W5 ⟨⟨rv5, rfl⟩, hw5, hf5⟩
    rw [HE3.out.2.1] at hw5
    have H5 : Hid (Fr B w W5 ∧ OpB W5 d o ∧ Wr B W5 g (.slice da dn dc) (M ++ [1] ++ E1 ++ E2 ++ E3 ++ E4)) := ⟨H4.out.1.trans hf5, ⟨H4.out.2.1.blk.fr hf5 (by decide) (by decide), H4.out.2.1.ok⟩, hw5⟩
    clear hw5 hf5 c68 H4
    have c68 := H5.out.2.1.lines
    obtain ⟨M5, hM5⟩ : ∃ M5, M ++ [1] ++ E1 ++ E2 ++ E3 ++ E4 = M5 := ⟨_, rfl⟩
    have HM5 : Hid (M ++ [1] ++ E1 ++ E2 ++ E3 ++ E4 = M5 ∧ M5.length ≤ 800200 ∧ Wr B W5 g (.slice da dn dc) M5 ∧ Fr B w W5) := ⟨hM5, by rw [← hM5]; simp only [List.length_append]; have := HP.out.2.2.2.2.1; have := HE.out.2.2; have := HE3.out.2.2; simp; omega, by rw [← hM5]; exact H5.out.2.2, H5.out.1⟩
    clear hM5 H5
    obtain ⟨ln, hlnn⟩ : ∃ n, o.ln = n := ⟨_, rfl⟩
    obtain ⟨la, hla⟩ : ∃ n, o.la = n := ⟨_, rfl⟩
    obtain ⟨lc, hlc⟩ : ∃ n, o.lc = n := ⟨_, rfl⟩
    have HLN : Hid (o.ln = ln ∧ o.la = la ∧ ln ≤ 64 ∧ o.ts.length = ln) := ⟨hlnn, hla, by rw [← hlnn]; exact HE3.out.2.2.2.2.1, by rw [← hlnn]; exact HE3.out.2.2.2.2.2⟩
    rw [hlnn, hla, hlc] at c68
    rw [hlnn] at qln
    clear hlnn hla hlc
    go_wp2_with fail
    go_loopw [34] (fun u wr => ∃ i : Nat, u = iv (i : Int) ∧ (i : Int) ≤ (ln : Int) ∧ Hid (Wr B wr g (.slice da dn dc) (M5 ++ (o.ts.take i).flatMap encT) ∧ Fr B w wr)) (fun u _ => ln - (intOf u).toNat)
    case atStart => exact ⟨0, rfl, by omega, by simpa using HM5.out.2.2.1, HM5.out.2.2.2⟩
    case round =>
      obtain ⟨V, hV⟩ : ∃ V, V = wr := ⟨_, rfl⟩
      subst hV
      obtain ⟨i, rfl, qi, HI⟩ := hrel
      clear c68
      by_cases hi : i < ln
      · obtain ⟨x, hx⟩ : ∃ x, o.ts[i]? = some x := ⟨_, List.getElem?_eq_getElem (by rw [HLN.out.2.2.2]; exact hi)⟩
        have hst := HP.out.2.2.2.1 w (Below.refl _ _)
        rw [HLN.out.1, HLN.out.2.1] at hst
        obtain ⟨gg, off, rfl, hg, hel⟩ := hst.2 (by omega)
        have hst2 := HP.out.2.2.2.1 V HI.out.2.below
        rw [HLN.out.1, HLN.out.2.1] at hst2
        obtain ⟨gg2, off2, e2, hg2, hel2⟩ := hst2.2 (by omega)
        cases e2
        have cx : V.cell? ⟨gg, off + i, none⟩ = some (.string x) := hel2 i x hx
        have hxs := HB.out x (List.mem_of_getElem? hx)
        have hfl := flat_take encT o.ts i x hx
        have hfb := flat_len encT 210 (o.ts.take i) (fun t ht => by have := HB.out t (List.mem_of_mem_take ht); have := encT_len t (by omega); omega)
        have htl : (o.ts.take i).length ≤ 64 := by rw [List.length_take]; have := HLN.out.2.2.1; omega
        have HX : Hid (i < ln ∧ x.size ≤ 200 ∧ (o.ts.take (i + 1)).flatMap encT = (o.ts.take i).flatMap encT ++ encT x ∧ ((o.ts.take i).flatMap encT).length ≤ 13440) := ⟨hi, hxs, hfl, by have : 210 * (o.ts.take i).length ≤ 210 * 64 := Nat.mul_le_mul_left _ htl; omega⟩
        have q1 : (i : Int) < (ln : Int) := by omega
        clear hst hst2 hg hel hg2 hel2 hx hxs hfl hfb htl hi qi
        go_wp2_with fail
        refine (text_is HI.out.1 x (by rw [List.length_append]; have := HM5.out.2.1; have := HX.out.2.2.2; omega) (by have := HX.out.2.1; omega)).mono ?_
        rintro e V2 ⟨⟨rv6, rfl⟩, hw6, hf6⟩
        have H6 : Hid (Wr B V2 g (.slice da dn dc) (M5 ++ (o.ts.take (i + 1)).flatMap encT) ∧ Fr B w V2 ∧ i < ln) := ⟨by rw [HX.out.2.2.1, ← List.append_assoc]; exact hw6, HI.out.2.trans hf6, HX.out.1⟩
        clear hw6 hf6 cx
        go_wp2
        go_roundw
        case rel => exact ⟨i + 1, by simp, by have := H6.out.2.2; omega, H6.out.1, H6.out.2.1⟩
        case measure => have := H6.out.2.2; simp only [intOf]; omega
      · have q1 : (ln : Int) ≤ (i : Int) := by omega
        have HF : Hid (Wr B V g (.slice da dn dc) (M ++ R) ∧ Fr B w V) := by
          refine ⟨?_, HI.out.2⟩
          have h1 := HI.out.1
          rw [List.take_of_length_le (by rw [HLN.out.2.2.2]; omega)] at h1
          have e1 : M5 ++ o.ts.flatMap encT = M ++ R := by
            rw [← HR.out, ← HM5.out.1]
            simp only [List.append_assoc, List.cons_append, List.nil_append]
            rfl
          rw [← e1]
          exact h1
        clear hi
        go_wp2
        go_end0
        exact ⟨⟨_, rfl⟩, HF.out.1, HF.out.2⟩
  · subst hk1
    rw [if_neg (by decide), List.append_nil] at hR
    have HR : Hid (UInt8.ofNat (2 : Int).toNat :: (E1 ++ E2) = R) := hR
    clear hl0 hdt hul hR hln
    go_enter Try.func64, Try.ntmps64
    go_wp2_with fail
    refine (mark_is H0.out.2.2 2 (by have := HP.out.2.2.2.2.1; omega)).mono ?_
    rintro e W1 ⟨⟨rv1, rfl⟩, hw1, hf1⟩
    have H1 : Hid (Fr B w W1 ∧ OpB W1 d o ∧ Wr B W1 g (.slice da dn dc) (M ++ [2])) := ⟨H0.out.1.trans hf1, ⟨H0.out.2.1.blk.fr hf1 (by decide) (by decide), H0.out.2.1.ok⟩, hw1⟩
    have c1 := H1.out.2.1.path
    clear hw1 hf1 hW hd c0 H0
    go_wp2_with fail
    refine (text_is H1.out.2.2 o.path (by rw [List.length_append]; have := HP.out.2.2.2.2.1; simp; omega) (by have := HPA.out.1; omega)).mono ?_
    rintro e W2 ⟨⟨rv2, rfl⟩, hw2, hf2⟩
    rw [HE.out.1] at hw2
    have H2 : Hid (Fr B w W2 ∧ OpB W2 d o ∧ Wr B W2 g (.slice da dn dc) (M ++ [2] ++ E1)) := ⟨H1.out.1.trans hf2, ⟨H1.out.2.1.blk.fr hf2 (by decide) (by decide), H1.out.2.1.ok⟩, hw2⟩
    clear hw2 hf2 c1 H1
    go_wp2_with (with_reducible change wpList _ _ _ ({ dst := some 17, op := _, type := _, pos := _, after := _, guard := _ } :: _) _ _; refine Hid.out ?_)
    show wpList _ _ _ _ _ _
    refine wpList_load_mid rfl 49 (.tmp 16) rfl d 2 rfl o.up.cells _ H2.out.2.1.up Try.underlying49 rfl (info49 HP.out.2.2.1.1) ?_
    go_wp2_with fail
    refine (vertex_is H2.out.2.2 D (fun V hV => HP.out.1 V (H2.out.1.below.trans hV)) HP.out.2.1 o.up HP.out.2.2.1.1 HU.out (by simp only [List.length_append]; have := HP.out.2.2.2.2.1; have := HE.out.2.2.1; simp; omega) E2 HE.out.2.1).mono ?_
    rintro e W3 ⟨⟨rv3, rfl⟩, hw3, hf3⟩
    have H3 : Hid (Fr B w W3 ∧ OpB W3 d o ∧ Wr B W3 g (.slice da dn dc) (M ++ [2] ++ E1 ++ E2)) := ⟨H2.out.1.trans hf3, ⟨H2.out.2.1.blk.fr hf3 (by decide) (by decide), H2.out.2.1.ok⟩, hw3⟩
    have c0 : W3.cell? ⟨d, 0, none⟩ = some (iv 2) := by rw [← HKD.out]; exact H3.out.2.1.kind
    clear hw3 hf3 H2
    have HF : Hid (Wr B W3 g (.slice da dn dc) (M ++ R) ∧ Fr B w W3) := by
      refine ⟨?_, H3.out.1⟩
      have e1 : M ++ [2] ++ E1 ++ E2 = M ++ R := by
        rw [← HR.out]
        simp only [List.append_assoc, List.cons_append, List.nil_append]
        rfl
      rw [← e1]
      exact H3.out.2.2
    clear H3
    go_wp2
    go_end0
    exact ⟨⟨_, rfl⟩, HF.out.1, HF.out.2⟩
#print axioms opW_is
end Go.Proofs.Ytgdecjacbkicmaa.Oct
