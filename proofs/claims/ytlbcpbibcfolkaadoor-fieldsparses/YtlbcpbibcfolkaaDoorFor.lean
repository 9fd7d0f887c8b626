/-
  Layer 22 (fields): form of the program.
-/
import Derived.Test.YtlbcpbibcfolkaaDoorPai
namespace Go.Proofs.YtlbcpbibcfolkaaDoor.Oct
open Go.RowKit
set_option linter.unusedSimpArgs false
set_option linter.unusedVariables false

abbrev LL := List UInt8 × List UInt8
/-- what stands behind a piece; as many pieces more may come -/
def restF : Nat → List UInt8 → List LL × Nat × Int
  | 0, l => if l.head? = some 38 then ([], 1, 3) else ([], 0, 0)
  | k + 1, l => if l.head? = some 38 then
      (if (pairF (l.drop 1)).2.2 ≠ 0 then ([], 1 + (pairF (l.drop 1)).2.1, (pairF (l.drop 1)).2.2)
       else ((pairF (l.drop 1)).1 :: (restF k (l.drop (1 + (pairF (l.drop 1)).2.1))).1, 1 + (pairF (l.drop 1)).2.1 + (restF k (l.drop (1 + (pairF (l.drop 1)).2.1))).2.1, (restF k (l.drop (1 + (pairF (l.drop 1)).2.1))).2.2))
    else ([], 0, 0)
def formF (l : List UInt8) : List LL × Nat × Int :=
  if l = [] then ([], 0, 0) else if (pairF l).2.2 ≠ 0 then ([], (pairF l).2.1, (pairF l).2.2)
  else ((pairF l).1 :: (restF 63 (l.drop (pairF l).2.1)).1, (pairF l).2.1 + (restF 63 (l.drop (pairF l).2.1)).2.1, (restF 63 (l.drop (pairF l).2.1)).2.2)
theorem rest_no {k : Nat} {l : List UInt8} (h : l.head? ≠ some 38) : restF k l = ([], 0, 0) := by cases k <;> (unfold restF; rw [if_neg h])
theorem rest_zero {l : List UInt8} (h : l.head? = some 38) : restF 0 l = ([], 1, 3) := by unfold restF; rw [if_pos h]
theorem rest_bad {k : Nat} {l : List UInt8} (h : l.head? = some 38) (h2 : (pairF (l.drop 1)).2.2 ≠ 0) : restF (k + 1) l = ([], 1 + (pairF (l.drop 1)).2.1, (pairF (l.drop 1)).2.2) := by unfold restF; rw [if_pos h, if_pos h2]
theorem rest_step {k : Nat} {l : List UInt8} (h : l.head? = some 38) (h2 : (pairF (l.drop 1)).2.2 = 0) : restF (k + 1) l = ((pairF (l.drop 1)).1 :: (restF k (l.drop (1 + (pairF (l.drop 1)).2.1))).1, 1 + (pairF (l.drop 1)).2.1 + (restF k (l.drop (1 + (pairF (l.drop 1)).2.1))).2.1, (restF k (l.drop (1 + (pairF (l.drop 1)).2.1))).2.2) := by
  conv => lhs; unfold restF
  rw [if_pos h, if_neg (fun hh => hh h2)]
/-- what form answers -/
def FoP (w : World) (g : Nat) (s : BA) (p : Nat) (r : List LL × Nat × Int) (e : Ending) (w' : World) : Prop :=
  (r.2.2 = 0 ∧ (∃ v, e = .returned v ∧ OwP w' w.heap.size v (r.1.map mkP)) ∧ w.grownBy w' (some g)) ∨ (r.2.2 ≠ 0 ∧ e = gvP (p + r.2.1) r.2.2 ∧ w.grownBy w' (some g))
/-- where the reading of a form stands -/
structure FI (w : World) (g : Nat) (s : BA) (p : Nat) (v : Value) (q : Nat) (o : List LL) (wr : World) : Prop where
  own : OwP wr w.heap.size v (o.map mkP)
  rd : Rd wr g s q
  gr : w.grownBy wr (some g)
  len : 1 ≤ o.length ∧ o.length ≤ 64
  e1 : (formF (s.data.toList.drop p)).1 = o ++ (restF (64 - o.length) (s.data.toList.drop q)).1
  e2 : p + (formF (s.data.toList.drop p)).2.1 = q + (restF (64 - o.length) (s.data.toList.drop q)).2.1
  e3 : (formF (s.data.toList.drop p)).2.2 = (restF (64 - o.length) (s.data.toList.drop q)).2.2
theorem FI.below {w wr wr' : World} {g p q : Nat} {s : BA} {v : Value} {o : List LL} (h : FI w g s p v q o wr) (hb : Below wr.heap.size wr wr') : FI w g s p v q o wr' :=
  ⟨h.own.below hb, h.rd.below hb, h.gr.trans (gr_of hb), h.len, h.e1, h.e2, h.e3⟩
theorem owp_gr {w w1 w2 : World} {g : Nat} {v : Value} {o : List Pr} (h : OwP w1 w.heap.size v o) (k : w1.grownBy w2 (some g)) (hg : g < w.heap.size) : OwP w2 w.heap.size v o :=
  h.same fun j hj => k.block j (h.lt hj).2 (by have := (h.lt hj).1; intro e; have := Option.some.inj e; omega)
theorem gr_own {w w1 w2 : World} {g : Nat} {v : Value} {o : List Pr} (h : w.grownBy w1 (some g)) (ho : OwP w1 w.heap.size v o) (k : w1.grownBy w2 v.ownBlock) : w.grownBy w2 (some g) :=
  ⟨k.os.trans h.os, k.tape.trans h.tape, k.output.trans h.output, Nat.le_trans h.size k.size, fun j hj hn => (k.block j (Nat.lt_of_lt_of_le hj h.size) (fun e => by have := (ho.lt e.symm).1; omega)).trans (h.block j hj hn)⟩
theorem rd_own {w1 w2 : World} {g q B : Nat} {s : BA} {v : Value} {o : List Pr} (h : Rd w1 g s q) (hg : g < B) (ho : OwP w1 B v o) (k : w1.grownBy w2 v.ownBlock) : Rd w2 g s q :=
  ⟨h.1.kept k (fun e => by have := (ho.lt e.symm).1; omega), h.2⟩
theorem sl_of {w : World} {B : Nat} {v : Value} {l : List Pr} (h : OwP w B v l) : ∃ a cap, v = .slice a l.length cap := by
  obtain ⟨_, a, cap, e, _⟩ := h.esr
  exact ⟨a, cap, e⟩
theorem psr_one {w : World} {e : Pr} (he : e.ok) : PsR (w.alloc (.cells e.cells.toArray 49)) (.slice (some ⟨w.heap.size, 0, none⟩) 1 1) [e] := (own1 w e he).esr
theorem wpList_bs {ops : Array Oper} {rest : List Oper} {o : Oper} {a : Act} {w : World} {Q : Exit → Act → World → Prop} (hgd : o.guard = none) (x : Operand) (hop : o.op = .buildSlice 32 1 #[(0, x)]) (e : Pr) (hx : a.eval x = .agg e.cells.toArray)
    (hk : wpList Tryd.prog ops Q rest (a.put o.dst (.slice (some ⟨w.heap.size, 0, none⟩) 1 1)) (w.alloc (.cells e.cells.toArray 49))) : wpList Tryd.prog ops Q (o :: rest) a w := by
  refine wpList_plain hgd fun K hK => ?_
  have h := run_bs1 e w
  unfold Oper.wp execOp
  simp only [hop, Sem.run_bind, Sem.run_pure, Result.andThen_ok, List.map_toArray, List.map_cons, List.map_nil, hx, h]
  exact hK _ _ hk
def lenV : Value → Nat | .slice _ n _ => n | _ => 0
set_option maxRecDepth 100000 in
set_option maxHeartbeats 1000000 in
theorem form_is {w : World} {g p : Nat} {s : BA} (h : Rd w g s p) : Calls Tryd.prog 33 #[.pointer (some ⟨g, 0, none⟩)] w (FoP w g s p (formF (s.data.toList.drop p))) := by
  have HG : Hid (g < w.heap.size ∧ s.size ≤ 140737488355328) := ⟨h.1.lt, h.2.1⟩
  have HR : Hid (Rd w g s p) := h
  have hbs := run_bs1
  clear h
  go_enter Tryd.func33, Tryd.ntmps33
  by_cases hE : s.size ≤ p
  · have HF : Hid (formF (s.data.toList.drop p) = ([], 0, 0) ∧ s.size ≤ p) := ⟨by rw [List.drop_of_length_le hE]; rfl, hE⟩
    clear hE
    go_wp2_with fail
    refine (atEnd_is HR.out true ⟨fun _ => HF.out.2, fun _ => rfl⟩).mono ?_
    rintro e W1 ⟨rfl, hb1⟩
    have H1 : Hid (w.grownBy W1 (some g)) := gr_of hb1
    clear hb1
    go_wp2
    go_ret
    refine .inl ?_
    rw [HF.out.1]
    exact ⟨rfl, ⟨_, rfl, OwP.nil _ _⟩, H1.out⟩
  have HP : Hid (¬ s.size ≤ p ∧ s.data.toList.drop p ≠ []) := ⟨hE, fun h => hE (List.drop_eq_nil_iff.1 h)⟩
  clear hE
  go_wp2_with fail
  refine (atEnd_is HR.out false ⟨(fun h => nomatch h), fun h => absurd h HP.out.1⟩).mono ?_
  rintro e W1 ⟨rfl, hb1⟩
  have H1 : Hid (Rd W1 g s p ∧ w.grownBy W1 (some g)) := ⟨HR.out.below hb1, gr_of hb1⟩
  clear hb1 HR
  go_wp2_with fail
  refine (pair_is H1.out.1).mono ?_
  intro e W2 hq2
  rcases Or.symm hq2 with ⟨h2, he, hg2⟩ | ⟨h2, he, hr2, hg2, hok⟩
  · have HF : Hid (w.grownBy W2 (some g) ∧ formF (s.data.toList.drop p) = ([], (pairF (s.data.toList.drop p)).2.1, (pairF (s.data.toList.drop p)).2.2) ∧ (pairF (s.data.toList.drop p)).2.2 ≠ 0) := ⟨H1.out.2.trans hg2, by unfold formF; rw [if_neg HP.out.2, if_pos h2], h2⟩
    rw [gvP] at he
    subst he
    clear h2 hg2 hq2
    go_wp2
    refine ⟨rfl, .inr ?_⟩
    rw [HF.out.2.1]
    exact ⟨HF.out.2.2, rfl, HF.out.1⟩
  subst he
  obtain ⟨x, hx⟩ : ∃ x, mkP (pairF (s.data.toList.drop p)).1 = x := ⟨_, rfl⟩
  rw [hx] at hok ⊢
  have H2 : Hid (x.ok) := hok
  obtain ⟨W3, hW3⟩ : ∃ W3, W2.alloc (.cells x.cells.toArray 49) = W3 := ⟨_, rfl⟩
  have hb3 : Below W2.heap.size W2 W3 := by rw [← hW3]; exact below_al _ _
  have hso : W2.heap.size = W2.heap.size := rfl
  have H0 : Hid (FI w g s p (.slice (some ⟨W2.heap.size, 0, none⟩) 1 1) (p + (pairF (s.data.toList.drop p)).2.1) [(pairF (s.data.toList.drop p)).1] W3) := by
    have hf : formF (s.data.toList.drop p) = ((pairF (s.data.toList.drop p)).1 :: (restF 63 ((s.data.toList.drop p).drop (pairF (s.data.toList.drop p)).2.1)).1, (pairF (s.data.toList.drop p)).2.1 + (restF 63 ((s.data.toList.drop p).drop (pairF (s.data.toList.drop p)).2.1)).2.1, (restF 63 ((s.data.toList.drop p).drop (pairF (s.data.toList.drop p)).2.1)).2.2) := by
      unfold formF
      rw [if_neg HP.out.2, if_neg (fun hh => hh h2)]
    rw [List.drop_drop] at hf
    refine ⟨?_, hr2.below hb3, (H1.out.2.trans hg2).trans (gr_of hb3), ⟨by simp, by simp⟩, ?_, ?_, ?_⟩
    · have := (own1 W2 x hok).mono (B' := w.heap.size) (H1.out.2.trans hg2).size
      rw [← hx, hW3.symm] at *
      simpa using this
    · rw [hf]; rfl
    · rw [hf]; exact (Nat.add_assoc _ _ _).symm
    · rw [hf]; rfl
  clear hb3 hok hr2 hg2 h2 hx hso hq2 hbs
  go_wp2_with (with_reducible change wpList _ _ _ ({ dst := some 8, op := _, type := _, pos := _, after := _, guard := _ } :: _) _ _; refine Hid.out ?_)
  show wpList _ _ _ _ _ _
  refine wpList_bs rfl (.tmp 7) rfl x rfl ?_
  rw [hW3]
  clear hW3
  go_wp2
  go_loopw [3] (fun u wr => ∃ (a : Option Addr) (n cp q : Nat) (o : List LL), u = .slice a n cp ∧ o.length = n ∧ n ≤ 64 ∧ Hid (FI w g s p (.slice a n cp) q o wr)) (fun u _ => 64 - lenV u)
  case atStart => exact ⟨_, 1, 1, _, [(pairF (s.data.toList.drop p)).1], rfl, rfl, by omega, H0.out⟩
  case round =>
    obtain ⟨a, n, cp, q, o, rfl, hn, qn, HI⟩ := hrel
    have HN : Hid (o.length = n ∧ n ≤ 64) := ⟨hn, qn⟩
    clear H0 hn qn H2
    by_cases hq : (s.data.toList.drop q).head? = some 38
    · have HQ : Hid (atOne s q ⟨#[38]⟩ = true ∧ (s.data.toList.drop q).head? = some 38) := ⟨by rw [atOne_head]; exact decide_eq_true hq, hq⟩
      have hlt : q < s.size := by
        rcases Nat.lt_or_ge q s.size with h | h
        · exact h
        · rw [List.drop_of_length_le h] at hq; cases hq
      have HLT : Hid (q + 1 ≤ s.size) := hlt
      have qp : (q : Int) ≤ 140737488355328 := by have := HG.out.2; omega
      clear hq hlt
      go_wp2_with fail
      refine (atOne_is HI.out.rd ⟨#[38]⟩ true HQ.out.1).mono ?_
      rintro e V1 ⟨rfl, hb1⟩
      have HJ : Hid (FI w g s p (.slice a n cp) q o V1) := HI.out.below hb1
      clear hb1 HI
      have c1 := HJ.out.rd.c1
      have f1 := HJ.out.rd.1.free 1
      obtain ⟨V2, hV2⟩ : ∃ V2, V1.setCell ⟨g, 1, none⟩ (iv ((q : Int) + 1)) = V2 := ⟨_, rfl⟩
      have H3 : Hid (Rd V2 g s (q + 1) ∧ w.grownBy V2 (some g) ∧ OwP V2 w.heap.size (.slice a n cp) (o.map mkP)) := by
        have e3 : V1.setCell ⟨g, 1, none⟩ (iv (((q + 1 : Nat)) : Int)) = V2 := by rw [← hV2]; rfl
        rw [← e3]
        exact ⟨HJ.out.rd.set HLT.out, HJ.out.gr.trans (grown_setCell _ _ _ _), owp_gr HJ.out.own (grown_setCell _ _ _ _) HG.out.1⟩
      by_cases hfull : n = 64
      · subst hfull
        have HF : Hid (restF (64 - o.length) (s.data.toList.drop q) = ([], 1, 3)) := by show _ = _; rw [HN.out.1]; exact rest_zero HQ.out.2
        go_wp2_with fail
        refine (giveUp_is H3.out.1 3).mono ?_
        rintro e V3 ⟨he, rfl⟩
        rw [gvP] at he
        subst he
        clear c1 f1 hV2
        go_wp2
        refine ⟨rfl, .inr ?_⟩
        refine ⟨by rw [HJ.out.e3, HF.out]; show (3 : Int) ≠ 0; omega, ?_, H3.out.2.1⟩
        show gvP _ _ = gvP _ _
        rw [HJ.out.e3, HJ.out.e2, HF.out]
      · have q64 : (n : Int) < 64 := by have := HN.out.2; omega
        obtain ⟨k, hk⟩ : ∃ k, 64 - n = k + 1 := ⟨63 - n, by have := HN.out.2; omega⟩
        have HKK : Hid (64 - o.length = k + 1 ∧ 64 - (o.length + 1) = k) := ⟨by rw [HN.out.1]; exact hk, by rw [HN.out.1]; omega⟩
        have HD : Hid (s.data.toList.drop (q + 1) = (s.data.toList.drop q).drop 1) := by show _ = _; rw [List.drop_drop]
        clear hfull hk
        go_wp2_with fail
        refine (pair_is H3.out.1).mono ?_
        intro e V3 h3
        rw [HD.out] at h3
        obtain ⟨M, hM⟩ : ∃ M, s.data.toList.drop q = M := ⟨_, rfl⟩
        have HM : Hid (s.data.toList.drop q = M) := hM
        rw [hM] at h3
        clear c1 f1 hV2
        rcases h3 with ⟨h3, he, hr3, hg3, hok⟩ | ⟨h3, he, hg3⟩
        · subst he
          obtain ⟨y, hy⟩ : ∃ y, mkP (pairF (M.drop 1)).1 = y := ⟨_, rfl⟩
          rw [hy] at hok ⊢
          have H4 : Hid (Rd V3 g s (q + 1 + (pairF (M.drop 1)).2.1) ∧ w.grownBy V3 (some g) ∧ OwP V3 w.heap.size (.slice a n cp) (o.map mkP) ∧ y.ok ∧ mkP (pairF (M.drop 1)).1 = y) := ⟨hr3, H3.out.2.1.trans hg3, owp_gr H3.out.2.2 hg3 HG.out.1, hok, hy⟩
          have HRS : Hid (restF (k + 1) M = ((pairF (M.drop 1)).1 :: (restF k (M.drop (1 + (pairF (M.drop 1)).2.1))).1, 1 + (pairF (M.drop 1)).2.1 + (restF k (M.drop (1 + (pairF (M.drop 1)).2.1))).2.1, (restF k (M.drop (1 + (pairF (M.drop 1)).2.1))).2.2)) := rest_step (by rw [← hM]; exact HQ.out.2) h3
          obtain ⟨V4, hV4⟩ : ∃ V4, V3.alloc (.cells y.cells.toArray 49) = V4 := ⟨_, rfl⟩
          have hb4 : Below V3.heap.size V3 V4 := by rw [← hV4]; exact below_al _ _
          have H5 : Hid (Rd V4 g s (q + 1 + (pairF (M.drop 1)).2.1) ∧ w.grownBy V4 (some g) ∧ OwP V4 w.heap.size (.slice a n cp) (o.map mkP) ∧ PsR V4 (.slice (some ⟨V3.heap.size, 0, none⟩) 1 1) [y] ∧ w.heap.size ≤ V4.heap.size) := ⟨H4.out.1.below hb4, H4.out.2.1.trans (gr_of hb4), H4.out.2.2.1.below hb4, by rw [← hV4]; exact psr_one hok, Nat.le_trans H4.out.2.1.size hb4.size⟩
          clear hr3 hg3 hok hb4 h3 hy hM
          go_wp2_with (with_reducible change wpList _ _ _ ({ dst := some 26, op := _, type := _, pos := _, after := _, guard := _ } :: _) _ _; refine Hid.out ?_)
          show wpList _ _ _ _ _ _
          refine wpList_bs rfl (.tmp 25) rfl y rfl ?_
          rw [hV4]
          go_wp2_with (with_reducible change wpList _ _ _ ({ dst := some 27, op := _, type := _, pos := _, after := _, guard := _ } :: _) _ _; refine Hid.out ?_)
          show wpList _ _ _ _ _ _
          refine wpList_app rfl (.tmp 23) (.tmp 26) rfl H5.out.2.2.1 H5.out.2.2.2.1 (by have := HN.out; simp; omega) H5.out.2.2.2.2 rfl rfl ?_
          intro v5 V5 ho5 hg5 _
          have HU : Hid (FI w g s p v5 (q + 1 + (pairF (M.drop 1)).2.1) (o ++ [(pairF (M.drop 1)).1]) V5) := by
            have hdr : s.data.toList.drop (q + 1 + (pairF (M.drop 1)).2.1) = M.drop (1 + (pairF (M.drop 1)).2.1) := by rw [Nat.add_assoc, ← List.drop_drop, HM.out]
            have hln : (o ++ [(pairF (M.drop 1)).1]).length = o.length + 1 := by simp
            refine ⟨?_, rd_own H5.out.1 HG.out.1 H5.out.2.2.1 hg5.out, gr_own H5.out.2.1 H5.out.2.2.1 hg5.out, ⟨by simp, by rw [hln]; have := HKK.out; have := HN.out; omega⟩, ?_, ?_, ?_⟩
            · rw [List.map_append, List.map_singleton, H4.out.2.2.2.2]; exact ho5.out
            · rw [hln, hdr, HKK.out.2, HJ.out.e1, HKK.out.1, HM.out, HRS.out, List.append_assoc]; rfl
            · rw [hln, hdr, HKK.out.2, HJ.out.e2, HKK.out.1, HM.out, HRS.out]; simp only; omega
            · rw [hln, hdr, HKK.out.2, HJ.out.e3, HKK.out.1, HM.out, HRS.out]
          obtain ⟨a5, c5, hv5⟩ := sl_of HU.out.own
          have hl5 : ((o ++ [(pairF (M.drop 1)).1]).map mkP).length = n + 1 := by have := HN.out.1; simp; omega
          rw [hl5] at hv5
          have HX : Hid (n + 1 ≤ 64) := by have := HN.out.2; show _ ≤ _; omega
          subst hv5
          clear ho5 hg5 hl5 hV4
          go_wp2
          go_roundw
          case rel => exact ⟨_, n + 1, _, _, _, rfl, by have := HN.out.1; simp; omega, HX.out, HU.out⟩
          case measure => show 64 - (n + 1) < 64 - n; have := HX.out; omega
        · have HF : Hid (w.grownBy V3 (some g) ∧ restF (64 - o.length) (s.data.toList.drop q) = ([], 1 + (pairF (M.drop 1)).2.1, (pairF (M.drop 1)).2.2) ∧ (pairF (M.drop 1)).2.2 ≠ 0) := ⟨H3.out.2.1.trans hg3, by rw [HKK.out.1, hM]; exact rest_bad (by rw [← hM]; exact HQ.out.2) h3, h3⟩
          rw [gvP] at he
          subst he
          clear h3 hg3 hM
          go_wp2
          refine ⟨rfl, .inr ?_⟩
          refine ⟨by rw [HJ.out.e3, HF.out.2.1]; exact HF.out.2.2, ?_, HF.out.1⟩
          show gvP _ _ = gvP _ _
          rw [HJ.out.e3, HJ.out.e2, HF.out.2.1, Nat.add_assoc]
          simp only [List.drop_one]
    · have HQ : Hid (atOne s q ⟨#[38]⟩ = false ∧ restF (64 - o.length) (s.data.toList.drop q) = ([], 0, 0)) := ⟨by rw [atOne_head]; exact decide_eq_false hq, rest_no hq⟩
      clear hq
      go_wp2_with fail
      refine (atOne_is HI.out.rd ⟨#[38]⟩ false HQ.out.1).mono ?_
      rintro e V1 ⟨rfl, hb1⟩
      have HJ : Hid (FI w g s p (.slice a n cp) q o V1) := HI.out.below hb1
      clear hb1 HI
      go_wp2
      go_ret
      refine .inl ⟨by rw [HJ.out.e3, HQ.out.2], ⟨_, rfl, ?_⟩, HJ.out.gr⟩
      rw [HJ.out.e1, HQ.out.2, List.append_nil]
      exact HJ.out.own
#print axioms form_is
end Go.Proofs.YtlbcpbibcfolkaaDoor.Oct
