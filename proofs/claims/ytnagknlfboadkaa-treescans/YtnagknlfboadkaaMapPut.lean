/-
  Layer 7 (tree): Put and Delete of a map of any keys.
-/
import Derived.Test.YtnagknlfboadkaaMapAll
namespace Go.Proofs.Ytnagknlfboadkaa.Oct
open Go.RowKit

theorem parts_len (k : ByteArray) : ∀ L : List Pr, (lo k L).length + (eqs k L).length + (hi k L).length = L.length
  | [] => rfl
  | x :: L => by
    have ih := parts_len k L
    unfold lo eqs hi at ih ⊢
    simp only [List.filter_cons]
    cases h1 : Lt x.1 k with
    | true =>
      have h2 : (x.1.toList == k.toList) = false := by
        cases h : (x.1.toList == k.toList) with
        | false => rfl
        | true => rw [eqb_iff.1 h, lt_irrefl] at h1; cases h1
      have h3 := lt_asymm h1
      simp [h2, h3]; omega
    | false =>
      cases h3 : Lt k x.1 with
      | true =>
        have h2 : (x.1.toList == k.toList) = false := by
          cases h : (x.1.toList == k.toList) with
          | false => rfl
          | true => rw [eqb_iff.1 h, lt_irrefl] at h3; cases h3
        simp [h2]; omega
      | false =>
        have h2 : (x.1.toList == k.toList) = true := eqb_iff.2 (lt_total h1 h3)
        simp [h2]; omega
theorem eqs_one_or {L : List Pr} (h : Ris L) (k : ByteArray) : eqs k L = [] ∨ ∃ x, eqs k L = [x] := by
  obtain ⟨j, ha⟩ := find_at L k (ris_mono h k)
  cases hi : isP L k j with
  | false => exact .inl (eqs_no h ha hi)
  | true => obtain ⟨x, _, _, e⟩ := eqs_is h ha hi; exact .inr ⟨x, e⟩
theorem ins_len {L : List Pr} (h : Ris L) (x : Pr) : (insP L x).length = if (eqs x.1 L).isEmpty = true then L.length + 1 else L.length := by
  have hp := parts_len x.1 L
  unfold insP
  rcases eqs_one_or h x.1 with e | ⟨y, e⟩
  · rw [e] at hp ⊢; simp at hp ⊢; omega
  · rw [e] at hp ⊢; simp at hp ⊢; omega
theorem rem_len {L : List Pr} (h : Ris L) (k : ByteArray) : (remP L k).length = if (eqs k L).isEmpty = true then L.length else L.length - 1 := by
  have hp := parts_len k L
  unfold remP
  rcases eqs_one_or h k with e | ⟨y, e⟩
  · rw [e] at hp ⊢; simp at hp ⊢; omega
  · rw [e] at hp ⊢; simp at hp ⊢; omega
/-- a tree's root, put back into its map -/
theorem tr_root {w w4 : World} {m nd d c : Nat} {t : T d} {r0 : Value} (hl : Lies w4 d t nd) (hg : Good d t) (h1 : 1 ≤ (prs d t).length) (hm : Mp w4 m r0 c) (hc : c = (tl d t).length) (hgr : w.grownBy w4 (some m)) :
    Tr (w4.setCell ⟨m, 0, none⟩ (.pointer (some ⟨nd, 0, none⟩))) m (tl d t) ∧ w.grownBy (w4.setCell ⟨m, 0, none⟩ (.pointer (some ⟨nd, 0, none⟩))) (some m) := by
  subst hc
  exact ⟨.inr ⟨d, t, nd, Blk.set hm 0 _, hl.oth (grown_setCell _ _ _ _) hm.oth, hg, h1, rfl⟩, grown_tr hgr (grown_setCell _ _ _ _)⟩
/-- behind 'put' and 'whole' -/
def Whl (w : World) (L : List Pr) (e : Ending) (w' : World) : Prop := ∃ (nd d' : Nat) (t : T d'), e = .returned (.pointer (some ⟨nd, 0, none⟩)) ∧ Hid (Lies w' d' t nd ∧ Good d' t ∧ 1 ≤ (prs d' t).length ∧ tl d' t = L) ∧ Hid (Below w.heap.size w w')
theorem whole_all (d : Nat) (w : World) (b : Nat) (y : Pr) (r : Option Addr) (H : Half d) (L : List Pr) (hl : H.lies w (hv b y r)) (ho : H.ok) (hL : H.list = L) (hr : Ris L) (h1 : ∀ t, H = .one t → 1 ≤ (prs d t).length) : Calls Try.prog 34 #[hv b y r] w (Whl w L) := by
  have hh := half_root ho hL
  cases H with
  | one t =>
    obtain ⟨bb, hbb, hlies⟩ := hl
    rw [hbb]
    refine (whole_is w bb).mono ?_
    rintro e w' ⟨rfl, hB⟩
    exact ⟨bb, d, t, rfl, ⟨hlies.below hB.out (Nat.le_refl _), ⟨hh.2.1, by rw [hh.1]; exact hr, hh.2.2⟩, h1 t rfl, hh.1⟩, hB⟩
  | two l m q =>
    obtain ⟨b1, b2, hbb, hl1, hl2⟩ := hl
    rw [hbb]
    refine (whole_two w b1 b2 m).mono ?_
    rintro e w' ⟨nd, gp, gk, rfl, hN, hB⟩
    have hK : Kids w' d [l, q] [b1, b2] := (Kids.one (hl1.below hB.out (Nat.le_refl _))).append (Kids.one (hl2.below hB.out (Nat.le_refl _)))
    refine ⟨nd, d + 1, ([m], [l, q]), rfl, ⟨⟨_, 1, 1, _, 2, 2, [b1, b2], hN.out.1, ⟨Nat.le_refl _, .inr ⟨_, _, rfl⟩⟩, hN.out.2, ⟨Nat.le_refl _, .inr ⟨_, _, rfl⟩⟩, hK.1, hK.2⟩, ⟨hh.2, by rw [hh.1]; exact hr, by show [m].length ≤ 7; simp⟩, Nat.le_refl _, hh.1⟩, hB⟩
#print axioms whole_all

set_option maxRecDepth 100000 in
set_option maxHeartbeats 1000000 in
theorem tput (w : World) (m : Nat) (L : List Pr) (x : Pr) (h : Tr w m L) (hb : L.length ≤ 1000000) : Calls Try.prog 19 #[.pointer (some ⟨m, 0, none⟩), .string x.1, .string x.2] w fun e w' => e = .returned (.bool (!(eqs x.1 L).isEmpty)) ∧ Hid (Tr w' m (insP L x)) ∧ Hid (w.grownBy w' (some m)) := by
  rcases h with ⟨h1, rfl⟩ | ⟨d, t, nd, h1, h2, h3, h4, hL⟩
  · refine (mput_nil w m x h1).mono ?_
    rintro e w' ⟨nd, g, rfl, hM, hN, hG⟩
    refine ⟨rfl, .inr ⟨0, [x], nd, hM, ⟨_, _, _, hN, Nat.le_refl _, .inr ⟨_, _, rfl⟩⟩, ⟨trivial, by show Ris [x]; exact List.pairwise_singleton _ _, by show [x].length ≤ 7; simp⟩, by show 1 ≤ [x].length; simp, rfl⟩, hG.out.1⟩
  · have hris : Ris L := by rw [← hL]; exact h3.ris
    have hil := ins_len hris x
    have hir := ris_ins hris x
    obtain ⟨k, v⟩ := x
    have HM : Hid (Mp w m (.pointer (some ⟨nd, 0, none⟩)) L.length) := h1
    have HT : Hid (Lies w d t nd ∧ Good d t ∧ 1 ≤ (prs d t).length ∧ tl d t = L) := ⟨h2, h3, h4, hL⟩
    have HR : Hid ((insP L (k, v)).length = (if (eqs k L).isEmpty = true then L.length + 1 else L.length) ∧ Ris (insP L (k, v))) := ⟨hil, hir⟩
    have c0 := h1.cell (i := 0) rfl
    have c2 := h1.cell (i := 2) rfl
    obtain ⟨N, hN⟩ : ∃ N, L.length = N := ⟨_, rfl⟩
    rw [hN] at HM HR hb
    have HNL : Hid (L.length = N) := hN
    obtain ⟨E, hE⟩ : ∃ E, eqs k L = E := ⟨_, rfl⟩
    have HE : Hid (eqs k (tl d t) = E) := by show _ = _; rw [hL]; exact hE
    rw [hE] at HR ⊢
    clear h1 h2 h3 h4 hL hris hil hir hN hE
    go_enter Try.func19, Try.ntmps19
    go_wp2_with (first | (go_at_call 22; refine (made_is w m true c2).mono ?_; rintro e w2 ⟨rfl, rfl⟩) | fail)
    refine (get_is w d t nd k HT.out.1 HT.out.2.1).mono ?_
    rintro e w1 ⟨rfl, HB1⟩
    rw [HE.out]
    have HM1 : Hid (Mp w1 m (.pointer (some ⟨nd, 0, none⟩)) N) := HM.out.keep HB1.out (Nat.le_refl _)
    have d0 := HM1.out.cell (i := 0) rfl
    have d1 := HM1.out.cell (i := 1) rfl
    have g1 := HM1.out.free 1
    have q1 : (N : Int) ≤ 1000000 := by omega
    have FIN : Hid (∀ (W : World) (c : Nat), Mp W m (.pointer (some ⟨nd, 0, none⟩)) c → Lies W d t nd → w.grownBy W (some m) → Calls Try.prog 33 #[.pointer (some ⟨nd, 0, none⟩), .agg #[.string k, .string v]] W fun e w3 => ∃ (b : Nat) (y : Pr) (r : Option Addr) (H : Half d), e = .returned (hv b y r) ∧ Hid (H.lies w3 (hv b y r) ∧ H.ok ∧ H.list = insP L (k, v) ∧ (∀ t', H = .one t' → 1 ≤ (prs d t').length)) ∧ Hid (Mp w3 m (.pointer (some ⟨nd, 0, none⟩)) c ∧ w.grownBy w3 (some m))) := by
      intro W c hM hLi hG
      refine (put_all d W t nd (k, v) hLi HT.out.2.1).mono ?_
      rintro e w3 ⟨b, y, r, H, rfl, q1, q2, q3⟩
      refine ⟨b, y, r, H, rfl, ⟨q1.out, q2.out.2.1, by rw [q2.out.1, HT.out.2.2.2], fun t' ht => ?_⟩, ⟨hM.keep q3.out (Nat.le_refl _), grown_tr hG (below_grown q3.out _)⟩⟩
      have := q2.out.2.2 t' ht
      have := HT.out.2.2.1
      omega
    obtain ⟨V, hV⟩ : ∃ V, gv E = V := ⟨_, rfl⟩
    rw [hV]
    clear hV c0 c2
    cases hem : E.isEmpty with
    | true =>
      have HEM : Hid (E.isEmpty = true) := hem
      clear hem
      go_wp2_with fail
      have HM2 : Hid (Mp (w1.setCell ⟨m, 1, none⟩ (.int .i64 ((N : Int) + 1))) m (.pointer (some ⟨nd, 0, none⟩)) (N + 1)) := Blk.set HM1.out 1 _
      have HL2 : Hid (Lies (w1.setCell ⟨m, 1, none⟩ (.int .i64 ((N : Int) + 1))) d t nd) := (HT.out.1.below HB1.out (Nat.le_refl _)).oth (grown_setCell _ _ _ _) HM1.out.oth
      refine (FIN.out _ (N + 1) HM2.out HL2.out (grown_tr (below_grown HB1.out _) (grown_setCell _ _ _ _))).mono ?_
      rintro e w3 ⟨b, y, r, H, rfl, HH, HM3⟩
      go_wp2_with fail
      refine (whole_all d w3 b y r H (insP L (k, v)) HH.out.1 HH.out.2.1 HH.out.2.2.1 HR.out.2 HH.out.2.2.2).mono ?_
      rintro e w4 ⟨nd4, d4, t4, rfl, HT4, HB4⟩
      have HM4 : Hid (Mp w4 m (.pointer (some ⟨nd, 0, none⟩)) (N + 1)) := HM3.out.1.keep HB4.out (Nat.le_refl _)
      have e0 := HM4.out.cell (i := 0) rfl
      have g0 := HM4.out.free 0
      clear d0 d1 g1
      go_wp2
      go_ret
      have hE := tr_root HT4.out.1 HT4.out.2.1 HT4.out.2.2.1 HM4.out (by rw [HT4.out.2.2.2, HR.out.1, if_pos HEM.out]) (grown_tr HM3.out.2 (below_grown HB4.out _))
      rw [HT4.out.2.2.2] at hE
      exact ⟨by rw [HEM.out]; rfl, hE.1, hE.2⟩
    | false =>
      have HEM : Hid (E.isEmpty = false) := hem
      clear hem
      go_wp2_with fail
      refine (FIN.out w1 N HM1.out (HT.out.1.below HB1.out (Nat.le_refl _)) (below_grown HB1.out _)).mono ?_
      rintro e w3 ⟨b, y, r, H, rfl, HH, HM3⟩
      go_wp2_with fail
      refine (whole_all d w3 b y r H (insP L (k, v)) HH.out.1 HH.out.2.1 HH.out.2.2.1 HR.out.2 HH.out.2.2.2).mono ?_
      rintro e w4 ⟨nd4, d4, t4, rfl, HT4, HB4⟩
      have HM4 : Hid (Mp w4 m (.pointer (some ⟨nd, 0, none⟩)) N) := HM3.out.1.keep HB4.out (Nat.le_refl _)
      have e0 := HM4.out.cell (i := 0) rfl
      have g0 := HM4.out.free 0
      clear d0 d1 g1
      go_wp2
      go_ret
      have hE := tr_root HT4.out.1 HT4.out.2.1 HT4.out.2.2.1 HM4.out (by rw [HT4.out.2.2.2, HR.out.1, if_neg (by rw [HEM.out]; simp)]) (grown_tr HM3.out.2 (below_grown HB4.out _))
      rw [HT4.out.2.2.2] at hE
      exact ⟨by rw [HEM.out]; rfl, hE.1, hE.2⟩
#print axioms tput
end Go.Proofs.Ytnagknlfboadkaa.Oct
