/-
  Layer 7 (tree): Delete of a map of any keys, Clone, Depth.
-/
import Derived.Test.YtnagknlfboadkaaMapPut
namespace Go.Proofs.Ytnagknlfboadkaa.Oct
open Go.RowKit

/-- a map's root -/
def Root (w : World) (v : Option Addr) (L : List Pr) : Prop := (v = none ∧ L = []) ∨ ∃ (d : Nat) (t : T d) (nd : Nat), v = some ⟨nd, 0, none⟩ ∧ Lies w d t nd ∧ Good d t ∧ 1 ≤ (prs d t).length ∧ tl d t = L
theorem Root.oth {w w' : World} {m : Nat} {v : Option Addr} {L : List Pr} (h : Root w v L) (hg : w.grownBy w' (some m)) (ho : Oth w m) : Root w' v L := by
  rcases h with h | ⟨d, t, nd, h1, h2, h3⟩
  · exact .inl h
  · exact .inr ⟨d, t, nd, h1, h2.oth hg ho, h3⟩
theorem Root.tr {w : World} {m : Nat} {v : Option Addr} {L : List Pr} (h : Root w v L) (hm : Mp w m (.pointer v) L.length) : Tr w m L := by
  rcases h with ⟨h1, h2⟩ | ⟨d, t, nd, h1, h2, h3⟩
  · subst h1 h2; exact .inl ⟨hm, rfl⟩
  · subst h1; exact .inr ⟨d, t, nd, hm, h2, h3⟩
theorem tr_root2 {w w4 : World} {m c : Nat} {v : Option Addr} {r0 : Value} {L : List Pr} (h : Root w4 v L) (hm : Mp w4 m r0 c) (hc : c = L.length) (hgr : w.grownBy w4 (some m)) :
    Tr (w4.setCell ⟨m, 0, none⟩ (.pointer v)) m L ∧ w.grownBy (w4.setCell ⟨m, 0, none⟩ (.pointer v)) (some m) := by
  subst hc
  exact ⟨(h.oth (grown_setCell _ _ _ _) hm.oth).tr (Blk.set hm 0 _), grown_tr hgr (grown_setCell _ _ _ _)⟩
theorem asRoot_all (w : World) (d : Nat) (t : T d) (nd : Nat) (L : List Pr) (hl : Lies w d t nd) (hw : WF d t) (hL : tl d t = L) (hr : Ris L) (h7 : (prs d t).length ≤ 7) :
    Calls Try.prog 32 #[.pointer (some ⟨nd, 0, none⟩)] w fun e w' => ∃ v, e = .returned (.pointer v) ∧ Hid (Root w v L) ∧ w = w' := by
  by_cases h0 : 1 ≤ (prs d t).length
  · have : ∃ a n cap, w.cell? ⟨nd, 0, none⟩ = some (.slice a n cap) ∧ 0 < n := by
      match d, t, hl, h0 with
      | 0, t, hl, h0 =>
        obtain ⟨a, n, cap, h1, _⟩ := hl
        exact ⟨a, n, cap, h1.blk.cell (i := 0) rfl, by rw [← h1.rd.1]; exact h0⟩
      | d + 1, t, hl, h0 =>
        obtain ⟨a, n, cap, a', n', cap', bs, h1, _⟩ := hl
        exact ⟨a, n, cap, h1.blk.cell (i := 0) rfl, by rw [← h1.rd.1]; exact h0⟩
    obtain ⟨a, n, cap, hc, hn⟩ := this
    refine (asRoot_pos w nd n cap a hn hc).mono ?_
    rintro e w' ⟨rfl, rfl⟩
    exact ⟨_, rfl, .inr ⟨d, t, nd, rfl, hl, ⟨hw, by rw [hL]; exact hr, h7⟩, h0, hL⟩, rfl⟩
  · match d, t, hl, h0, hL, hw with
    | 0, t, hl, h0, hL, hw =>
      obtain ⟨a, n, cap, h1, _⟩ := hl
      have ht : t = ([] : List Pr) := List.eq_nil_of_length_eq_zero (by have : ¬ 1 ≤ List.length (t : List Pr) := h0; omega)
      have hn : n = 0 := by rw [← h1.rd.1, ht]; rfl
      subst hn
      refine (asRoot_leaf w nd cap a (h1.blk.cell (i := 0) rfl) (h1.blk.cell (i := 1) rfl)).mono ?_
      rintro e w' ⟨rfl, rfl⟩
      exact ⟨_, rfl, .inl ⟨rfl, by rw [← hL, ht]; rfl⟩, rfl⟩
    | d + 1, t, hl, h0, hL, hw =>
      obtain ⟨a, n, cap, a', n', cap', bs, h1, _, h3, _, h5, h6⟩ := hl
      have ht : t.1 = [] := List.eq_nil_of_length_eq_zero (by have : ¬ 1 ≤ t.1.length := h0; omega)
      have hn : n = 0 := by rw [← h1.rd.1, ht]; rfl
      subst hn
      have hlen := hw.1
      rw [ht] at hlen
      obtain ⟨k, hk⟩ := List.length_eq_one_iff.1 (show t.2.length = 1 by simpa using hlen)
      rw [hk] at h5
      obtain ⟨kb, hkb⟩ := List.length_eq_one_iff.1 (show bs.length = 1 by simpa using h5)
      subst hkb
      have hnn : 0 < n' := by rw [← h3.1]; simp
      obtain ⟨g, off, rfl, _, hc⟩ := h3.2 hnn
      have ck := hc 0 _ rfl
      have hkid := h6 0 k kb (by rw [hk]; rfl) rfl
      have hwk := hw.2 k (by rw [hk]; simp)
      have hLk : tl d k = L := by
        rw [← hL]
        show _ = inter (t.2.map (tl d)) t.1
        rw [hk, ht]; simp [inter, dn]
      refine (asRoot_node w nd cap g off n' cap' kb a (h1.blk.cell (i := 0) rfl) (h1.blk.cell (i := 1) rfl) hnn ck).mono ?_
      rintro e w' ⟨rfl, rfl⟩
      exact ⟨_, rfl, .inr ⟨d, k, kb, rfl, hkid, ⟨hwk.1, by rw [hLk]; exact hr, hwk.2.2⟩, by omega, hLk⟩, rfl⟩
#print axioms asRoot_all
theorem rem_no : ∀ {L : List Pr}, Ris L → ∀ k : ByteArray, eqs k L = [] → remP L k = L
  | [], _, _, _ => rfl
  | x :: L, h, k, he => by
    have hr : Ris L := (List.pairwise_cons.1 h).2
    have hx := (List.pairwise_cons.1 h).1
    cases h1 : Lt x.1 k with
    | true =>
      have e2 : eqs k L = [] := by
        unfold eqs at he ⊢
        rw [List.filter_cons] at he
        split at he
        · cases he
        · exact he
      have ih := rem_no hr k e2
      unfold remP lo hi at ih ⊢
      rw [List.filter_cons, if_pos h1, List.filter_cons, if_neg (by rw [lt_asymm h1]; simp), List.cons_append, ih]
    | false =>
      have h3 : Lt k x.1 = true := by
        cases h3 : Lt k x.1 with
        | true => rfl
        | false =>
          have := lt_total h1 h3
          unfold eqs at he
          rw [List.filter_cons, if_pos (eqb_iff.2 this)] at he
          cases he
      have hG : AllG k (x :: L) := fun y hy => by
        rcases List.mem_cons.1 hy with rfl | hy
        · exact h3
        · exact lt_trans h3 (hx y hy)
      unfold remP
      rw [lo_G hG, hi_G hG]; rfl
theorem eqs_of_empty {E : List Pr} (h : E.isEmpty = false) : E ≠ [] := by rintro rfl; simp at h

set_option maxRecDepth 100000 in
set_option maxHeartbeats 1000000 in
theorem tdel (w : World) (m : Nat) (L : List Pr) (k : ByteArray) (h : Tr w m L) (hb : L.length ≤ 1000000) : Calls Try.prog 18 #[.pointer (some ⟨m, 0, none⟩), .string k] w fun e w' => e = .returned (.bool (!(eqs k L).isEmpty)) ∧ Hid (Tr w' m (remP L k)) ∧ Hid (w.grownBy w' (some m)) := by
  have hrl := rem_len h.ris k
  have hrr := ris_rem h.ris k
  rcases h with ⟨h1, rfl⟩ | ⟨d, t, nd, h1, h2, h3, h4, hL⟩
  · have HM : Hid (Mp w m (.pointer none) 0) := h1
    have c2 := h1.cell (i := 2) rfl
    have c0 := h1.cell (i := 0) rfl
    clear h1
    go_enter Try.func18, Try.ntmps18
    go_wp2_with (first | (go_at_call 22; refine (made_is w m true c2).mono ?_; rintro e w2 ⟨rfl, rfl⟩) | (go_at_call 30; refine (get_nil w k).mono ?_; rintro e w3 ⟨rfl, hB⟩; have HB : Hid (Below w.heap.size w w3) := hB; clear hB))
    go_ret
    exact ⟨rfl, .inl ⟨HM.out.keep HB.out (Nat.le_refl _), rfl⟩, below_grown HB.out _⟩
  · have HM : Hid (Mp w m (.pointer (some ⟨nd, 0, none⟩)) L.length) := h1
    have HT : Hid (Lies w d t nd ∧ Good d t ∧ 1 ≤ (prs d t).length ∧ tl d t = L) := ⟨h2, h3, h4, hL⟩
    have HR : Hid ((remP L k).length = (if (eqs k L).isEmpty = true then L.length else L.length - 1) ∧ Ris (remP L k)) := ⟨hrl, hrr⟩
    have c0 := h1.cell (i := 0) rfl
    have c2 := h1.cell (i := 2) rfl
    have HNO : Hid (eqs k L = [] → remP L k = L) := fun he => rem_no (by rw [← hL]; exact h3.ris) k he
    obtain ⟨N, hN⟩ : ∃ N, L.length = N := ⟨_, rfl⟩
    rw [hN] at HM HR hb
    have HNL : Hid (L.length = N) := hN
    obtain ⟨E, hE⟩ : ∃ E, eqs k L = E := ⟨_, rfl⟩
    have HE : Hid (eqs k (tl d t) = E) := by show _ = _; rw [hL]; exact hE
    have HEL : Hid (E.isEmpty = false → 1 ≤ N) := fun he => by
      have := parts_len k L
      rw [hE] at this
      cases E with
      | nil => simp at he
      | cons x E => simp at this; omega
    rw [hE] at HR HNO ⊢
    clear h1 h2 h3 h4 hL hrl hrr hN hE
    go_enter Try.func18, Try.ntmps18
    go_wp2_with (first | (go_at_call 22; refine (made_is w m true c2).mono ?_; rintro e w2 ⟨rfl, rfl⟩) | fail)
    refine (get_is w d t nd k HT.out.1 HT.out.2.1).mono ?_
    rintro e w1 ⟨rfl, HB1⟩
    rw [HE.out]
    have HM1 : Hid (Mp w1 m (.pointer (some ⟨nd, 0, none⟩)) N) := HM.out.keep HB1.out (Nat.le_refl _)
    have d0 := HM1.out.cell (i := 0) rfl
    have d1 := HM1.out.cell (i := 1) rfl
    have g1 := HM1.out.free 1
    have q1 : (N : Int) ≤ 1000000 := by omega
    obtain ⟨V, hV⟩ : ∃ V, gv E = V := ⟨_, rfl⟩
    rw [hV]
    clear hV c0 c2
    cases hem : E.isEmpty with
    | true =>
      have HEM : Hid (E.isEmpty = true) := hem
      clear hem
      go_wp2_with fail
      go_ret
      refine ⟨by rw [HEM.out]; rfl, ?_, below_grown HB1.out _⟩
      rw [HNO.out (List.isEmpty_iff.1 HEM.out)]
      exact .inr ⟨d, t, nd, by rw [HNL.out]; exact HM1.out, HT.out.1.below HB1.out (Nat.le_refl _), HT.out.2.1, HT.out.2.2.1, HT.out.2.2.2⟩
    | false =>
      have HEM : Hid (E.isEmpty = false) := hem
      have hN1 := HEL.out hem
      have q2 : (1 : Int) ≤ (N : Int) := by omega
      have HN1 : Hid (((N - 1 : Nat) : Int) = (N : Int) - 1) := by show _ = _; omega
      clear hem hN1
      go_wp2_with fail
      have HM2 : Hid (Mp (w1.setCell ⟨m, 1, none⟩ (.int .i64 ((N : Int) - 1))) m (.pointer (some ⟨nd, 0, none⟩)) (N - 1)) := by
        show Mp _ _ _ _
        have := Blk.set HM1.out 1 (.int .i64 ((N - 1 : Nat) : Int))
        rw [HN1.out] at this
        unfold Mp; rw [HN1.out]
        exact this
      have HL2 : Hid (Lies (w1.setCell ⟨m, 1, none⟩ (.int .i64 ((N : Int) - 1))) d t nd) := (HT.out.1.below HB1.out (Nat.le_refl _)).oth (grown_setCell _ _ _ _) HM1.out.oth
      have HG2 : Hid (w.grownBy (w1.setCell ⟨m, 1, none⟩ (.int .i64 ((N : Int) - 1))) (some m)) := grown_tr (below_grown HB1.out _) (grown_setCell _ _ _ _)
      refine (rem_all d _ t nd k HL2.out HT.out.2.1 HT.out.2.2.1 (by rw [HE.out]; exact eqs_of_empty HEM.out)).mono ?_
      rintro e w3 ⟨nd2, t2, rfl, HL3, HT3, HB3⟩
      have HM3 : Hid (Mp w3 m (.pointer (some ⟨nd, 0, none⟩)) (N - 1)) := HM2.out.keep HB3.out (Nat.le_refl _)
      have HG3 : Hid (w.grownBy w3 (some m)) := grown_tr HG2.out (below_grown HB3.out _)
      clear d0 d1 g1
      go_wp2_with fail
      refine (asRoot_all w3 d t2 nd2 (remP L k) HL3.out HT3.out.2.1 (by rw [HT3.out.1, HT.out.2.2.2]) HR.out.2 (by have := HT3.out.2.2.1; have := HT.out.2.1.most; omega)).mono ?_
      rintro e w4 ⟨v, rfl, HRT, rfl⟩
      have e0 := HM3.out.cell (i := 0) rfl
      have g0 := HM3.out.free 0
      go_wp2
      go_ret
      have hE := tr_root2 HRT.out HM3.out (by rw [HR.out.1, if_neg (by rw [HEM.out]; simp)]) HG3.out
      exact ⟨by rw [HEM.out]; rfl, hE.1, hE.2⟩
#print axioms tdel
end Go.Proofs.Ytnagknlfboadkaa.Oct
