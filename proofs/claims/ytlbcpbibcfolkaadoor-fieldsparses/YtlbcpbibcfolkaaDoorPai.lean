/-
  Layer 22 (fields): pair, form of the program.
-/
import Derived.Test.YtlbcpbibcfolkaaDoorPrs
namespace Go.Proofs.YtlbcpbibcfolkaaDoor.Oct
open Go.RowKit
set_option linter.unusedSimpArgs false
set_option linter.unusedVariables false

/-- a piece: key and value, how many bytes, what is wrong -/
def pairF (l : List UInt8) : (List UInt8 × List UInt8) × Nat × Int :=
  if (upTo [61, 38] l).2.2 ≠ 0 then (([], []), (upTo [61, 38] l).2.1, (upTo [61, 38] l).2.2)
  else if (l.drop (upTo [61, 38] l).2.1).head? = some 61 then
    (if (upTo [38] (l.drop ((upTo [61, 38] l).2.1 + 1))).2.2 ≠ 0 then (([], []), (upTo [61, 38] l).2.1 + 1 + (upTo [38] (l.drop ((upTo [61, 38] l).2.1 + 1))).2.1, (upTo [38] (l.drop ((upTo [61, 38] l).2.1 + 1))).2.2)
     else (((upTo [61, 38] l).1, (upTo [38] (l.drop ((upTo [61, 38] l).2.1 + 1))).1), (upTo [61, 38] l).2.1 + 1 + (upTo [38] (l.drop ((upTo [61, 38] l).2.1 + 1))).2.1, 0))
  else (([], []), (upTo [61, 38] l).2.1, 221)
def mkP (r : List UInt8 × List UInt8) : Pr := ⟨⟨r.1.toArray⟩, ⟨r.2.toArray⟩⟩
def PaP (w : World) (g : Nat) (s : BA) (p : Nat) (r : (List UInt8 × List UInt8) × Nat × Int) (e : Ending) (w' : World) : Prop :=
  (r.2.2 = 0 ∧ e = .returned (.agg (mkP r.1).cells.toArray) ∧ Rd w' g s (p + r.2.1) ∧ w.grownBy w' (some g) ∧ (mkP r.1).ok) ∨ (r.2.2 ≠ 0 ∧ e = gvP (p + r.2.1) r.2.2 ∧ w.grownBy w' (some g))
theorem atOne_head (s : BA) (p : Nat) (c : UInt8) : atOne s p ⟨#[c]⟩ = decide ((s.data.toList.drop p).head? = some c) := by
  unfold atOne
  rw [List.head?_drop]
  cases s.data.toList[p]? with
  | none => rfl
  | some b =>
    show [c].contains b = decide (some b = some c)
    by_cases h : b = c
    · subst h; simp
    · simp [h]
theorem pair_n0 {l : List UInt8} (h : (upTo [61, 38] l).2.2 ≠ 0) : pairF l = (([], []), (upTo [61, 38] l).2.1, (upTo [61, 38] l).2.2) := by unfold pairF; rw [if_pos h]
theorem pair_n1 {l : List UInt8} (h : (upTo [61, 38] l).2.2 = 0) (h2 : (l.drop (upTo [61, 38] l).2.1).head? ≠ some 61) : pairF l = (([], []), (upTo [61, 38] l).2.1, 221) := by unfold pairF; rw [if_neg (by simp [h]), if_neg h2]
theorem pair_n2 {l : List UInt8} (h : (upTo [61, 38] l).2.2 = 0) (h2 : (l.drop (upTo [61, 38] l).2.1).head? = some 61) (h3 : (upTo [38] (l.drop ((upTo [61, 38] l).2.1 + 1))).2.2 ≠ 0) : pairF l = (([], []), (upTo [61, 38] l).2.1 + 1 + (upTo [38] (l.drop ((upTo [61, 38] l).2.1 + 1))).2.1, (upTo [38] (l.drop ((upTo [61, 38] l).2.1 + 1))).2.2) := by unfold pairF; rw [if_neg (by simp [h]), if_pos h2, if_pos h3]
theorem pair_ok {l : List UInt8} (h : (upTo [61, 38] l).2.2 = 0) (h2 : (l.drop (upTo [61, 38] l).2.1).head? = some 61) (h3 : (upTo [38] (l.drop ((upTo [61, 38] l).2.1 + 1))).2.2 = 0) : pairF l = (((upTo [61, 38] l).1, (upTo [38] (l.drop ((upTo [61, 38] l).2.1 + 1))).1), (upTo [61, 38] l).2.1 + 1 + (upTo [38] (l.drop ((upTo [61, 38] l).2.1 + 1))).2.1, 0) := by unfold pairF; rw [if_neg (by simp [h]), if_pos h2, if_neg (by simp [h3])]
theorem upTo_size (st : List UInt8) (s : BA) (p : Nat) (h : s.size ≤ 140737488355328) : (⟨(upTo st (s.data.toList.drop p)).1.toArray⟩ : BA).size ≤ 140737488355328 := by
  have h1 := upTo_le st _ (s.data.toList.drop p) (Nat.le_refl _)
  have h2 : (s.data.toList.drop p).length ≤ s.size := by rw [List.length_drop]; show s.size - p ≤ s.size; omega
  show (upTo st (s.data.toList.drop p)).1.toArray.size ≤ _
  rw [List.size_toArray]
  omega
theorem gr_hi {w w1 w2 : World} {g b : Nat} (h : w.grownBy w1 (some g)) (k : w1.grownBy w2 (some b)) (hb : w.heap.size ≤ b) : w.grownBy w2 (some g) :=
  ⟨k.os.trans h.os, k.tape.trans h.tape, k.output.trans h.output, Nat.le_trans h.size k.size, fun j hj hn => (k.block j (Nat.lt_of_lt_of_le hj h.size) (fun e => by have := Option.some.inj e; omega)).trans (h.block j hj hn)⟩
set_option maxRecDepth 100000 in
set_option maxHeartbeats 1000000 in
theorem pair_is {w : World} {g p : Nat} {s : BA} (h : Rd w g s p) : Calls Tryd.prog 43 #[.pointer (some ⟨g, 0, none⟩)] w (PaP w g s p (pairF (s.data.toList.drop p))) := by
  have HG : Hid (g < w.heap.size ∧ s.size ≤ 140737488355328) := ⟨h.1.lt, h.2.1⟩
  have hZ := zero49
  obtain ⟨b, hb⟩ : ∃ b, w.heap.size = b := ⟨_, rfl⟩
  obtain ⟨A, hA⟩ : ∃ A, w.alloc (.cells #[.string e0, .string e0] 49) = A := ⟨_, rfl⟩
  have hBA : Below w.heap.size w A := by rw [← hA]; exact below_al _ _
  have HA : Hid (Rd A g s p ∧ Blk A b 49 [.string e0, .string e0] ∧ w.grownBy A (some g) ∧ b ≠ g ∧ w.heap.size ≤ b) := ⟨h.below hBA, by rw [← hA, ← hb]; exact Blk.new w _ _, gr_of hBA, by have := HG.out.1; omega, by omega⟩
  obtain ⟨L, hL⟩ : ∃ L, s.data.toList.drop p = L := ⟨_, rfl⟩
  have HL : Hid (s.data.toList.drop p = L) := hL
  rw [hL]
  clear h hBA hL
  go_enter Tryd.func43, Tryd.ntmps43
  go_wp2_with fail
  refine (upTo_is HA.out.1 ⟨#[61, 38]⟩).mono ?_
  intro e W1 h1
  rw [HL.out] at h1
  change UpP A g s p (upTo [61, 38] L) e W1 at h1
  rcases h1 with ⟨h1, he, hr1, hg1⟩ | ⟨h1, he, hg1⟩
  · subst he
    obtain ⟨n1, hn1⟩ : ∃ n, (upTo [61, 38] L).2.1 = n := ⟨_, rfl⟩
    rw [hn1] at hr1
    obtain ⟨k, hk⟩ : ∃ k : BA, k = ⟨(upTo [61, 38] L).1.toArray⟩ := ⟨_, rfl⟩
    rw [← hk]
    have H1 : Hid (Rd W1 g s (p + n1) ∧ w.grownBy W1 (some g) ∧ Blk W1 b 49 [.string e0, .string e0] ∧ (upTo [61, 38] L).2.2 = 0 ∧ (upTo [61, 38] L).2.1 = n1 ∧ k = ⟨(upTo [61, 38] L).1.toArray⟩) := ⟨hr1, HA.out.2.2.1.trans hg1, HA.out.2.1.kept hg1 (by simpa using HA.out.2.2.2.1), h1, hn1, hk⟩
    have HHD : Hid (s.data.toList.drop (p + n1) = L.drop n1) := by show _ = _; rw [← List.drop_drop, HL.out]
    clear h1 hr1 hg1 hn1 hk
    by_cases hq : (L.drop n1).head? = some 61
    · have HQ : Hid (atOne s (p + n1) ⟨#[61]⟩ = true ∧ (L.drop n1).head? = some 61) := ⟨by rw [atOne_head, HHD.out]; exact decide_eq_true hq, hq⟩
      have hlt : p + n1 < s.size := by
        have hne : s.data.toList.drop (p + n1) ≠ [] := by rw [HHD.out]; intro h0; rw [h0] at hq; cases hq
        rcases Nat.lt_or_ge (p + n1) s.size with h | h
        · exact h
        · exact absurd (List.drop_eq_nil_iff.2 h) hne
      have HLT : Hid (p + n1 + 1 ≤ s.size) := hlt
      have qp : ((p + n1 : Nat) : Int) ≤ 140737488355328 := by have := HG.out.2; omega
      clear hq hlt
      go_wp2_with fail
      refine (atOne_is H1.out.1 ⟨#[61]⟩ true HQ.out.1).mono ?_
      rintro e W2 ⟨rfl, hb2⟩
      have H2 : Hid (Rd W2 g s (p + n1) ∧ w.grownBy W2 (some g) ∧ Blk W2 b 49 [.string e0, .string e0]) := ⟨H1.out.1.below hb2, H1.out.2.1.trans (gr_of hb2), H1.out.2.2.1.below hb2 H1.out.2.2.1.lt⟩
      obtain ⟨q, hqq⟩ : ∃ q, p + n1 = q := ⟨_, rfl⟩
      rw [hqq] at qp
      have c1 : W2.cell? ⟨g, 1, none⟩ = some (iv (q : Int)) := by rw [← hqq]; exact H2.out.1.c1
      have f1 := H2.out.1.1.free 1
      have HQQ : Hid (p + n1 = q) := hqq
      obtain ⟨W3, hW3⟩ : ∃ W3, W2.setCell ⟨g, 1, none⟩ (iv ((q : Int) + 1)) = W3 := ⟨_, rfl⟩
      have H3 : Hid (Rd W3 g s (q + 1) ∧ w.grownBy W3 (some g) ∧ Blk W3 b 49 [.string e0, .string e0]) := by
        have e3 : W2.setCell ⟨g, 1, none⟩ (iv (((q + 1 : Nat)) : Int)) = W3 := by rw [← hW3]; rfl
        rw [← e3]
        exact ⟨H2.out.1.set (by have := HLT.out; omega), H2.out.2.1.trans (grown_setCell _ _ _ _), H2.out.2.2.other (by exact HA.out.2.2.2.1) _⟩
      clear hb2 hqq
      go_wp2_with fail
      refine (upTo_is H3.out.1 ⟨#[38]⟩).mono ?_
      intro e W4 h4
      have hd2 : s.data.toList.drop (q + 1) = L.drop (n1 + 1) := by rw [← HQQ.out, ← HL.out, List.drop_drop, Nat.add_assoc]
      rw [hd2] at h4
      change UpP W3 g s (q + 1) (upTo [38] (L.drop (n1 + 1))) e W4 at h4
      rcases h4 with ⟨h4, he, hr4, hg4⟩ | ⟨h4, he, hg4⟩
      · subst he
        obtain ⟨x, hx⟩ : ∃ x : BA, x = ⟨(upTo [38] (L.drop (n1 + 1))).1.toArray⟩ := ⟨_, rfl⟩
        rw [← hx]
        have hpk : pairF L = (((upTo [61, 38] L).1, (upTo [38] (L.drop (n1 + 1))).1), n1 + 1 + (upTo [38] (L.drop (n1 + 1))).2.1, 0) := by
          have := pair_ok (l := L) H1.out.2.2.2.1 (by rw [H1.out.2.2.2.2.1]; exact HQ.out.2) (by rw [H1.out.2.2.2.2.1]; exact h4)
          rw [this, H1.out.2.2.2.2.1]
        have hok : k.size ≤ 140737488355328 ∧ x.size ≤ 140737488355328 := by
          rw [H1.out.2.2.2.2.2, hx]
          have e1 := upTo_size [61, 38] s p HG.out.2
          have e2 := upTo_size [38] s (q + 1) HG.out.2
          rw [HL.out] at e1
          rw [hd2] at e2
          exact ⟨e1, e2⟩
        have H4 : Hid (Rd W4 g s (q + 1 + (upTo [38] (L.drop (n1 + 1))).2.1) ∧ w.grownBy W4 (some g) ∧ Blk W4 b 49 [.string e0, .string e0] ∧ pairF L = (((upTo [61, 38] L).1, (upTo [38] (L.drop (n1 + 1))).1), n1 + 1 + (upTo [38] (L.drop (n1 + 1))).2.1, 0) ∧ mkP ((upTo [61, 38] L).1, (upTo [38] (L.drop (n1 + 1))).1) = ⟨k, x⟩ ∧ (⟨k, x⟩ : Pr).ok) := ⟨hr4, H3.out.2.1.trans hg4, H3.out.2.2.kept hg4 (by simpa using HA.out.2.2.2.1), hpk, by unfold mkP; rw [H1.out.2.2.2.2.2, hx], hok⟩
        clear h4 hr4 hg4 hd2 hpk hok hx
        go_wp2_with (with_reducible change wpList _ _ _ ({ dst := none, op := Op.store 49 _ _, type := _, pos := _, after := _, guard := _ } :: _) _ _; refine Hid.out ?_)
        show wpList _ _ _ _ _ _
        refine wpList_store_blk rfl 49 (.tmp 2) (.tmp 21) rfl b 0 49 _ (⟨k, x⟩ : Pr).cells rfl rfl H4.out.2.2.1 (by show 0 + 2 ≤ 2; omega) (size49 _) (Pr.one _) ?_
        intro W5 hx5 hg5
        have H5 : Hid (Blk W5 b 49 (⟨k, x⟩ : Pr).cells ∧ Rd W5 g s (q + 1 + (upTo [38] (L.drop (n1 + 1))).2.1) ∧ w.grownBy W5 (some g)) := ⟨blk_all hx5.out rfl, ⟨H4.out.1.1.kept hg5.out (by have := HA.out.2.2.2.1; intro h; exact this (Option.some.inj h).symm), H4.out.1.2⟩, gr_hi H4.out.2.1 hg5.out HA.out.2.2.2.2⟩
        clear hx5 hg5
        go_wp2
        refine ret_c (g := b) rfl rfl rfl H5.out.1 Tryd.underlying49 rfl (size49 _) ?_
        refine .inl ?_
        rw [H4.out.2.2.2.1]
        refine ⟨rfl, ?_, ?_, H5.out.2.2, ?_⟩
        · show _ = Ending.returned (.agg (mkP _).cells.toArray)
          rw [H4.out.2.2.2.2.1]
        · have := H5.out.2.1
          rw [← HQQ.out] at this
          show Rd _ _ _ (p + (n1 + 1 + _))
          rw [show p + (n1 + 1 + (upTo [38] (L.drop (n1 + 1))).2.1) = p + n1 + 1 + (upTo [38] (L.drop (n1 + 1))).2.1 by omega]
          exact this
        · show (mkP _).ok
          rw [H4.out.2.2.2.2.1]
          exact H4.out.2.2.2.2.2
      · have HF : Hid (w.grownBy W4 (some g) ∧ pairF L = (([], []), n1 + 1 + (upTo [38] (L.drop (n1 + 1))).2.1, (upTo [38] (L.drop (n1 + 1))).2.2) ∧ (upTo [38] (L.drop (n1 + 1))).2.2 ≠ 0) := by
          refine ⟨H3.out.2.1.trans hg4, ?_, h4⟩
          have := pair_n2 (l := L) H1.out.2.2.2.1 (by rw [H1.out.2.2.2.2.1]; exact HQ.out.2) (by rw [H1.out.2.2.2.2.1]; exact h4)
          rw [this, H1.out.2.2.2.2.1]
        rw [gvP] at he
        subst he
        clear h4 hg4 hd2
        go_wp2
        refine ⟨rfl, .inr ?_⟩
        rw [HF.out.2.1]
        refine ⟨HF.out.2.2, ?_, HF.out.1⟩
        show gvP _ _ = gvP _ _
        rw [← HQQ.out, show p + (n1 + 1 + (upTo [38] (L.drop (n1 + 1))).2.1) = p + n1 + 1 + (upTo [38] (L.drop (n1 + 1))).2.1 by omega]
    · have HQ : Hid (atOne s (p + n1) ⟨#[61]⟩ = false ∧ pairF L = (([], []), n1, 221)) := ⟨by rw [atOne_head, HHD.out]; exact decide_eq_false hq, by rw [pair_n1 H1.out.2.2.2.1 (by rw [H1.out.2.2.2.2.1]; exact hq), H1.out.2.2.2.2.1]⟩
      clear hq
      go_wp2_with fail
      refine (atOne_is H1.out.1 ⟨#[61]⟩ false HQ.out.1).mono ?_
      rintro e W2 ⟨rfl, hb2⟩
      have H2 : Hid (Rd W2 g s (p + n1) ∧ w.grownBy W2 (some g)) := ⟨H1.out.1.below hb2, H1.out.2.1.trans (gr_of hb2)⟩
      clear hb2
      go_wp2_with fail
      refine (giveUp_is H2.out.1 221).mono ?_
      rintro e W3 ⟨he, rfl⟩
      rw [gvP] at he
      subst he
      go_wp2
      refine ⟨rfl, .inr ?_⟩
      rw [HQ.out.2]
      exact ⟨by show (221 : Int) ≠ 0; omega, rfl, H2.out.2⟩
  · have HF : Hid (w.grownBy W1 (some g) ∧ pairF L = (([], []), (upTo [61, 38] L).2.1, (upTo [61, 38] L).2.2) ∧ (upTo [61, 38] L).2.2 ≠ 0) := ⟨HA.out.2.2.1.trans hg1, pair_n0 h1, h1⟩
    rw [gvP] at he
    subst he
    clear h1 hg1
    go_wp2
    refine ⟨rfl, .inr ?_⟩
    rw [HF.out.2.1]
    exact ⟨HF.out.2.2, rfl, HF.out.1⟩
#print axioms pair_is
end Go.Proofs.YtlbcpbibcfolkaaDoor.Oct
