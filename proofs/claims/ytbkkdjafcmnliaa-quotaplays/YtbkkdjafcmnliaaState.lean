/-
  Layer 18 (quota): a meter of the call's own, and what each call leaves of it; the chapter's example.
-/
import Derived.Test.YtbkkdjafcmnliaaCalls3
namespace Go.Proofs.Ytbkkdjafcmnliaa.Oct
open Go.RowKit

/-- at p stands the meter M, made behind w0 -/
structure St (w0 W : World) (p : Nat) (M : Mt) : Prop where
  at_ : MAt W p M
  good : M.good
  bel : Below w0.heap.size w0 W
  le : w0.heap.size ≤ p
theorem St.grown {w0 W W' : World} {p : Nat} {M M' : Mt} (h : St w0 W p M) (ha : MAt W' p M') (hg : M'.good) (hw : W.grownBy W' (some p)) : St w0 W' p M' :=
  ⟨ha, hg, below_grown h.bel hw (fun g e => by cases e; exact h.le) (Nat.le_refl _), h.le⟩
theorem St.below {w0 W W' : World} {p : Nat} {M : Mt} (h : St w0 W p M) (hb : Below W.heap.size W W') : St w0 W' p M :=
  ⟨Blk.below h.at_ hb (Blk.lt h.at_), h.good, h.bel.trans (hb.mono h.bel.size), h.le⟩
theorem St.drewN {w0 W : World} {p : Nat} {M : Mt} (h : St w0 W p M) (n : Nat) : St w0 (W.drewN n) p M :=
  ⟨h.at_.drewN n, h.good, ⟨h.bel.os, h.bel.tape, h.bel.output, h.bel.size, h.bel.block⟩, h.le⟩
theorem okL_iff {b r n : Int} : okL b r n = true ↔ (0 ≤ b ∧ b ≤ 1099511627776) ∧ (0 ≤ r ∧ r ≤ 1099511627776) ∧ (1 ≤ n ∧ n ≤ 1099511627776) := by
  simp only [okL, Bool.and_eq_true, decide_eq_true_eq, and_assoc]
theorem good_fresh {b r n : Int} (h : okL b r n = true) : (Mt.fresh b r n).good := by
  obtain ⟨h1, h2, h3⟩ := okL_iff.1 h
  unfold Mt.good Mt.fresh
  dsimp only
  omega
theorem good_charge {M : Mt} (h : M.good) (n : Int) : (M.charge n).2.good := by
  unfold Mt.charge
  split
  · exact h
  · split
    · exact h
    · unfold Mt.good at *
      dsimp only
      omega
theorem good_refund {M : Mt} (h : M.good) (n : Int) : (M.refund n).2.good := by
  unfold Mt.refund
  split
  · exact h
  · split
    · exact h
    · unfold Mt.good at *
      dsimp only
      omega
theorem good_set {M : Mt} (h : M.good) (b r n : Int) : (M.set b r n).2.good := by
  unfold Mt.set
  split
  · rename_i hk
    obtain ⟨h1, h2, h3⟩ := okL_iff.1 hk
    unfold Mt.good at *
    dsimp only
    omega
  · exact h
theorem good_hit {M : Mt} (h : M.good) (t : Int) (ht : t ≤ 9223372036854775807) : (M.hit t).2.good := by
  unfold Mt.hit
  split
  · exact h
  · split
    · exact h
    · split
      · exact h
      · rename_i h0 h1 h2
        have hh : 0 ≤ M.hitsOf t := by
          unfold Mt.hitsOf
          have := h.2.2.2.2.2
          split
          · omega
          · split <;> omega
        have hd : 0 ≤ t / M.n := Int.ediv_nonneg (by omega) (by have := h.2.2.1; omega)
        have hd2 : t / M.n ≤ t := Int.ediv_le_self _ (by omega)
        unfold Mt.good at *
        dsimp only
        omega
section
variable {w0 W : World} {p : Nat} {M : Mt}
theorem st_charge (h : St w0 W p M) (n : Int) : Calls Try.prog 13 #[.pointer (some ⟨p, 0, none⟩), iv n] W fun e w' => e = .returned (iv (M.charge n).1) ∧ St w0 w' p (M.charge n).2 :=
  (charge_is h.at_ h.good n).mono fun _ _ ⟨h1, h2, h3⟩ => ⟨h1, h.grown h2 (good_charge h.good n) h3⟩
theorem st_refund (h : St w0 W p M) (n : Int) : Calls Try.prog 15 #[.pointer (some ⟨p, 0, none⟩), iv n] W fun e w' => e = .returned (iv (M.refund n).1) ∧ St w0 w' p (M.refund n).2 :=
  (refund_is h.at_ h.good n).mono fun _ _ ⟨h1, h2, h3⟩ => ⟨h1, h.grown h2 (good_refund h.good n) h3⟩
theorem st_set (h : St w0 W p M) (b r n : Int) : Calls Try.prog 17 #[.pointer (some ⟨p, 0, none⟩), lv b r n] W fun e w' => e = .returned (iv (M.set b r n).1) ∧ St w0 w' p (M.set b r n).2 :=
  (set_is h.at_ h.good.2.2.1.1 b r n).mono fun _ _ ⟨h1, h2, h3⟩ => ⟨h1, h.grown h2 (good_set h.good b r n) h3⟩
theorem st_hit (h : St w0 W p M) (t : Int) (ht : t ≤ 9223372036854775807) : Calls Try.prog 11 #[.pointer (some ⟨p, 0, none⟩), iv t] W fun e w' => e = .returned (iv (M.hit t).1) ∧ St w0 w' p (M.hit t).2 :=
  (hit_is h.at_ h.good t ht).mono fun _ _ ⟨h1, h2, h3⟩ => ⟨h1, h.grown h2 (good_hit h.good t ht) h3⟩
theorem st_hits (h : St w0 W p M) (t : Int) (ht : t ≤ 9223372036854775807) : Calls Try.prog 20 #[.pointer (some ⟨p, 0, none⟩), iv t] W fun e w' => e = .returned (iv (M.hitsOf t)) ∧ St w0 w' p M :=
  (hits_is h.at_ h.good.2.2.1.1 t ht).mono fun _ _ ⟨h1, n, h2⟩ => ⟨h1, h2 ▸ h.drewN n⟩
theorem st_used (h : St w0 W p M) : Calls Try.prog 19 #[.pointer (some ⟨p, 0, none⟩)] W fun e w' => e = .returned (iv M.u) ∧ St w0 w' p M :=
  (used_is h.at_ h.good.2.2.1.1).mono fun _ _ ⟨h1, h2⟩ => ⟨h1, h2 ▸ h⟩
theorem st_charge' (h : St w0 W p M) {n : Int} {c : Int} {M' : Mt} (hr : M.charge n = (c, M')) : Calls Try.prog 13 #[.pointer (some ⟨p, 0, none⟩), iv n] W fun e w' => e = .returned (iv c) ∧ St w0 w' p M' := by
  have := st_charge h n
  rw [hr] at this
  exact this
theorem st_hit' (h : St w0 W p M) {t : Int} {c : Int} {M' : Mt} (hr : M.hit t = (c, M')) (ht : t ≤ 9223372036854775807 := by decide) : Calls Try.prog 11 #[.pointer (some ⟨p, 0, none⟩), iv t] W fun e w' => e = .returned (iv c) ∧ St w0 w' p M' := by
  have := st_hit h t ht
  rw [hr] at this
  exact this
end
theorem st_new (w : World) (b r n : Int) (hk : okL b r n = true) : Calls Try.prog 8 #[lv b r n] w fun e w' => e = .returned (.tuple #[.pointer (some ⟨w.heap.size + 1, 0, none⟩), iv 0]) ∧ St w w' (w.heap.size + 1) (Mt.fresh b r n) :=
  (new_ok w b r n hk).mono fun _ _ ⟨h1, h2, h3⟩ => ⟨h1, h2, good_fresh hk, h3, Nat.le_succ _⟩
set_option maxRecDepth 100000 in
set_option maxHeartbeats 1000000 in
theorem lives_is (w : World) : Calls Try.prog 10 #[] w fun e w' => e = .returned (.bool true) ∧ Below w.heap.size w w' := by
  have hbd : ∀ W, (Instr.build 23 #[(0, iv 10), (1, iv 2), (2, iv 5)]).run Try.prog W = .ok (lv 10 2 5) W := fun _ => by kernel_rfl
  obtain ⟨p, hp⟩ : ∃ p, p = w.heap.size + 1 := ⟨_, rfl⟩
  have HN := st_new w 10 2 5 rfl
  rw [← hp] at HN
  clear hp
  go_enter Try.func10, Try.ntmps10
  go_wp2_with fail
  refine HN.mono ?_
  rintro e w1 ⟨rfl, s0⟩
  have S0 : Hid (St w w1 p ⟨10, 2, 5, 0, 0, 0⟩) := s0
  clear s0 HN hbd
  go_wp2_with fail
  refine (st_hit' (c := 0) (M' := ⟨10, 2, 5, 0, 0, 1⟩) S0.out rfl).mono ?_
  rintro e w2 ⟨rfl, s1⟩
  have S1 : Hid (St w w2 p ⟨10, 2, 5, 0, 0, 1⟩) := s1
  clear s1
  go_wp2_with fail
  refine (st_hit' (c := 0) (M' := ⟨10, 2, 5, 0, 0, 2⟩) S1.out rfl).mono ?_
  rintro e w3 ⟨rfl, s2⟩
  have S2 : Hid (St w w3 p ⟨10, 2, 5, 0, 0, 2⟩) := s2
  clear s2
  go_wp2_with fail
  refine (st_hit' (c := 181) (M' := ⟨10, 2, 5, 0, 0, 2⟩) S2.out rfl).mono ?_
  rintro e w4 ⟨rfl, s3⟩
  have S3 : Hid (St w w4 p ⟨10, 2, 5, 0, 0, 2⟩) := s3
  clear s3
  go_wp2_with fail
  refine (st_hit' (c := 0) (M' := ⟨10, 2, 5, 0, 1, 1⟩) S3.out rfl).mono ?_
  rintro e w5 ⟨rfl, s4⟩
  have S4 : Hid (St w w5 p ⟨10, 2, 5, 0, 1, 1⟩) := s4
  clear s4
  go_wp2_with fail
  refine (st_hit' (c := 2) (M' := ⟨10, 2, 5, 0, 1, 1⟩) S4.out rfl).mono ?_
  rintro e w6 ⟨rfl, s5⟩
  have S5 : Hid (St w w6 p ⟨10, 2, 5, 0, 1, 1⟩) := s5
  clear s5
  go_wp2_with fail
  refine (st_charge' (c := 0) (M' := ⟨10, 2, 5, 10, 1, 1⟩) S5.out rfl).mono ?_
  rintro e w7 ⟨rfl, s6⟩
  have S6 : Hid (St w w7 p ⟨10, 2, 5, 10, 1, 1⟩) := s6
  clear s6
  go_wp2_with fail
  refine (st_charge' (c := 180) (M' := ⟨10, 2, 5, 10, 1, 1⟩) S6.out rfl).mono ?_
  rintro e w8 ⟨rfl, s7⟩
  have S7 : Hid (St w w8 p ⟨10, 2, 5, 10, 1, 1⟩) := s7
  clear s7
  go_wp2_with fail
  refine (st_used S7.out).mono ?_
  rintro e w9 ⟨rfl, s8⟩
  have S8 : Hid (St w w9 p ⟨10, 2, 5, 10, 1, 1⟩) := s8
  clear s8
  go_wp2
  go_ret
  exact ⟨rfl, S8.out.bel⟩
#print axioms lives_is
end Go.Proofs.Ytbkkdjafcmnliaa.Oct
