/-
  Layer 18 (quota): the law QuotaBack.
-/
import Derived.Test.YtbkkdjafcmnliaaState
namespace Go.Proofs.Ytbkkdjafcmnliaa.Oct
open Go.RowKit

theorem St.base {w W0 W : World} {p : Nat} {M : Mt} (h : St W0 W p M) (hb : Below w.heap.size w W0) : St w W p M :=
  ⟨h.at_, h.good, hb.trans (h.bel.mono hb.size), Nat.le_trans hb.size h.le⟩
theorem below_al (w : World) (o : Obj) : Below w.heap.size w (w.alloc o) := (Below.refl _ w).alloc (Nat.le_refl _) o
theorem st_new_al (w : World) (o : Obj) (b r n : Int) (hk : okL b r n = true) : Calls Try.prog 8 #[lv b r n] (w.alloc o) fun e w' => e = .returned (.tuple #[.pointer (some ⟨w.heap.size + 1 + 1, 0, none⟩), iv 0]) ∧ St w w' (w.heap.size + 1 + 1) (Mt.fresh b r n) := by
  have := st_new (w.alloc o) b r n hk
  rw [World.size_alloc] at this
  exact this.mono fun _ _ ⟨h1, h2⟩ => ⟨h1, h2.base (below_al w o)⟩
theorem new_bad_al (w : World) (o : Obj) (b r n : Int) (hk : okL b r n = false) : Calls Try.prog 8 #[lv b r n] (w.alloc o) fun e w' => e = .returned (.tuple #[.pointer none, iv 2]) ∧ Below w.heap.size w w' :=
  (new_bad (w.alloc o) b r n hk).mono fun _ _ ⟨h1, h2⟩ => ⟨h1, (below_al w o).trans (h2.mono (below_al w o).size)⟩
theorem lives_st {w0 W : World} (h : Below w0.heap.size w0 W) : Calls Try.prog 10 #[] W fun e w' => e = .returned (.bool true) ∧ Below w0.heap.size w0 w' :=
  (lives_is W).mono fun _ _ ⟨h1, h2⟩ => ⟨h1, h.trans (h2.mono h.size)⟩

set_option maxRecDepth 100000 in
set_option maxHeartbeats 1000000 in
theorem back_law (b r n : Int) (x k : Int) (hk : -9223372036854775808 ≤ k ∧ k ≤ 9223372036854775807) (w : World) : Calls Try.prog 6 #[lv b r n, iv x, iv k] w fun e w' => e = .returned (.bool true) ∧ Below w.heap.size w w' := by
  cases ho : okL b r n
  · have HN := fun o => new_bad_al w o b r n ho
    clear ho hk
    go_enter Try.func6, Try.ntmps6
    go_wp2_with fail
    refine (HN _).mono ?_
    rintro e w1 ⟨rfl, hb⟩
    have HL := lives_st hb
    clear HN hb
    go_wp2_with (go_at_call 10; refine HL.mono ?_; rintro e w2 ⟨rfl, hb⟩)
    go_ret
    exact ⟨rfl, hb⟩
  · have HN := fun o => st_new_al w o b r n ho
    generalize w.heap.size + 1 + 1 = p at HN
    clear ho
    go_enter Try.func6, Try.ntmps6
    go_wp2_with fail
    refine (HN _).mono ?_
    rintro e w1 ⟨rfl, s0⟩
    have HC := st_charge s0 x
    obtain ⟨c1, M1, he⟩ : ∃ c M, (Mt.fresh b r n).charge x = (c, M) := ⟨_, _, rfl⟩
    rw [he] at HC
    clear HN s0 he
    go_wp2_with fail
    refine HC.mono ?_
    rintro e w2 ⟨rfl, s1⟩
    have HU := st_used s1
    clear HC s1
    go_wp2_with fail
    refine HU.mono ?_
    rintro e w3 ⟨rfl, s2⟩
    have hg := s2.good
    have HC := st_charge s2 k
    clear HU s2
    unfold Mt.charge at HC
    have hgb : 0 ≤ M1.u ∧ M1.u ≤ 1099511627776 ∧ M1.b ≤ 1099511627776 := by unfold Mt.good at hg; omega
    by_cases h0 : k < 0
    · simp only [h0, if_true] at HC
      have q : (decide (k < 0)) = true := decide_eq_true h0
      clear hg
      go_wp2_with fail
      refine HC.mono ?_
      rintro e w4 ⟨rfl, s3⟩
      have HU := st_used s3
      clear HC
      go_wp2_with fail
      refine HU.mono ?_
      rintro e w5 ⟨rfl, s4⟩
      have HL := lives_st s4.bel
      clear HU s3 s4
      go_wp2_with (go_at_call 10; refine HL.mono ?_; rintro e w6 ⟨rfl, hb⟩)
      go_ret
      exact ⟨rfl, hb⟩
    · simp only [h0, if_false] at HC
      by_cases h1 : M1.b - M1.u < k
      · simp only [h1, if_true] at HC
        have q : (decide (k < 0)) = false := decide_eq_false h0
        clear hg
        go_wp2_with fail
        refine HC.mono ?_
        rintro e w4 ⟨rfl, s3⟩
        have HU := st_used s3
        clear HC
        go_wp2_with fail
        refine HU.mono ?_
        rintro e w5 ⟨rfl, s4⟩
        have HL := lives_st s4.bel
        clear HU s3 s4
        go_wp2_with (go_at_call 10; refine HL.mono ?_; rintro e w6 ⟨rfl, hb⟩)
        go_ret
        exact ⟨rfl, hb⟩
      · simp only [h1, if_false] at HC
        have HR : Mt.refund { M1 with u := M1.u + k } k = (0, M1) := by
          unfold Mt.refund
          rw [if_neg h0]
          dsimp only
          rw [if_neg (by omega), show M1.u + k - k = M1.u by omega]
        have q1 : IntKind.i64.wrap (M1.u + k - M1.u) = k := by rw [wrapi (by omega) (by omega)]; omega
        clear hg
        go_wp2_with fail
        refine HC.mono ?_
        rintro e w4 ⟨rfl, s3⟩
        have HU := st_used s3
        dsimp only at HU
        clear HC
        go_wp2_with fail
        refine HU.mono ?_
        rintro e w5 ⟨rfl, s4⟩
        have HC := st_refund s4 k
        rw [HR] at HC
        dsimp only at HC
        clear HU s3 s4 HR
        have q2 : (M1.u + k - M1.u == k) = true := by simp; omega
        go_wp2_with fail
        refine HC.mono ?_
        rintro e w6 ⟨rfl, s5⟩
        have HU := st_used s5
        clear HC s5
        go_wp2_with fail
        refine HU.mono ?_
        rintro e w7 ⟨rfl, s6⟩
        have HL := lives_st s6.bel
        clear HU s6
        go_wp2_with (go_at_call 10; refine HL.mono ?_; rintro e w8 ⟨rfl, hb⟩)
        go_ret
        exact ⟨rfl, hb⟩
#print axioms back_law
end Go.Proofs.Ytbkkdjafcmnliaa.Oct
