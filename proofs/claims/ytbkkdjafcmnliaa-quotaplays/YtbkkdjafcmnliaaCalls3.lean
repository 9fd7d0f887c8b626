/-
  Layer 18 (quota): Set, New, Hit.
-/
import Derived.Test.YtbkkdjafcmnliaaCalls2
namespace Go.Proofs.Ytbkkdjafcmnliaa.Oct
open Go.RowKit
section
variable {w : World} {p : Nat} {M : Mt}
theorem hits_q (h : MAt w p M) (hn : 1 ≤ M.n) (t : Int) (h1 : t ≤ 9223372036854775807) (n : Nat) : Calls Try.prog 20 #[.pointer (some ⟨p, 0, none⟩), iv t] (w.drewN n) fun e w' => e = .returned (iv (M.hitsOf t)) ∧ ∃ m, w' = w.drewN m :=
  (hits_is (w := w.drewN n) h hn t h1).mono fun _ _ ⟨he, k, hw⟩ => ⟨he, n + k, by rw [hw]; simp⟩
set_option maxRecDepth 100000 in
theorem set_is (h : MAt w p M) (hn : 1 ≤ M.n) (b r n : Int) : Calls Try.prog 17 #[.pointer (some ⟨p, 0, none⟩), lv b r n] w fun e w' => e = .returned (iv (M.set b r n).1) ∧ MAt w' p (M.set b r n).2 ∧ w.grownBy w' (some p) := by
  have HU : Hid (MAt w p M) := h
  have HM : Hid (∀ o, Calls Try.prog 24 #[.pointer (some ⟨p, 0, none⟩)] (w.alloc o) fun e w' => e = .returned (.bool true) ∧ w.alloc o = w') := fun o => made_is (h.alloc o) hn
  have HL : Hid (∀ o, Calls Try.prog 22 #[.pointer (some ⟨p, 0, none⟩), lv b r n] (w.alloc o).drew fun e w' => e = .returned (iv (M.lim b r n).1) ∧ MAt w' p (M.lim b r n).2 ∧ (w.alloc o).drew.grownBy w' (some p)) := fun o => limit_is (h.alloc o).drew b r n
  unfold Mt.set
  unfold Mt.lim at HL
  by_cases hk : okL b r n
  · simp only [hk, if_true] at HL ⊢
    clear h
    go_enter Try.func17, Try.ntmps17
    go_wp2_with (go_at_call 24; refine (HM.out _).mono ?_; rintro e w1 ⟨rfl, rfl⟩)
    go_region_with (go_at_call 22; refine (HL.out _).mono ?_; rintro e w1 ⟨rfl, hA, hG⟩)
    all_goals
      have HA : Hid (MAt w1 p { M with b := b, r := r, n := n }) := hA
      have HG := hG
      have c3 := hA.c3
      have c4 := hA.c4
      have c5 := hA.c5
      have f3 := hA.free 3
      have f4 := hA.free 4
      have f5 := hA.free 5
      clear hA
      dsimp only at c3 c4 c5
      go_wp2
      go_ret
      exact ⟨rfl, ((HA.out.set 3 _).set 4 _).set 5 _, grown_tr (grown_tr (grown_alloc _ _ _) (grown_tr (grown_drewN _ 1 _) HG)) (grown_tr (grown_tr (grown_setCell _ _ _ _) (grown_setCell _ _ _ _)) (grown_setCell _ _ _ _))⟩
  · simp only [hk, if_false, Bool.false_eq_true] at HL ⊢
    clear h
    go_enter Try.func17, Try.ntmps17
    go_wp2_with (go_at_call 24; refine (HM.out _).mono ?_; rintro e w1 ⟨rfl, rfl⟩)
    go_region_with (go_at_call 22; refine (HL.out _).mono ?_; rintro e w1 ⟨rfl, hA, hG⟩)
    all_goals
      have HA : Hid (MAt w1 p M) := hA
      have HG := hG
      clear hA
      go_wp2
      go_ret
      exact ⟨rfl, HA.out, grown_tr (grown_alloc _ _ _) (grown_tr (grown_drewN _ 1 _) HG)⟩
end
theorem below_grown {B : Nat} {w a b : World} {row : Option Nat} (h : Below B w a) (hg : a.grownBy b row) (hr : ∀ g, row = some g → B ≤ g) (hB : B ≤ w.heap.size) : Below B w b :=
  ⟨hg.os.trans h.os, hg.tape.trans h.tape, hg.output.trans h.output, Nat.le_trans h.size hg.size, fun k hk => (hg.block k (by have := h.size; omega) (fun e => by have := hr k e.symm; omega)).trans (h.block k hk)⟩
def Mt.fresh (b r n : Int) : Mt := { b := b, r := r, n := n, u := 0, l := 0, h := 0 }
/-- the block in which New lays a meter -/
def Z6 : Obj := .cells #[iv 0, iv 0, iv 0, iv 0, iv 0, iv 0] 50
theorem at_new (w : World) (o : Obj) : MAt ((w.alloc o).alloc Z6).drew (w.heap.size + 1) (Mt.fresh 0 0 0) := by
  have := Blk.new (w.alloc o) #[iv 0, iv 0, iv 0, iv 0, iv 0, iv 0] 50
  rw [World.size_alloc] at this
  exact this
theorem below_new {w w1 : World} {o : Obj} (h : ((w.alloc o).alloc Z6).drew.grownBy w1 (some (w.heap.size + 1))) : Below w.heap.size w w1 :=
  below_grown (a := ((w.alloc o).alloc Z6).drew) (((Below.refl _ w).alloc (Nat.le_refl _) o).alloc (by simp) _ |>.drew) h (fun g hg => by cases hg; omega) (Nat.le_refl _)
set_option maxRecDepth 100000 in
theorem new_bad (w : World) (b r n : Int) (hk : okL b r n = false) : Calls Try.prog 8 #[lv b r n] w fun e w' => e = .returned (.tuple #[.pointer none, iv 2]) ∧ Below w.heap.size w w' := by
  have HL : Hid (∀ o, Calls Try.prog 22 #[.pointer (some ⟨w.heap.size + 1, 0, none⟩), lv b r n] ((w.alloc o).alloc (.cells #[iv 0, iv 0, iv 0, iv 0, iv 0, iv 0] 50)).drew fun e w' => e = .returned (iv 2) ∧ Below w.heap.size w w') := fun o => by
    have := limit_is (at_new w o) b r n
    unfold Mt.lim at this
    simp only [hk, Bool.false_eq_true, if_false] at this
    exact this.mono fun _ _ ⟨h1, _, h3⟩ => ⟨h1, below_new h3⟩
  clear hk
  go_enter Try.func8, Try.ntmps8
  go_wp2
  go_region_with (go_at_call 22; refine (HL.out _).mono ?_; rintro e w1 ⟨rfl, hG⟩)
  all_goals
    have HG : Hid (Below w.heap.size w w1) := hG
    clear hG
    go_wp2
    go_ret2
    exact ⟨rfl, HG.out⟩
set_option maxRecDepth 100000 in
theorem new_ok (w : World) (b r n : Int) (hk : okL b r n = true) : Calls Try.prog 8 #[lv b r n] w fun e w' => e = .returned (.tuple #[.pointer (some ⟨w.heap.size + 1, 0, none⟩), iv 0]) ∧ MAt w' (w.heap.size + 1) (Mt.fresh b r n) ∧ Below w.heap.size w w' := by
  have HL : Hid (∀ o, Calls Try.prog 22 #[.pointer (some ⟨w.heap.size + 1, 0, none⟩), lv b r n] ((w.alloc o).alloc (.cells #[iv 0, iv 0, iv 0, iv 0, iv 0, iv 0] 50)).drew fun e w' => e = .returned (iv 0) ∧ Hid (MAt w' (w.heap.size + 1) (Mt.fresh b r n) ∧ Below w.heap.size w w')) := fun o => by
    have := limit_is (at_new w o) b r n
    unfold Mt.lim at this
    simp only [hk, if_true] at this
    exact this.mono fun _ _ ⟨h1, h2, h3⟩ => ⟨h1, h2, below_new h3⟩
  clear hk
  go_enter Try.func8, Try.ntmps8
  go_wp2
  go_region_with (go_at_call 22; refine (HL.out _).mono ?_; rintro e w1 ⟨rfl, hG⟩)
  all_goals
    go_wp2
    go_ret2
    exact ⟨rfl, hG.out⟩
section
variable {w : World} {p : Nat} {M : Mt}
set_option maxRecDepth 100000 in
theorem hit_is (h : MAt w p M) (hg : M.good) (t : Int) (h1 : t ≤ 9223372036854775807) : Calls Try.prog 11 #[.pointer (some ⟨p, 0, none⟩), iv t] w fun e w' => e = .returned (iv (M.hit t).1) ∧ MAt w' p (M.hit t).2 ∧ w.grownBy w' (some p) := by
  have c1 := h.c1
  have c4 := h.c4
  have c5 := h.c5
  have f4 := h.free 4
  have f5 := h.free 5
  have HU : Hid (MAt w p M) := h
  have hn := hg.2.2.1.1
  have HM := made_is h hn
  unfold Mt.hit
  by_cases h0 : t < 0
  · rw [if_pos h0]
    clear h hg
    go_enter Try.func11, Try.ntmps11
    go_wp2_with (go_at_call 24; refine HM.mono ?_; rintro e w1 ⟨rfl, rfl⟩)
    go_quiet (fail)
    go_wp2
    go_ret
    exact ⟨rfl, HU.out.drewN _, grown_drewN _ _ _⟩
  · rw [if_neg h0]
    have HW : Hid (∀ n, Calls Try.prog 25 #[.pointer (some ⟨p, 0, none⟩), iv t] (w.drewN n) fun e w' => e = .returned (iv (t / M.n)) ∧ w' = w.drewN n) := fun n => window_q h hn t (by omega) h1 n
    have HH : Hid (∀ n, Calls Try.prog 20 #[.pointer (some ⟨p, 0, none⟩), iv t] (w.drewN n) fun e w' => e = .returned (iv (M.hitsOf t)) ∧ ∃ m, w' = w.drewN m) := fun n => hits_q h hn t h1 n
    have HHq : Hid (∀ a n, Calls Try.prog 20 #[.pointer (some ⟨p, 0, none⟩), iv t] (w.drewN (a + n)) fun e w' => e = .returned (iv (M.hitsOf t)) ∧ ∃ m, w' = w.drewN (a + m)) := fun a n => (hits_is (w := w.drewN (a + n)) h hn t h1).mono fun _ _ ⟨he, k, hw⟩ => ⟨he, n + k, by rw [hw]; simp [Nat.add_assoc]⟩
    by_cases h2 : t / M.n < M.l
    · rw [if_pos h2]
      generalize t / M.n = d at *
      clear h hg
      go_enter Try.func11, Try.ntmps11
      go_wp2_with (go_at_call 24; refine HM.mono ?_; rintro e w1 ⟨rfl, rfl⟩)
      go_quiet (first | (go_at_call 25; refine Calls.quiet_of_same (HW.out _)))
      go_wp2
      go_ret
      exact ⟨rfl, HU.out.drewN _, grown_drewN _ _ _⟩
    · rw [if_neg h2]
      have hb : 0 ≤ M.hitsOf t ∧ M.hitsOf t ≤ 1099511627776 := by
        unfold Mt.hitsOf
        have := hg.2.2.2.2.2
        split
        · omega
        · split <;> omega
      have hw : IntKind.i64.wrap (M.hitsOf t + 1) = M.hitsOf t + 1 := wrapi (by omega) (by omega)
      generalize t / M.n = d at *
      generalize M.hitsOf t = k at *
      by_cases h3 : M.r ≤ k
      · rw [if_pos h3]
        clear h hg
        go_enter Try.func11, Try.ntmps11
        go_wp2_with (go_at_call 24; refine HM.mono ?_; rintro e w1 ⟨rfl, rfl⟩)
        go_quiet (first | (go_at_call 25; refine Calls.quiet_of_same (HW.out _)))
        go_wp2_with fail
        go_quiet (first | (go_at_call 20; refine (HHq.out _ _)))
        go_wp2
        go_ret
        exact ⟨rfl, (HU.out.drewN _).drewN _, grown_tr (grown_drewN _ _ _) (grown_drewN _ _ _)⟩
      · rw [if_neg h3]
        clear h hg
        go_enter Try.func11, Try.ntmps11
        go_wp2_with (go_at_call 24; refine HM.mono ?_; rintro e w1 ⟨rfl, rfl⟩)
        go_quiet (first | (go_at_call 25; refine Calls.quiet_of_same (HW.out _)))
        go_wp2_with fail
        go_quiet (first | (go_at_call 20; refine (HHq.out _ _)))
        go_wp2_with (first
          | (go_at_call 25; refine (HW.out _).mono ?_; rintro e w1 ⟨rfl, rfl⟩)
          | (go_at_call 20; refine (HH.out _).mono ?_; rintro e w1 ⟨rfl, m, rfl⟩))
        go_ret
        exact ⟨rfl, ((HU.out.drewN _).set 4 _).set 5 _, grown_tr (grown_drewN _ _ _) (grown_tr (grown_setCell _ _ _ _) (grown_setCell _ _ _ _))⟩
end
#print axioms set_is
#print axioms new_ok
#print axioms hit_is
end Go.Proofs.Ytbkkdjafcmnliaa.Oct
