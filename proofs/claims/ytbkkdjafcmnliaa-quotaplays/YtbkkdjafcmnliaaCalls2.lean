/-
  Layer 18 (quota): Refund, limit, Set, Hit, New.
-/
import Derived.Test.YtbkkdjafcmnliaaCalls
import Derived.Deep.RegionWith
namespace Go.Proofs.Ytbkkdjafcmnliaa.Oct
open Go.RowKit

abbrev lv (b r n : Int) : Value := .agg #[iv b, iv r, iv n]
def Mt.lim (M : Mt) (b r n : Int) : Int × Mt := if okL b r n then (0, { M with b := b, r := r, n := n }) else (2, M)
def Mt.set (M : Mt) (b r n : Int) : Int × Mt := if okL b r n then (0, { b := b, r := r, n := n, u := M.u, l := 0, h := 0 }) else (2, M)
def Mt.hit (M : Mt) (t : Int) : Int × Mt := if t < 0 then (2, M) else if t / M.n < M.l then (2, M) else if M.r ≤ M.hitsOf t then (181, M) else (0, { M with l := t / M.n, h := M.hitsOf t + 1 })

theorem grown_alloc (w : World) (o : Obj) (row : Option Nat) : w.grownBy (w.alloc o) row :=
  ⟨rfl, rfl, rfl, by simp, fun k hk _ => Below.heap_alloc w o k hk⟩
section
variable {w : World} {p : Nat} {M : Mt}
set_option maxRecDepth 100000 in
theorem refund_is (h : MAt w p M) (hg : M.good) (n : Int) : Calls Try.prog 15 #[.pointer (some ⟨p, 0, none⟩), iv n] w fun e w' => e = .returned (iv (M.refund n).1) ∧ MAt w' p (M.refund n).2 ∧ w.grownBy w' (some p) := by
  have c3 := h.c3
  have f3 := h.free 3
  have HM := made_is h hg.2.2.1.1
  have HU : Hid (MAt w p M) := h
  unfold Mt.refund
  by_cases h0 : n < 0
  · rw [if_pos h0]
    clear h
    go_enter Try.func15, Try.ntmps15
    go_wp2_with (go_at_call 24; refine HM.mono ?_; rintro e w1 ⟨rfl, rfl⟩)
    go_ret
    exact ⟨rfl, HU.out, World.grownBy.refl _ _⟩
  · rw [if_neg h0]
    by_cases h2 : M.u < n
    · rw [if_pos h2]
      clear h
      go_enter Try.func15, Try.ntmps15
      go_wp2_with (go_at_call 24; refine HM.mono ?_; rintro e w1 ⟨rfl, rfl⟩)
      go_ret
      exact ⟨rfl, HU.out, World.grownBy.refl _ _⟩
    · rw [if_neg h2]
      have hw2 : IntKind.i64.wrap (M.u - n) = M.u - n := wrapi (by have := hg.1; have := hg.2.2.2.1; omega) (by have := hg.1; have := hg.2.2.2.1; omega)
      clear h
      go_enter Try.func15, Try.ntmps15
      go_wp2_with (go_at_call 24; refine HM.mono ?_; rintro e w1 ⟨rfl, rfl⟩)
      go_ret
      exact ⟨rfl, HU.out.set 3 _, grown_setCell _ _ _ _⟩
set_option maxRecDepth 100000 in
theorem limit_is (h : MAt w p M) (b r n : Int) : Calls Try.prog 22 #[.pointer (some ⟨p, 0, none⟩), lv b r n] w fun e w' => e = .returned (iv (M.lim b r n).1) ∧ MAt w' p (M.lim b r n).2 ∧ w.grownBy w' (some p) := by
  have HU : Hid (MAt w p M) := h
  have hl := h.lt
  unfold Mt.lim okL
  by_cases h1 : 0 ≤ b ∧ b ≤ 1099511627776
  · have d1 := decide_eq_true h1
    by_cases h2 : 0 ≤ r ∧ r ≤ 1099511627776
    · have d2 := decide_eq_true h2
      by_cases h3 : 1 ≤ n ∧ n ≤ 1099511627776
      · have d3 := decide_eq_true h3
        simp only [d1, d2, d3, Bool.and_self, if_true]
        have c0 := h.c0
        have c1 := h.c1
        have c2 := h.c2
        have f0 := h.free 0
        have f1 := h.free 1
        have f2 := h.free 2
        clear h h1 h2 h3
        go_enter Try.func22, Try.ntmps22
        go_wp2_with (go_at_call 27; refine (mayBe_is _ _ _).mono ?_; rintro e w1 ⟨rfl, rfl⟩; first | rw [d1] | rw [d2] | rw [d3])
        go_ret
        exact ⟨rfl, (((HU.out.set 0 _).set 1 _).set 2 _).alloc _, grown_tr (grown_tr (grown_tr (grown_setCell _ _ _ _) (grown_setCell _ _ _ _)) (grown_setCell _ _ _ _)) (grown_alloc _ _ _)⟩
      · have d3 := decide_eq_false h3
        simp only [d1, d2, d3, Bool.and_self, Bool.and_false, Bool.false_eq_true, if_false]
        clear h h1 h2 h3
        go_enter Try.func22, Try.ntmps22
        go_wp2_with (go_at_call 27; refine (mayBe_is _ _ _).mono ?_; rintro e w1 ⟨rfl, rfl⟩; first | rw [d1] | rw [d2] | rw [d3])
        go_ret
        exact ⟨rfl, HU.out.alloc _, grown_alloc _ _ _⟩
    · have d2 := decide_eq_false h2
      simp only [d1, d2, Bool.and_false, Bool.false_and, Bool.false_eq_true, if_false]
      clear h h1 h2
      go_enter Try.func22, Try.ntmps22
      go_wp2_with (go_at_call 27; refine (mayBe_is _ _ _).mono ?_; rintro e w1 ⟨rfl, rfl⟩; first | rw [d1] | rw [d2])
      go_ret
      exact ⟨rfl, HU.out.alloc _, grown_alloc _ _ _⟩
  · have d1 := decide_eq_false h1
    simp only [d1, Bool.false_and, Bool.false_eq_true, if_false]
    clear h h1
    go_enter Try.func22, Try.ntmps22
    go_wp2_with (go_at_call 27; refine (mayBe_is _ _ _).mono ?_; rintro e w1 ⟨rfl, rfl⟩; rw [d1])
    go_ret
    exact ⟨rfl, HU.out.alloc _, grown_alloc _ _ _⟩
end
end Go.Proofs.Ytbkkdjafcmnliaa.Oct
