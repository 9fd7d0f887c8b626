/-
  Layer 18 (quota): Used, Hits, Charge, Refund of a meter that was made.
-/
import Derived.Test.YtbkkdjafcmnliaaSmall
import Derived.BigQuiet
import Derived.Deep.QuietTactic
import Derived.Outline
namespace Go.Proofs.Ytbkkdjafcmnliaa.Oct
open Go.RowKit

def Mt.hitsOf (M : Mt) (t : Int) : Int := if t < 0 then 0 else if t / M.n = M.l then M.h else 0
def Mt.charge (M : Mt) (n : Int) : Int × Mt := if n < 0 then (2, M) else if M.b - M.u < n then (180, M) else (0, { M with u := M.u + n })
def Mt.refund (M : Mt) (n : Int) : Int × Mt := if n < 0 then (2, M) else if M.u < n then (2, M) else (0, { M with u := M.u - n })

section
variable {w : World} {p : Nat} {M : Mt}
theorem made_q (h : MAt w p M) (hn : 1 ≤ M.n) (n : Nat) : Calls Try.prog 24 #[.pointer (some ⟨p, 0, none⟩)] (w.drewN n) fun e w' => e = .returned (.bool true) ∧ w' = w.drewN n :=
  (made_is (w := w.drewN n) h hn).mono fun _ _ ⟨he, hw⟩ => ⟨he, hw.symm⟩
theorem window_q (h : MAt w p M) (hn : 1 ≤ M.n) (t : Int) (h0 : 0 ≤ t) (h1 : t ≤ 9223372036854775807) (n : Nat) : Calls Try.prog 25 #[.pointer (some ⟨p, 0, none⟩), iv t] (w.drewN n) fun e w' => e = .returned (iv (t / M.n)) ∧ w' = w.drewN n :=
  (window_is (w := w.drewN n) h hn t h0 h1).mono fun _ _ ⟨he, hw⟩ => ⟨he, hw.symm⟩
set_option maxRecDepth 100000 in
theorem used_is (h : MAt w p M) (hn : 1 ≤ M.n) : Calls Try.prog 19 #[.pointer (some ⟨p, 0, none⟩)] w fun e w' => e = .returned (iv M.u) ∧ w = w' := by
  have c3 := h.c3
  have HM := made_is h hn
  clear h
  go_enter Try.func19, Try.ntmps19
  go_wp2_with (go_at_call 24; refine HM.mono ?_; rintro e w1 ⟨rfl, rfl⟩)
  go_ret
  exact ⟨rfl, rfl⟩
set_option maxRecDepth 100000 in
theorem hits_is (h : MAt w p M) (hn : 1 ≤ M.n) (t : Int) (h1 : t ≤ 9223372036854775807) : Calls Try.prog 20 #[.pointer (some ⟨p, 0, none⟩), iv t] w fun e w' => e = .returned (iv (M.hitsOf t)) ∧ ∃ n, w' = w.drewN n := by
  have c4 := h.c4
  have c5 := h.c5
  have HM : Hid (∀ n, Calls Try.prog 24 #[.pointer (some ⟨p, 0, none⟩)] (w.drewN n) fun e w' => e = .returned (.bool true) ∧ w' = w.drewN n) := fun n => made_q h hn n
  unfold Mt.hitsOf
  by_cases h0 : t < 0
  · rw [if_pos h0]
    clear h
    go_enter Try.func20, Try.ntmps20
    go_wp2_with fail
    go_quiet (first | (go_at_call 24; refine Calls.quiet_of_same (HM.out _)))
    go_wp2
    go_ret
    exact ⟨rfl, _, rfl⟩
  · rw [if_neg h0]
    have HW : Hid (∀ n, Calls Try.prog 25 #[.pointer (some ⟨p, 0, none⟩), iv t] (w.drewN n) fun e w' => e = .returned (iv (t / M.n)) ∧ w' = w.drewN n) := fun n => window_q h hn t (by omega) h1 n
    generalize t / M.n = d at *
    generalize M.l = l at *
    clear h
    by_cases hd : d = l
    · rw [if_pos hd]
      subst hd
      go_enter Try.func20, Try.ntmps20
      go_wp2_with fail
      go_quiet (first | (go_at_call 24; refine Calls.quiet_of_same (HM.out _)) | (go_at_call 25; refine Calls.quiet_of_same (HW.out _)))
      go_wp2
      go_ret
      exact ⟨rfl, _, rfl⟩
    · rw [if_neg hd]
      have q : (d != l) = true := by simpa using hd
      go_enter Try.func20, Try.ntmps20
      go_wp2_with fail
      go_quiet (first | (go_at_call 24; refine Calls.quiet_of_same (HM.out _)) | (go_at_call 25; refine Calls.quiet_of_same (HW.out _)))
      go_wp2
      go_ret
      exact ⟨rfl, _, rfl⟩
set_option maxRecDepth 100000 in
theorem charge_is (h : MAt w p M) (hg : M.good) (n : Int) : Calls Try.prog 13 #[.pointer (some ⟨p, 0, none⟩), iv n] w fun e w' => e = .returned (iv (M.charge n).1) ∧ MAt w' p (M.charge n).2 ∧ w.grownBy w' (some p) := by
  have c0 := h.c0
  have c3 := h.c3
  have f3 := h.free 3
  have HM := made_is h hg.2.2.1.1
  have HU : Hid (MAt w p M) := h
  unfold Mt.charge
  by_cases h0 : n < 0
  · rw [if_pos h0]
    clear h
    go_enter Try.func13, Try.ntmps13
    go_wp2_with (go_at_call 24; refine HM.mono ?_; rintro e w1 ⟨rfl, rfl⟩)
    go_ret
    exact ⟨rfl, HU.out, World.grownBy.refl _ _⟩
  · rw [if_neg h0]
    have hw : IntKind.i64.wrap (M.b - M.u) = M.b - M.u := wrapi (by have := hg.1; have := hg.2.2.2.1; omega) (by have := hg.1; have := hg.2.2.2.1; omega)
    by_cases h2 : M.b - M.u < n
    · rw [if_pos h2]
      clear h
      go_enter Try.func13, Try.ntmps13
      go_wp2_with (go_at_call 24; refine HM.mono ?_; rintro e w1 ⟨rfl, rfl⟩)
      go_quiet (fail)
      go_wp2
      go_ret
      exact ⟨rfl, HU.out.drewN _, grown_drewN _ _ _⟩
    · rw [if_neg h2]
      have hw2 : IntKind.i64.wrap (M.u + n) = M.u + n := wrapi (by have := hg.1; have := hg.2.2.2.1; omega) (by have := hg.1; have := hg.2.2.2.1; omega)
      clear h
      go_enter Try.func13, Try.ntmps13
      go_wp2_with (go_at_call 24; refine HM.mono ?_; rintro e w1 ⟨rfl, rfl⟩)
      go_quiet (fail)
      go_wp2
      go_ret
      trace_state
      exact ⟨rfl, (HU.out.drewN _).set 3 _, grown_tr (grown_drewN _ _ _) (grown_setCell _ _ _ _)⟩
end
#print axioms used_is
#print axioms hits_is
#print axioms charge_is
end Go.Proofs.Ytbkkdjafcmnliaa.Oct
