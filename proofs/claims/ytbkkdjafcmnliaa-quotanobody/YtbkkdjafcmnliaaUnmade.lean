/-
  Layer 18 (quota): a meter that no call made.
-/
import Derived.Test.YtbkkdjafcmnliaaBack
namespace Go.Proofs.Ytbkkdjafcmnliaa.Oct
open Go.RowKit

def zeroM : Mt := ⟨0, 0, 0, 0, 0, 0⟩
def Un (W : World) (a : Option Addr) : Prop := a = none ∨ ∃ p, a = some ⟨p, 0, none⟩ ∧ MAt W p zeroM
theorem Un.below {W W' : World} {a : Option Addr} (h : Un W a) (hb : Below W.heap.size W W') : Un W' a := by
  rcases h with rfl | ⟨p, rfl, h⟩
  · exact .inl rfl
  · exact .inr ⟨p, rfl, Blk.below h hb (Blk.lt h)⟩
set_option maxRecDepth 100000 in
theorem un_made {w : World} {a : Option Addr} (h : Un w a) : Calls Try.prog 24 #[.pointer a] w fun e w' => e = .returned (.bool false) ∧ w = w' := by
  rcases h with rfl | ⟨p, rfl, h⟩
  · exact made_nil w
  · have c0 : w.cell? ⟨p, 0, none⟩ = some (iv 0) := h.c0
    have c1 : w.cell? ⟨p, 1, none⟩ = some (iv 0) := h.c1
    have c2 : w.cell? ⟨p, 2, none⟩ = some (iv 0) := h.c2
    clear h
    have hf : ∀ W, (Instr.field 50 (.agg #[iv 0, iv 0, iv 0, iv 0, iv 0, iv 0]) 0).run Try.prog W = .ok (.agg #[iv 0, iv 0, iv 0]) W := fun _ => by kernel_rfl
    go_enter Try.func24, Try.ntmps24
    go_wp2
    go_ret
    exact ⟨rfl, rfl⟩
theorem Un.drewN {W : World} {a : Option Addr} (h : Un W a) (n : Nat) : Un (W.drewN n) a := by
  rcases h with rfl | ⟨p, rfl, h⟩
  · exact .inl rfl
  · exact .inr ⟨p, rfl, h⟩
section
variable {w : World} {a : Option Addr}
set_option maxRecDepth 100000 in
theorem un_hit (h : Un w a) (t : Int) : Calls Try.prog 11 #[.pointer a, iv t] w fun e w' => e = .returned (iv 1) ∧ w = w' := by
  have HM := un_made h
  clear h
  go_enter Try.func11, Try.ntmps11
  go_wp2_with (go_at_call 24; refine HM.mono ?_; rintro e w1 ⟨rfl, rfl⟩)
  go_ret
  exact ⟨rfl, rfl⟩
set_option maxRecDepth 100000 in
theorem un_charge (h : Un w a) (t : Int) : Calls Try.prog 13 #[.pointer a, iv t] w fun e w' => e = .returned (iv 1) ∧ w = w' := by
  have HM := un_made h
  clear h
  go_enter Try.func13, Try.ntmps13
  go_wp2_with (go_at_call 24; refine HM.mono ?_; rintro e w1 ⟨rfl, rfl⟩)
  go_ret
  exact ⟨rfl, rfl⟩
set_option maxRecDepth 100000 in
theorem un_refund (h : Un w a) (t : Int) : Calls Try.prog 15 #[.pointer a, iv t] w fun e w' => e = .returned (iv 1) ∧ w = w' := by
  have HM := un_made h
  clear h
  go_enter Try.func15, Try.ntmps15
  go_wp2_with (go_at_call 24; refine HM.mono ?_; rintro e w1 ⟨rfl, rfl⟩)
  go_ret
  exact ⟨rfl, rfl⟩
set_option maxRecDepth 100000 in
theorem un_used (h : Un w a) : Calls Try.prog 19 #[.pointer a] w fun e w' => e = .returned (iv 0) ∧ w = w' := by
  have HM := un_made h
  clear h
  go_enter Try.func19, Try.ntmps19
  go_wp2_with (go_at_call 24; refine HM.mono ?_; rintro e w1 ⟨rfl, rfl⟩)
  go_ret
  exact ⟨rfl, rfl⟩
set_option maxRecDepth 100000 in
theorem un_set (h : Un w a) (b r n : Int) : Calls Try.prog 17 #[.pointer a, lv b r n] w fun e w' => e = .returned (iv 1) ∧ Below w.heap.size w w' := by
  have HM := fun o => un_made (h.below (below_al w o))
  clear h
  go_enter Try.func17, Try.ntmps17
  go_wp2_with (go_at_call 24; refine (HM _).mono ?_; rintro e w1 ⟨rfl, rfl⟩)
  go_ret
  exact ⟨rfl, below_al _ _⟩
set_option maxRecDepth 100000 in
theorem un_hits (h : Un w a) (t : Int) : Calls Try.prog 20 #[.pointer a, iv t] w fun e w' => e = .returned (iv 0) ∧ Below w.heap.size w w' := by
  have HM : Hid (∀ n, Calls Try.prog 24 #[.pointer a] (w.drewN n) fun e w' => e = .returned (.bool false) ∧ w' = w.drewN n) := fun n => (un_made (h.drewN n)).mono fun _ _ ⟨h1, h2⟩ => ⟨h1, h2.symm⟩
  clear h
  go_enter Try.func20, Try.ntmps20
  go_wp2_with fail
  go_quiet (first | (go_at_call 24; refine Calls.quiet_of_same (HM.out _)))
  go_wp2
  go_ret
  exact ⟨rfl, rfl, rfl, rfl, Nat.le_refl _, fun _ _ => rfl⟩
end
#print axioms un_hits
end Go.Proofs.Ytbkkdjafcmnliaa.Oct
