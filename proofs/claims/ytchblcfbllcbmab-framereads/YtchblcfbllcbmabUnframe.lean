/-
  Layer 4 (frame): 'Unframe' where a sum is not right.
-/
import Derived.Test.YtchblcfbllcbmabOpen
import Derived.Laws.Cover3
namespace Go.Proofs.Ytchblcfbllcbmab.Oct
open Go.RowKit

theorem eq_nil (W : World) : (Op.equalIn 10000 22 (.slice none 0 0) (.slice none 0 0)).run Try.prog W = .ok true W := by
  exact run_equalIn_slice_nil W 9999 22 5 none 0 0 Try.underlying22
theorem clone_nil (w : World) : Calls Try.prog 14 #[.slice none 0 0] w fun e w' => e = .returned (.slice none 0 0) ∧ w = w' := by
  have h2 : ∀ W, (Op.equal 22 (.slice none 0 0) (.slice none 0 0)).run Try.prog W = .ok true W := eq_nil
  have h3 : ∀ W, (binOp .eql 22 (.slice none 0 0) (.slice none 0 0)).run Try.prog W = .ok (.bool true) W := by intro W; simp [binOp, h2]
  clear h2
  go_enter Try.func14, Try.ntmps14
  go_wp2
  go_ret
  exact ⟨rfl, rfl⟩

theorem unframe_bad (v : Value) (w : World) (h : Calls Try.prog 13 #[v] w fun e w' => e = .returned (.tuple #[.slice none 0 0, .int .i64 0, .int .i64 40]) ∧ ∃ k, w' = w.drewN k) :
    Calls Try.prog 7 #[v] w fun e w' => e = .returned (.tuple #[.slice none 0 0, .int .i64 0, .int .i64 40]) ∧ ∃ k, w' = w.drewN k := by
  have H : Hid (Calls Try.prog 13 #[v] w fun e w' => e = .returned (.tuple #[.slice none 0 0, .int .i64 0, .int .i64 40]) ∧ ∃ k, w' = w.drewN k) := h
  clear h
  go_enter Try.func7, Try.ntmps7
  go_wp2_with fail
  refine H.out.mono ?_
  rintro e w1 ⟨rfl, k, rfl⟩
  go_wp2_with fail
  refine (clone_nil _).mono ?_
  rintro e w2 ⟨rfl, rfl⟩
  go_wp2
  go_ret3
  exact ⟨rfl, k, rfl⟩
#print axioms unframe_bad
end Go.Proofs.Ytchblcfbllcbmab.Oct
