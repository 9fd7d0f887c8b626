/-
  Layer 1 (octet): the bit length of a number, and how many bytes a number has, as the program reckons them.
-/
import Derived.Test.YtgdecjacbkicmaaChecked
import Derived.Test.YtgdecjacbkicmaaOMath
import Derived.Test.YtgdecjacbkicmaaOBits
import Derived.WalkKit
import Derived.WalkSpells
import Derived.WalkLawsBesides
namespace Go.Proofs.Ytgdecjacbkicmaa.Oct
open Go.RowKit
set_option maxRecDepth 100000

set_option maxHeartbeats 400000 in
theorem numberSize (x : Int) (w : World) (h0 : 0 ≤ x) (h1 : x ≤ 18446744073709551615) :
    Calls Try.prog 108 #[.int .u64 x] w fun e w' => e = .returned (.int .i64 ((enc x.toNat).length : Int)) ∧ w = w' := by
  have hb := bitLen_le x.toNat
  have hl := enc_length x.toNat (by omega)
  have HL : Hid ((enc x.toNat).length = max 1 ((Lib.bitLen x.toNat + 6) / 7)) := hl
  clear hl
  go_enter Try.func108, Try.ntmps108
  go_wp2_with (go_at_call 122; refine (len64 _ _ h0 h1).mono ?_; rintro e w' ⟨rfl, rfl⟩)
  all_goals (go_ret; refine ⟨congrArg (fun z => Ending.returned (Value.int IntKind.i64 z)) ?_, rfl⟩)
  all_goals (rw [HL.out]; omega)

#print axioms numberSize
end Go.Proofs.Ytgdecjacbkicmaa.Oct
