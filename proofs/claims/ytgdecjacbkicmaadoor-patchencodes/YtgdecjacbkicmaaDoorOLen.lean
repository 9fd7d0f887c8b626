/-
  Layer 1 (octet): the bit length of a number, and how many bytes a number has, as the program reckons them.
-/
import Derived.Test.YtgdecjacbkicmaaDoorChecked
import Derived.Test.YtgdecjacbkicmaaDoorOMath
import Derived.Test.YtgdecjacbkicmaaDoorOBits
import Derived.WalkKit
import Derived.WalkSpells
import Derived.WalkLawsBesides
namespace Go.Proofs.YtgdecjacbkicmaaDoor.Oct
open Go.RowKit
set_option maxRecDepth 100000

set_option maxHeartbeats 400000 in
theorem numberSize (x : Int) (w : World) (h0 : 0 ≤ x) (h1 : x ≤ 18446744073709551615) :
    Calls Tryd.prog 69 #[.int .u64 x] w fun e w' => e = .returned (.int .i64 ((enc x.toNat).length : Int)) ∧ w = w' := by
  have hb := bitLen_le x.toNat
  have hl := enc_length x.toNat (by omega)
  have HL : Hid ((enc x.toNat).length = max 1 ((Lib.bitLen x.toNat + 6) / 7)) := hl
  clear hl
  go_enter Tryd.func69, Tryd.ntmps69
  go_wp2_with (go_at_call 80; refine (len64 _ _ h0 h1).mono ?_; rintro e w' ⟨rfl, rfl⟩)
  all_goals (go_ret; refine ⟨congrArg (fun z => Ending.returned (Value.int IntKind.i64 z)) ?_, rfl⟩)
  all_goals (rw [HL.out]; omega)

end Go.Proofs.YtgdecjacbkicmaaDoor.Oct
