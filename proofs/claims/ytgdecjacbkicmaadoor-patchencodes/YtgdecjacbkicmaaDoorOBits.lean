/-
  The bit length of a number, as math/bits reckons it: the library's own text is walked.
-/
import Derived.Test.YtgdecjacbkicmaaDoorChecked
import Derived.Lib.Strings
import Derived.Lib.Slices
import Derived.Lib.Small
import Derived.Lib.Walk
import Derived.Lib.BitFns
namespace Go.Proofs.YtgdecjacbkicmaaDoor.Oct
set_option maxRecDepth 100000

theorem len_way {x y : Int} (k : Nat) (hy : y.toNat = x.toNat / 2 ^ k) (h0 : 0 ≤ y) (h8 : y ≤ 255) (hl : 2 ^ k ≤ x.toNat) (hx : x.toNat < 18446744073709551616) :
    Lib.len8 y = (Lib.bitLen x.toNat : Int) - k ∧ 0 ≤ Lib.len8 y ∧ Lib.len8 y ≤ 8 := by
  have a := Lib.len8_of y h0 h8
  have b := Lib.bitLen_le8' y h0 h8
  have c := Lib.bitLen_shift k x.toNat hl hx
  rw [hy] at a b
  omega

theorem len_low {x y : Int} (hy : y = x) (h0 : 0 ≤ y) (h8 : y ≤ 255) : Lib.len8 y = (Lib.bitLen x.toNat : Int) ∧ 0 ≤ Lib.len8 y ∧ Lib.len8 y ≤ 8 := by
  subst hy
  have a := Lib.len8_of y h0 h8
  have b := Lib.bitLen_le8' y h0 h8
  omega

set_option maxHeartbeats 4000000 in
set_option maxRecDepth 100000 in
theorem len64 (x : Int) (w : World) (h0 : 0 ≤ x) (h1 : x ≤ 18446744073709551615) :
    Calls Tryd.prog 80 #[.int .u64 x] w fun e w' => e = .returned (.int .i64 (Lib.bitLen x.toNat)) ∧ w = w' := by
  go_enter Tryd.func80, Tryd.ntmps80
  go_wp2
  all_goals (go_ret; refine ⟨congrArg (fun z => Ending.returned (Value.int IntKind.i64 z)) ?_, rfl⟩)
  all_goals first
    | (have h := len_way (x := x) (y := x / 4294967296 / 65536 / 256 % 256) 56 (by omega) (by omega) (by omega) (by omega) (by omega); omega)
    | (have h := len_way (x := x) (y := x / 4294967296 / 65536 % 256) 48 (by omega) (by omega) (by omega) (by omega) (by omega); omega)
    | (have h := len_way (x := x) (y := x / 4294967296 / 256 % 256) 40 (by omega) (by omega) (by omega) (by omega) (by omega); omega)
    | (have h := len_way (x := x) (y := x / 4294967296 % 256) 32 (by omega) (by omega) (by omega) (by omega) (by omega); omega)
    | (have h := len_way (x := x) (y := x / 65536 / 256 % 256) 24 (by omega) (by omega) (by omega) (by omega) (by omega); omega)
    | (have h := len_way (x := x) (y := x / 65536 % 256) 16 (by omega) (by omega) (by omega) (by omega) (by omega); omega)
    | (have h := len_way (x := x) (y := x / 256 % 256) 8 (by omega) (by omega) (by omega) (by omega) (by omega); omega)
    | (have h := len_low (x := x) (y := x % 256) (by omega) (by omega) (by omega); omega)

end Go.Proofs.YtgdecjacbkicmaaDoor.Oct
