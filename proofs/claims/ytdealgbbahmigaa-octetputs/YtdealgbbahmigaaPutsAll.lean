/-
  'OctetPuts', whatever the arguments' lengths: the law's walk.
-/
import Derived.Test.YtdealgbbahmigaaPuts
namespace Go.Proofs.Ytdealgbbahmigaa.Oct
open Go.RowKit

theorem puts (a : Option Addr) (len cap : Nat) (l : List UInt8) (n : Int) (s : ByteArray) (w : World) (hin : Arg w a len cap l) (hl : len ≤ 140737488355328) (h0 : 0 ≤ n) (h1 : n ≤ 18446744073709551615) (hs : s.size ≤ 140737488355328) :
    Calls Try.prog 3 #[.slice a len cap, .int .u64 n, .string s] w fun e w' => e = .returned (.bool true) ∧ Below w.heap.size w w' := by
  by_cases hbig : 100000 < len + s.size
  · have q : (100000 : Int) < (len : Int) + (s.size : Int) := by omega
    clear hbig hin
    go_enter Try.func3, Try.ntmps3
    go_wp2_with (go_at_call 8; refine (lives _).mono ?_; rintro e w1 ⟨rfl, hb1⟩)
    go_ret
    exact ⟨rfl, hb1⟩
  · exact puts_small a len cap l n s w (hin.toIn hl) h0 h1 (by omega)

#print axioms puts
end Go.Proofs.Ytdealgbbahmigaa.Oct
