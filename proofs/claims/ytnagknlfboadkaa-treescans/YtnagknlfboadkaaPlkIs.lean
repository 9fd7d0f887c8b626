/-
  Layer 7 (tree): a call of both, whatever it is; the keys' sizes stay bounded.
-/
import Derived.Test.YtnagknlfboadkaaPlkPut
import Derived.Test.YtnagknlfboadkaaPlkDel
import Derived.Test.YtnagknlfboadkaaPlkGet
import Derived.Test.YtnagknlfboadkaaPlkScan
import Derived.Test.YtnagknlfboadkaaPlkPuts
import Derived.Test.YtnagknlfboadkaaPlkDels
namespace Go.Proofs.Ytnagknlfboadkaa.Oct
open Go.RowKit

/-- a call of both, whatever it is -/
theorem playk_is (w : World) (m : Nat) (a : Option Addr) (n cap : Nat) (L : List Pr) (x : ActV) (hT : Tr w m L) (hR : RdP w a n L) (hC : Cap a n cap) (hk : x.key.size ≤ 100000) (hn : L.length ≤ 90000) :
    Calls Try.prog 14 #[.pointer (some ⟨m, 0, none⟩), .slice a n cap, .agg #[.int .i64 x.kind, .string x.key, .string x.val, .int .i64 x.n]] w (PlayK w m L) := by
  obtain ⟨K, k, v, N⟩ := x
  by_cases h0 : K = 0
  · subst h0; exact playk_put w m a n cap L k v N hT hR hC hk hn
  by_cases h1 : K = 1
  · subst h1; exact playk_del w m a n cap L k v N hT hR hC hn
  by_cases h3 : K = 3
  · subst h3; exact playk_scan w m a n cap L k v N hT hR hC hn
  by_cases h5 : K = 5
  · subst h5; exact playk_puts w m a n cap L k v N hT hR hC hk hn
  by_cases h6 : K = 6
  · subst h6; exact playk_dels w m a n cap L k v N hT hR hC hk hn
  · exact playk_get w m a n cap L k v N K h0 h1 h3 h5 h6 hT hR hC hn
#print axioms playk_is
end Go.Proofs.Ytnagknlfboadkaa.Oct
