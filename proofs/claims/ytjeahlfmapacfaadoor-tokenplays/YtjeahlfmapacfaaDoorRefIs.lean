/-
  Layer 2 (hash): the reference's Sum, the digest a letter.
-/
import Derived.Test.YtjeahlfmapacfaaDoorRefBlock
import Derived.Test.YtjeahlfmapacfaaDoorRefSum
namespace Go.Proofs.YtjeahlfmapacfaaDoor.Oct
open Go.RowKit Sha

theorem refIs (l D : List UInt8) (hD : sum l = D) (a : Option Addr) (n cp : Nat) (w : World) (hl : In w a n cp l) (hn : n ≤ 100000) :
    Calls Tryd.prog 37 #[.slice a n cp] w fun e w' => e = .returned (.agg (U D).toArray) ∧ Hid (Below w.heap.size w w') := by
  subst hD
  exact (refSum_is (show Hid BlockIs from fun s bs a cp w h => block_is s bs a cp w h) l a n cp w hl hn).mono fun _ _ h => h

#print axioms refIs
end Go.Proofs.YtjeahlfmapacfaaDoor.Oct
