/-
  Layer 10 (patch): rows of texts.
-/
import Derived.Test.YtgdecjacbkicmaaDoorPath
namespace Go.Proofs.YtgdecjacbkicmaaDoor.Oct
open Go.RowKit Go.Shelf

/-- texts that are read: a slice's elements are l -/
def Strs (w : World) (a : Option Addr) (n : Nat) (l : List ByteArray) : Prop :=
  l.length = n ∧ (0 < n → ∃ b off, a = some ⟨b, off, none⟩ ∧ b < w.heap.size ∧ ∀ i x, l[i]? = some x → w.cell? ⟨b, off + i, none⟩ = some (.string x))
theorem Strs.below {w w' : World} {a : Option Addr} {n : Nat} {l : List ByteArray} (h : Strs w a n l) (hb : Below w.heap.size w w') : Strs w' a n l := by
  refine ⟨h.1, fun hp => ?_⟩
  obtain ⟨b, off, e1, e2, e3⟩ := h.2 hp
  exact ⟨b, off, e1, Nat.lt_of_lt_of_le e2 hb.size, fun i c hc => (hb.cell (p := ⟨b, off + i, none⟩) e2).trans (e3 i c hc)⟩

end Go.Proofs.YtgdecjacbkicmaaDoor.Oct
