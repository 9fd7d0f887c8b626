/-
  Layer 4 (frame): the closure of 'All', where a round may write the bytes that it was handed.
-/
import Derived.Test.YtchblcfbllcbmabAll
import Derived.Test.YtchblcfbllcbmabOverX
namespace Go.Proofs.Ytchblcfbllcbmab.Oct
open Go.RowKit Go.Shelf
attribute [local go_sem] Oper.semAt_some

/-- blocks from m₀ on lie as they lay, but for the block that was handed out -/
def HeldX (m₀ : Nat) (x : Handed) (A B : World) : Prop := A.heap.size ≤ B.heap.size ∧ ∀ b, b < A.heap.size → m₀ ≤ b → (∀ ad, 0 < x.m → x.a = some ad → b ≠ ad.block) → B.heap[b]? = A.heap[b]?
theorem held_keepX {m₀ : Nat} {x : Handed} {A B C : World} (h : Below A.heap.size A B) (hg : 0 < x.m → ∃ g, x.a = some ⟨g, 0, none⟩ ∧ A.heap.size ≤ g) (hh : HeldX m₀ x B C) {b : Nat} (h1 : b < A.heap.size) (h2 : m₀ ≤ b) : C.heap[b]? = A.heap[b]? := by
  refine (hh.2 b (Nat.lt_of_lt_of_le h1 h.size) h2 (fun ad hp e => ?_)).trans (h.block b h1)
  obtain ⟨g, e1, e2⟩ := hg hp
  rw [e1] at e
  cases e
  show b ≠ g
  omega
end Go.Proofs.Ytchblcfbllcbmab.Oct
