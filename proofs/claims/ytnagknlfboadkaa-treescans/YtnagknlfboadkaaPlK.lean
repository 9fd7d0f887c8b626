/-
  Layer 7 (tree): a call of both; the keys' sizes stay bounded.
-/
import Derived.Test.YtnagknlfboadkaaActs
namespace Go.Proofs.Ytnagknlfboadkaa.Oct
open Go.RowKit

/-- no key is long -/
def KeyOk (L : List Pr) : Prop := ∀ p ∈ L, p.1.size ≤ 100010
theorem KeyOk.ins {L : List Pr} {x : Pr} (h : KeyOk L) (hx : x.1.size ≤ 100010) : KeyOk (insP L x) := by
  intro p hp
  simp only [insP, lo, hi, List.mem_append, List.mem_filter, List.mem_cons, List.not_mem_nil, or_false] at hp
  rcases hp with (⟨h1, _⟩ | rfl) | ⟨h1, _⟩
  · exact h p h1
  · exact hx
  · exact h p h1
theorem KeyOk.rem {L : List Pr} {k : ByteArray} (h : KeyOk L) : KeyOk (remP L k) := by
  intro p hp
  simp only [remP, lo, hi, List.mem_append, List.mem_filter] at hp
  rcases hp with ⟨h1, _⟩ | ⟨h1, _⟩ <;> exact h p h1
theorem numK_size (k : ByteArray) (n : Nat) (h : k.size ≤ 100000) : (numK k n).size ≤ 100010 := by
  unfold numK; rw [ByteArray.size_append]
  show _ + (num2 n).toArray.size ≤ _
  simp [num2]; omega
/-- behind a call of both -/
def PlayK (w : World) (m : Nat) (L : List Pr) (e : Ending) (w' : World) : Prop := ∃ (a' : Option Addr) (n' cap' : Nat) (L' : List Pr), e = .returned (.tuple #[.slice a' n' cap', .bool true]) ∧ Hid (Tr w' m L' ∧ RdP w' a' n' L' ∧ Cap a' n' cap' ∧ L'.length ≤ L.length + 60) ∧ Hid (w.grownBy w' (some m)) ∧ Hid (KeyOk L → KeyOk L')
#print axioms numK_size
end Go.Proofs.Ytnagknlfboadkaa.Oct
