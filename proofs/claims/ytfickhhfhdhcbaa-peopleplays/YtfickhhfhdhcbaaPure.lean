/-
  Layer 15 (people): names, in plain words over lists of bytes. Of no program.
-/
import Derived.WalkKit
namespace Go.Proofs.Ytfickhhfhdhcbaa.Oct
open Go.RowKit

/-- where a byte may stand: 7 a small letter, 3 a digit or '-', 1 '.' or '_', 0 anything else -/
def uses (c : UInt8) : Nat :=
  if 97 ≤ c.toNat ∧ c.toNat ≤ 122 then 7 else if (48 ≤ c.toNat ∧ c.toNat ≤ 57) ∨ c.toNat = 45 then 3 else if c.toNat = 46 ∨ c.toNat = 95 then 1 else 0
theorem uses_four (c : UInt8) : uses c = 7 ∨ uses c = 3 ∨ uses c = 1 ∨ uses c = 0 := by
  unfold uses; split
  · simp
  · split
    · simp
    · split <;> simp
def inPart (c : UInt8) : Bool := uses c != 0
def inName (c : UInt8) : Bool := decide (3 ≤ uses c)
def letter (c : UInt8) : Bool := decide (uses c = 7)
/-- has the byte the use k? (k: 1, 2) -/
def has (k : Nat) (c : UInt8) : Bool := if k = 1 then inPart c else inName c

def word (k : Nat) (l : List UInt8) : Bool := decide (1 ≤ l.length) && decide (l.length ≤ 16) && l.all (has k)
def isName (l : List UInt8) : Bool := word 2 l && (l.head?.map letter).getD false
def isPart (l : List UInt8) : Bool := word 1 l && (l != [46]) && (l != [46, 46])

end Go.Proofs.Ytfickhhfhdhcbaa.Oct
