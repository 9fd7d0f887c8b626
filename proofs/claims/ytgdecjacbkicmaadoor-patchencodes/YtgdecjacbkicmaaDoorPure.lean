/-
  Layer 10 (patch): names, parts and paths, in plain words over lists of bytes. Of no program.
-/
import Derived.WalkKit
namespace Go.Proofs.YtgdecjacbkicmaaDoor.Oct
open Go.RowKit
set_option maxRecDepth 100000

/-- where a byte may stand: 7 a small letter, 3 a digit or '-', 1 '.' or '_', 0 anything else -/
def uses (c : UInt8) : Nat :=
  if 97 ≤ c.toNat ∧ c.toNat ≤ 122 then 7 else if (48 ≤ c.toNat ∧ c.toNat ≤ 57) ∨ c.toNat = 45 then 3 else if c.toNat = 46 ∨ c.toNat = 95 then 1 else 0
theorem uses_four (c : UInt8) : uses c = 7 ∨ uses c = 3 ∨ uses c = 1 ∨ uses c = 0 := by
  unfold uses; split
  · simp
  · split
    · simp
    · split <;> simp
def inPart (c : UInt8) : Bool := uses c != 0
def inName (c : UInt8) : Bool := decide (3 ≤ uses c)
def letter (c : UInt8) : Bool := decide (uses c = 7)
/-- has the byte the use k? (k: 1, 2) -/
def has (k : Nat) (c : UInt8) : Bool := if k = 1 then inPart c else inName c

def word (k : Nat) (l : List UInt8) : Bool := decide (1 ≤ l.length) && decide (l.length ≤ 16) && l.all (has k)
def isName (l : List UInt8) : Bool := word 2 l && (l.head?.map letter).getD false
def isPart (l : List UInt8) : Bool := word 1 l && (l != [46]) && (l != [46, 46])

/-- the pieces between the slashes -/
def split : List UInt8 → List (List UInt8)
  | [] => [[]]
  | c :: r => if c = 47 then [] :: split r else match split r with
    | [] => [[c]]
    | p :: ps => (c :: p) :: ps
def isPath (l : List UInt8) : Bool := decide (l.length ≤ 64) && decide ((split l).length ≤ 8) && (split l).all isPart

theorem split_ne (l : List UInt8) : split l ≠ [] := by
  cases l with
  | nil => simp [split]
  | cons c r =>
    unfold split; split
    · simp
    · split <;> simp
theorem split_none : ∀ {l : List UInt8}, 47 ∉ l → split l = [l]
  | [], _ => rfl
  | c :: r, h => by
    have h1 : c ≠ 47 := fun e => h (by simp [e])
    have ih := split_none (l := r) (fun e => h (by simp [e]))
    simp [split, h1, ih]
theorem split_one : ∀ {p : List UInt8} (r : List UInt8), 47 ∉ p → split (p ++ 47 :: r) = p :: split r
  | [], r, _ => by simp [split]
  | c :: p, r, h => by
    have h1 : c ≠ 47 := fun e => h (by simp [e])
    have ih := split_one (p := p) r (fun e => h (by simp [e]))
    simp [split, h1, ih]
theorem split_clean : ∀ (l : List UInt8), ∀ p ∈ split l, 47 ∉ p
  | [], p, h => by simp [split] at h; subst h; simp
  | c :: r, p, h => by
    have ih := split_clean r
    unfold split at h
    split at h
    · rcases List.mem_cons.1 h with rfl | h
      · simp
      · exact ih p h
    · rename_i hc
      cases hs : split r with
      | nil => exact absurd hs (split_ne r)
      | cons q qs =>
        rw [hs] at h ih
        rcases List.mem_cons.1 h with rfl | h
        · have := ih q (by simp)
          simp only [List.mem_cons, not_or]
          exact ⟨fun e => hc e.symm, this⟩
        · exact ih p (by simp [h])

/-- what 'strings.Cut(l, "/")' tells -/
def CutAs (l p r : List UInt8) (m : Bool) : Prop := (m = true ∧ l = p ++ 47 :: r ∧ 47 ∉ p) ∨ (m = false ∧ p = l ∧ r = [] ∧ 47 ∉ l)
theorem CutAs.yes {l p r : List UInt8} (h : CutAs l p r true) : split l = p :: split r := by
  rcases h with ⟨_, rfl, hp⟩ | ⟨h, _⟩
  · exact split_one r hp
  · cases h
theorem CutAs.no {l p r : List UInt8} (h : CutAs l p r false) : split l = [p] := by
  rcases h with ⟨h, _⟩ | ⟨_, rfl, _, hp⟩
  · cases h
  · exact split_none hp
theorem CutAs.shorter {l p r : List UInt8} (h : CutAs l p r true) : r.length < l.length := by
  rcases h with ⟨_, rfl, _⟩ | ⟨h, _⟩
  · simp; omega
  · cases h
theorem CutAs.le {l p r : List UInt8} {m : Bool} (h : CutAs l p r m) : r.length ≤ l.length ∧ p.length ≤ l.length := by
  rcases h with ⟨_, rfl, _⟩ | ⟨_, rfl, rfl, _⟩
  · simp; omega
  · simp
end Go.Proofs.YtgdecjacbkicmaaDoor.Oct
