/-
  Layer 10 (patch): the reference's 'small', 'digit', 'Name', 'part'.
-/
import Derived.Test.YtgdecjacbkicmaaDoorWord
namespace Go.Proofs.YtgdecjacbkicmaaDoor.Oct
open Go.RowKit
set_option maxRecDepth 100000

def dig (c : UInt8) : Bool := decide (48 ≤ c.toNat ∧ c.toNat ≤ 57)
theorem inName_is (c : UInt8) : inName c = (letter c || dig c || decide (c.toNat = 45)) := by
  unfold inName letter dig uses
  generalize c.toNat = X
  by_cases h1 : 97 ≤ X ∧ X ≤ 122
  · simp [h1]
  · rw [if_neg h1]
    by_cases h2 : 48 ≤ X ∧ X ≤ 57
    · rw [if_pos (.inl h2), decide_eq_true h2]; simp
    · by_cases h3 : X = 45
      · rw [if_pos (.inr h3), decide_eq_true h3]; simp
      · rw [if_neg (by omega), decide_eq_false h2, decide_eq_false h3]
        split <;> simp
theorem inPart_is (c : UInt8) : inPart c = (inName c || decide (c.toNat = 46) || decide (c.toNat = 95)) := by
  unfold inPart inName uses
  generalize c.toNat = X
  by_cases h1 : 97 ≤ X ∧ X ≤ 122
  · simp [h1]
  · rw [if_neg h1]
    by_cases h2 : (48 ≤ X ∧ X ≤ 57) ∨ X = 45
    · rw [if_pos h2]; simp
    · rw [if_neg h2]
      by_cases h3 : X = 46 ∨ X = 95
      · rw [if_pos h3]
        rcases h3 with h3 | h3 <;> simp [h3]
      · rw [if_neg h3, decide_eq_false (by omega : ¬ X = 46), decide_eq_false (by omega : ¬ X = 95)]; simp
theorem letter_is (c : UInt8) : letter c = decide (97 ≤ c.toNat ∧ c.toNat ≤ 122) := by
  unfold letter uses
  generalize c.toNat = X
  by_cases h1 : 97 ≤ X ∧ X ≤ 122
  · rw [if_pos h1, decide_eq_true h1]; rfl
  · rw [if_neg h1, decide_eq_false h1]
    split
    · rfl
    · split <;> rfl

theorem small_b (c : UInt8) (b : Bool) (h : letter c = b) (w : World) : Calls Tryd.prog 44 #[.int .u8 (c.toNat : Int)] w fun e w' => e = .returned (.bool b) ∧ w = w' := by
  rw [letter_is] at h
  subst h
  generalize c.toNat = X
  by_cases h1 : 97 ≤ X
  · have q1 : (97 : Int) ≤ (X : Int) := by omega
    by_cases h2 : X ≤ 122
    · have q2 : (X : Int) ≤ 122 := by omega
      rw [decide_eq_true ⟨h1, h2⟩]
      clear h1 h2
      go_enter Tryd.func44, Tryd.ntmps44
      go_wp2
      go_ret
      exact ⟨rfl, rfl⟩
    · have q2 : ¬ (X : Int) ≤ 122 := by omega
      rw [decide_eq_false (by omega)]
      clear h1 h2
      go_enter Tryd.func44, Tryd.ntmps44
      go_wp2
      go_ret
      exact ⟨rfl, rfl⟩
  · have q1 : ¬ (97 : Int) ≤ (X : Int) := by omega
    rw [decide_eq_false (by omega)]
    clear h1
    go_enter Tryd.func44, Tryd.ntmps44
    go_wp2
    go_ret
    exact ⟨rfl, rfl⟩
theorem digit_b (c : UInt8) (b : Bool) (h : dig c = b) (w : World) : Calls Tryd.prog 45 #[.int .u8 (c.toNat : Int)] w fun e w' => e = .returned (.bool b) ∧ w = w' := by
  unfold dig at h
  subst h
  generalize c.toNat = X
  by_cases h1 : 48 ≤ X
  · have q1 : (48 : Int) ≤ (X : Int) := by omega
    by_cases h2 : X ≤ 57
    · have q2 : (X : Int) ≤ 57 := by omega
      rw [decide_eq_true ⟨h1, h2⟩]
      clear h1 h2
      go_enter Tryd.func45, Tryd.ntmps45
      go_wp2
      go_ret
      exact ⟨rfl, rfl⟩
    · have q2 : ¬ (X : Int) ≤ 57 := by omega
      rw [decide_eq_false (by omega)]
      clear h1 h2
      go_enter Tryd.func45, Tryd.ntmps45
      go_wp2
      go_ret
      exact ⟨rfl, rfl⟩
  · have q1 : ¬ (48 : Int) ≤ (X : Int) := by omega
    rw [decide_eq_false (by omega)]
    clear h1
    go_enter Tryd.func45, Tryd.ntmps45
    go_wp2
    go_ret
    exact ⟨rfl, rfl⟩
end Go.Proofs.YtgdecjacbkicmaaDoor.Oct
