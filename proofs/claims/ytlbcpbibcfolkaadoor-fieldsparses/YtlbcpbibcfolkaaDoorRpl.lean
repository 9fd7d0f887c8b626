/-
  Layer 22 (fields): the reference's Plain and Digit.
-/
import Derived.Test.YtlbcpbibcfolkaaDoorLiv
namespace Go.Proofs.YtlbcpbibcfolkaaDoor.Oct
open Go.RowKit
set_option linter.unusedSimpArgs false
set_option linter.unusedVariables false

set_option maxRecDepth 100000 in
set_option maxHeartbeats 4000000 in
theorem rplain_is (x : Int) (w : World) (B : Bool) (hB : plainI x = B) : Calls Tryd.prog 22 #[bv x] w fun e w' => e = .returned (.bool B) ∧ w = w' := by
  have HB : Hid (plainI x = B) := hB
  clear hB
  by_cases c1 : 97 ≤ x <;> by_cases c2 : x ≤ 122 <;> by_cases c3 : 65 ≤ x <;> by_cases c4 : x ≤ 90 <;> by_cases c5 : 48 ≤ x <;> by_cases c6 : x ≤ 57 <;> first | (exfalso; omega) | skip
  all_goals
    by_cases d1 : x = 45
    · subst d1
      obtain rfl : B = true := HB.out.symm
      go_enter Tryd.func22, Tryd.ntmps22
      go_wp2
      go_ret
      exact ⟨rfl, rfl⟩
    by_cases d2 : x = 46
    · subst d2
      obtain rfl : B = true := HB.out.symm
      go_enter Tryd.func22, Tryd.ntmps22
      go_wp2
      go_ret
      exact ⟨rfl, rfl⟩
    by_cases d3 : x = 95
    · subst d3
      obtain rfl : B = true := HB.out.symm
      go_enter Tryd.func22, Tryd.ntmps22
      go_wp2
      go_ret
      exact ⟨rfl, rfl⟩
    by_cases d4 : x = 126
    · subst d4
      obtain rfl : B = true := HB.out.symm
      go_enter Tryd.func22, Tryd.ntmps22
      go_wp2
      go_ret
      exact ⟨rfl, rfl⟩
    have f1 : (x == 45) = false := by simpa using d1
    have f2 : (x == 46) = false := by simpa using d2
    have f3 : (x == 95) = false := by simpa using d3
    have f4 : (x == 126) = false := by simpa using d4
    have hv : plainI x = decide (97 ≤ x ∧ x ≤ 122 ∨ 65 ≤ x ∧ x ≤ 90 ∨ 48 ≤ x ∧ x ≤ 57) := by unfold plainI; congr 1; simp [d1, d2, d3, d4]
    have HV : Hid (B = decide (97 ≤ x ∧ x ≤ 122 ∨ 65 ≤ x ∧ x ≤ 90 ∨ 48 ≤ x ∧ x ≤ 57)) := HB.out.symm.trans hv
    clear hv d1 d2 d3 d4 HB
    go_enter Tryd.func22, Tryd.ntmps22
    go_wp2
    go_ret
    refine ⟨?_, rfl⟩
    rw [HV.out]
    first | (rw [decide_eq_true (by omega)]; rfl) | (rw [decide_eq_false (by omega)]; rfl)
#print axioms rplain_is
end Go.Proofs.YtlbcpbibcfolkaaDoor.Oct
