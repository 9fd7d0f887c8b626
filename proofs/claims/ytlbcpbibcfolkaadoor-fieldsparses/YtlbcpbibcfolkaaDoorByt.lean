/-
  Layer 22 (fields): bytes: which are plain, what digits are worth.
-/
import Derived.Test.YtlbcpbibcfolkaaDoorRows
import Derived.Test.YtlbcpbibcfolkaaDoorBase
import Derived.Test.YtlbcpbibcfolkaaDoorArgs
import Derived.Test.YtlbcpbibcfolkaaDoorBlk
import Derived.WalkLawsBesides
namespace Go.Proofs.YtlbcpbibcfolkaaDoor.Oct
open Go.RowKit
set_option linter.unusedSimpArgs false
set_option linter.unusedVariables false

abbrev iv (n : Int) : Value := .int .i64 n
abbrev bv (n : Int) : Value := .int .u8 n
abbrev BA := ByteArray
abbrev e0 : BA := ⟨#[]⟩
theorem toList_d (s : BA) : s.toList = s.data.toList := ByteArray.toList_eq s
theorem ba_ext {s t : BA} (h : s.data.toList = t.data.toList) : s = t := by
  have : s.data = t.data := Array.toList_inj.1 h
  cases s; cases t; simpa using this
theorem below_al (w : World) (o : Obj) : Below w.heap.size w (w.alloc o) := (Below.refl _ w).alloc (Nat.le_refl _) o
theorem below_tr {w w1 w2 : World} (h : Below w.heap.size w w1) (k : Below w1.heap.size w1 w2) : Below w.heap.size w w2 := h.trans (k.mono h.size)
theorem below_drew0 (A : World) : Below A.heap.size A A.drew := ⟨rfl, rfl, rfl, Nat.le_refl _, fun _ _ => rfl⟩
theorem below_gr {w w1 w2 : World} {g : Nat} (h : Below w.heap.size w w1) (k : w1.grownBy w2 (some g)) (hg : w.heap.size ≤ g) : Below w.heap.size w w2 :=
  h.grown k h.size (fun j hj => by cases hj; exact hg)
/-- a plain byte -/
def plainI (x : Int) : Bool := decide (97 ≤ x ∧ x ≤ 122 ∨ 65 ≤ x ∧ x ≤ 90 ∨ 48 ≤ x ∧ x ≤ 57 ∨ x = 45 ∨ x = 46 ∨ x = 95 ∨ x = 126)
/-- what a digit is worth; -1: it is none -/
def dgtI (x : Int) : Int := if 97 ≤ x ∧ x ≤ 102 then x - 87 else if 65 ≤ x ∧ x ≤ 70 then x - 55 else if 48 ≤ x ∧ x ≤ 57 then x - 48 else -1
set_option maxRecDepth 100000 in
set_option maxHeartbeats 2000000 in
theorem plain_is (x : Int) (w : World) (B : Bool) (hB : plainI x = B) : Calls Tryd.prog 42 #[bv x] w fun e w' => e = .returned (.bool B) ∧ w = w' := by
  have HB : Hid (plainI x = B) := hB
  clear hB
  by_cases c1 : 97 ≤ x <;> by_cases c2 : x ≤ 122 <;> by_cases c3 : 65 ≤ x <;> by_cases c4 : x ≤ 90 <;> by_cases c5 : 48 ≤ x <;> by_cases c6 : x ≤ 57 <;> first | (exfalso; omega) | skip
  all_goals
    by_cases d1 : x = 45
    · subst d1
      obtain rfl : B = true := HB.out.symm
      go_enter Tryd.func42, Tryd.ntmps42
      go_wp2
      go_ret
      exact ⟨rfl, rfl⟩
    by_cases d2 : x = 46
    · subst d2
      obtain rfl : B = true := HB.out.symm
      go_enter Tryd.func42, Tryd.ntmps42
      go_wp2
      go_ret
      exact ⟨rfl, rfl⟩
    by_cases d3 : x = 95
    · subst d3
      obtain rfl : B = true := HB.out.symm
      go_enter Tryd.func42, Tryd.ntmps42
      go_wp2
      go_ret
      exact ⟨rfl, rfl⟩
    by_cases d4 : x = 126
    · subst d4
      obtain rfl : B = true := HB.out.symm
      go_enter Tryd.func42, Tryd.ntmps42
      go_wp2
      go_ret
      exact ⟨rfl, rfl⟩
    have f1 : (x == 45) = false := by simpa using d1
    have f2 : (x == 46) = false := by simpa using d2
    have f3 : (x == 95) = false := by simpa using d3
    have f4 : (x == 126) = false := by simpa using d4
    have hv : plainI x = decide (97 ≤ x ∧ x ≤ 122 ∨ 65 ≤ x ∧ x ≤ 90 ∨ 48 ≤ x ∧ x ≤ 57) := by unfold plainI; congr 1; simp [d1, d2, d3, d4]
    have HV : Hid (B = decide (97 ≤ x ∧ x ≤ 122 ∨ 65 ≤ x ∧ x ≤ 90 ∨ 48 ≤ x ∧ x ≤ 57)) := HB.out.symm.trans hv
    clear hv d1 d2 d3 d4 HB
    go_enter Tryd.func42, Tryd.ntmps42
    go_wp2
    go_ret
    refine ⟨?_, rfl⟩
    rw [HV.out]
    first | (rw [decide_eq_true (by omega)]; rfl) | (rw [decide_eq_false (by omega)]; rfl)
#print axioms plain_is
set_option maxRecDepth 100000 in
set_option maxHeartbeats 2000000 in
theorem digit_is (x : Int) (h0 : 0 ≤ x) (h1 : x ≤ 255) (w : World) : Calls Tryd.prog 54 #[bv x] w fun e w' => (0 ≤ dgtI x ∧ e = .returned (.tuple #[bv (dgtI x), .bool true]) ∨ dgtI x = -1 ∧ e = .returned (.tuple #[bv 0, .bool false])) ∧ w = w' := by
  have HH : Hid (0 ≤ x ∧ x ≤ 255) := ⟨h0, h1⟩
  have hw : ∀ y : Int, 0 ≤ y → y ≤ 255 → IntKind.u8.wrap y = y := fun y a b => by rw [IntKind.wrap_u8]; omega
  by_cases c1 : 97 ≤ x ∧ x ≤ 102
  · have hd : dgtI x = x - 87 := by unfold dgtI; rw [if_pos c1]
    have q1 := c1.1
    have q2 := c1.2
    have w1 : IntKind.u8.wrap (x - 32) = x - 32 := hw _ (by omega) (by omega)
    have w2 : IntKind.u8.wrap (x - 32 - 7) = x - 39 := by rw [hw _ (by omega) (by omega)]; omega
    have w3 : IntKind.u8.wrap (x - 39 - 48) = x - 87 := by rw [hw _ (by omega) (by omega)]; omega
    have HD : Hid (dgtI x = x - 87 ∧ 0 ≤ x - 87) := ⟨hd, by omega⟩
    clear hd c1
    go_enter Tryd.func54, Tryd.ntmps54
    go_wp2
    go_ret2
    refine ⟨.inl ?_, rfl⟩
    rw [HD.out.1]
    exact ⟨HD.out.2, rfl⟩
  by_cases c2 : 65 ≤ x ∧ x ≤ 70
  · have hd : dgtI x = x - 55 := by unfold dgtI; rw [if_neg c1, if_pos c2]
    have q1 := c2.1
    have q2 := c2.2
    have q3 : ¬ (97 ≤ x) := by omega
    have w2 : IntKind.u8.wrap (x - 7) = x - 7 := hw _ (by omega) (by omega)
    have w3 : IntKind.u8.wrap (x - 7 - 48) = x - 55 := by rw [hw _ (by omega) (by omega)]; omega
    have HD : Hid (dgtI x = x - 55 ∧ 0 ≤ x - 55) := ⟨hd, by omega⟩
    clear hd c1 c2
    go_enter Tryd.func54, Tryd.ntmps54
    go_wp2
    go_ret2
    refine ⟨.inl ?_, rfl⟩
    rw [HD.out.1]
    exact ⟨HD.out.2, rfl⟩
  by_cases c3 : 48 ≤ x ∧ x ≤ 57
  · have hd : dgtI x = x - 48 := by unfold dgtI; rw [if_neg c1, if_neg c2, if_pos c3]
    have q1 := c3.1
    have q2 := c3.2
    have q3 : ¬ (97 ≤ x) := by omega
    have q4 : ¬ (65 ≤ x) := by omega
    have w3 : IntKind.u8.wrap (x - 48) = x - 48 := hw _ (by omega) (by omega)
    have HD : Hid (dgtI x = x - 48 ∧ 0 ≤ x - 48) := ⟨hd, by omega⟩
    clear hd c1 c2 c3
    go_enter Tryd.func54, Tryd.ntmps54
    go_wp2
    go_ret2
    refine ⟨.inl ?_, rfl⟩
    rw [HD.out.1]
    exact ⟨HD.out.2, rfl⟩
  have hd : dgtI x = -1 := by unfold dgtI; rw [if_neg c1, if_neg c2, if_neg c3]
  have HD : Hid (dgtI x = -1) := hd
  clear hd hw
  by_cases d1 : 97 ≤ x <;> by_cases d2 : x ≤ 102 <;> by_cases d3 : 65 ≤ x <;> by_cases d4 : x ≤ 70 <;> by_cases d5 : 48 ≤ x <;> by_cases d6 : x ≤ 57 <;> first | (exfalso; omega) | skip
  all_goals
    clear c1 c2 c3
    go_enter Tryd.func54, Tryd.ntmps54
    go_wp2
    go_ret2
    exact ⟨.inr ⟨HD.out, rfl⟩, rfl⟩
#print axioms digit_is
end Go.Proofs.YtlbcpbibcfolkaaDoor.Oct
