/-
  Layer 17 (acl): rules: Right, means, Matches.
-/
import Derived.Test.YtngkajeghmogmaaWho
namespace Go.Proofs.Ytngkajeghmogmaa.Oct
open Go.RowKit Go.Shelf

structure Ru where
  who : BA
  ch : BA
  pre : BA
  right : Int
  deny : Bool
def Ru.cells (r : Ru) : List Value := [.string r.who, .string r.ch, .string r.pre, iv r.right, .bool r.deny]
abbrev ruv (r : Ru) : Value := .agg #[.string r.who, .string r.ch, .string r.pre, iv r.right, .bool r.deny]
def short (s : BA) : Prop := s.size ≤ 140737488355328
def Ru.short (r : Ru) : Prop := Oct.short r.who ∧ Oct.short r.ch ∧ Oct.short r.pre
def emp (s : BA) : Bool := s.toList.isEmpty
def ruleOk (r : Ru) : Bool := whoOk r.who && (emp r.ch || isName r.ch.data.toList) && (emp r.pre || isPath r.pre.data.toList) && rightOk r.right
/-- a block is kept behind w -/
def Kp (w : World) (g t : Nat) (L : List Value) (V : World) : Prop := Below w.heap.size w V ∧ Blk V g t L
theorem Kp.step {w V V' : World} {g t : Nat} {L : List Value} (h : Kp w g t L V) (hb : Below V.heap.size V V') : Kp w g t L V' := ⟨h.1.trans (hb.mono h.1.size), h.2.below hb h.2.lt⟩
theorem Kp.new (w : World) (C : Array Value) (t : TypeId) : Kp w w.heap.size t C.toList (w.alloc (.cells C t)) := ⟨below_al w _, Blk.new w C t⟩
theorem emp_eq (s : BA) : (s.toList == []) = emp s := by unfold emp; cases s.toList <;> rfl
set_option maxRecDepth 100000 in
set_option maxHeartbeats 1000000 in
theorem right_is (r : Ru) (hr : r.short) (w : World) : Calls Try.prog 11 #[ruv r] w fun e w' => e = .returned (.bool (ruleOk r)) ∧ Below w.heap.size w w' := by
  obtain ⟨who, ch, pre, rt, dn⟩ := r
  obtain ⟨g, hg⟩ : ∃ g, w.heap.size = g := ⟨_, rfl⟩
  obtain ⟨W1, hW1⟩ : ∃ W1, w.alloc (.cells #[.string who, .string ch, .string pre, iv rt, .bool dn] 31) = W1 := ⟨_, rfl⟩
  have K1 : Hid (Kp w g 31 [.string who, .string ch, .string pre, iv rt, .bool dn] W1) := by rw [← hW1, ← hg]; exact Kp.new w #[.string who, .string ch, .string pre, iv rt, .bool dn] 31
  have HC : Hid (ch.size ≤ 140737488355328 ∧ pre.size ≤ 140737488355328) := ⟨hr.2.1, hr.2.2⟩
  have HW := isWho_is who hr.1 W1
  have c0 : W1.cell? ⟨g, 0, none⟩ = some (.string who) := K1.out.2.cell rfl
  unfold ruleOk
  dsimp only
  generalize whoOk who = b1 at *
  have HN := fun W => name_is ch W hr.2.1
  have HP := fun W => path_is pre W hr.2.2
  have HR := isRight_is rt
  have E2 := emp_eq ch
  have F2 : ch.toList.isEmpty = emp ch := rfl
  have E4 := emp_eq pre
  have F4 : pre.toList.isEmpty = emp pre := rfl
  generalize isName ch.data.toList = b3 at HN ⊢
  generalize isPath pre.data.toList = b5 at HP ⊢
  generalize rightOk rt = b6 at HR ⊢
  generalize emp ch = b2 at E2 F2 ⊢
  generalize emp pre = b4 at E4 F4 ⊢
  have HE : Hid (((ch.toList == []) = b2 ∧ ch.toList.isEmpty = b2) ∧ (pre.toList == []) = b4 ∧ pre.toList.isEmpty = b4) := ⟨⟨E2, F2⟩, E4, F4⟩
  clear hr E2 F2 E4 F4
  go_enter Try.func11, Try.ntmps11
  go_wp2_with fail
  refine HW.mono ?_
  rintro e w1 ⟨rfl, hb1⟩
  have K2 : Hid (Kp w g 31 [.string who, .string ch, .string pre, iv rt, .bool dn] w1) := K1.out.step hb1
  clear HW hb1 c0 hW1 hg
  have d1 : w1.cell? ⟨g, 1, none⟩ = some (.string ch) := K2.out.2.cell rfl
  have d2 : w1.cell? ⟨g, 2, none⟩ = some (.string pre) := K2.out.2.cell rfl
  have d3 : w1.cell? ⟨g, 3, none⟩ = some (iv rt) := K2.out.2.cell rfl
  cases b1
  · go_wp2
    go_ret
    exact ⟨rfl, K2.out.1⟩
  obtain ⟨⟨e2, f2⟩, e4, f4⟩ := HE.out
  cases b2
  · cases b3
    · go_wp2_with (go_at_call 24; refine (HN _).mono ?_; rintro e w2 ⟨rfl, rfl⟩)
      go_ret
      exact ⟨by simp, K2.out.1⟩
    · cases b4
      · go_wp2_with (first | (go_at_call 24; refine (HN _).mono ?_; rintro e w2 ⟨rfl, rfl⟩) | (go_at_call 18; refine Hid.out ?_))
        show Calls _ _ _ _ _
        refine (HP _).mono ?_
        rintro e w3 ⟨rfl, hb3⟩
        have K3 : Hid (Kp w g 31 [.string who, .string ch, .string pre, iv rt, .bool dn] w3) := K2.out.step hb3
        clear d1 d2 d3 hb3
        have d3 : w3.cell? ⟨g, 3, none⟩ = some (iv rt) := K3.out.2.cell rfl
        cases b5
        · go_wp2
          go_ret
          exact ⟨by simp, K3.out.1⟩
        · go_wp2_with (go_at_call 25; refine (HR _).mono ?_; rintro e w4 ⟨rfl, rfl⟩)
          go_ret
          exact ⟨by simp, K3.out.1⟩
      · go_wp2_with (first | (go_at_call 24; refine (HN _).mono ?_; rintro e w2 ⟨rfl, rfl⟩) | (go_at_call 25; refine (HR _).mono ?_; rintro e w4 ⟨rfl, rfl⟩))
        go_ret
        exact ⟨by simp, K2.out.1⟩
  · cases b4
    · go_wp2_with fail
      refine (HP _).mono ?_
      rintro e w3 ⟨rfl, hb3⟩
      have K3 : Hid (Kp w g 31 [.string who, .string ch, .string pre, iv rt, .bool dn] w3) := K2.out.step hb3
      clear d1 d2 d3 hb3
      have d3 : w3.cell? ⟨g, 3, none⟩ = some (iv rt) := K3.out.2.cell rfl
      cases b5
      · go_wp2
        go_ret
        exact ⟨by simp, K3.out.1⟩
      · go_wp2_with (go_at_call 25; refine (HR _).mono ?_; rintro e w4 ⟨rfl, rfl⟩)
        go_ret
        exact ⟨by simp, K3.out.1⟩
    · go_wp2_with (go_at_call 25; refine (HR _).mono ?_; rintro e w4 ⟨rfl, rfl⟩)
      go_ret
      exact ⟨by simp, K2.out.1⟩
#print axioms right_is
end Go.Proofs.Ytngkajeghmogmaa.Oct
