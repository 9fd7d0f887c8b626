/-
  Layer 20 (review): find, findOpen, New.
-/
import Derived.Test.YtaecigpjcbjcbaaBrd
namespace Go.Proofs.Ytaecigpjcbjcbaa.Oct
open Go.RowKit
set_option linter.unusedSimpArgs false

/-- the proposal of a number -/
def Br.at? (M : Br) (x : Int) : Option Pr := if 1 ≤ x then M.props[(x - 1).toNat]? else none
theorem Br.at_some {M : Br} {x : Int} {p : Pr} (h : M.at? x = some p) : ∃ i : Nat, x = (i : Int) + 1 ∧ M.props[i]? = some p := by
  unfold Br.at? at h
  split at h
  · exact ⟨(x - 1).toNat, by omega, h⟩
  · cases h
theorem Br.at_none {M : Br} {x : Int} (h : M.at? x = none) : x < 1 ∨ (1 ≤ x ∧ (M.props.length : Int) < x) := by
  unfold Br.at? at h
  split at h
  · rename_i h1
    have := List.getElem?_eq_none_iff.1 h
    exact .inr ⟨h1, by omega⟩
  · exact .inl (by omega)
/-- what find answers -/
def FindP (M : Br) (x : Int) (e : Ending) : Prop :=
  (M.at? x = none ∧ e = .returned (.tuple #[.pointer none, iv 111])) ∨ ∃ (p : Pr) (g i : Nat), M.at? x = some p ∧ x = (i : Int) + 1 ∧ M.props[i]? = some p ∧ M.pv.ownBlock = some g ∧ e = .returned (.tuple #[.pointer (some ⟨g, i * 36, none⟩), iv 0])
set_option maxRecDepth 100000 in
theorem find_is {w : World} {b K : Nat} {M : Br} (h : BAt w b M K) (x : Int) : Calls Try.prog 39 #[.pointer (some ⟨b, 0, none⟩), iv x] w fun e w' => FindP M x e ∧ w = w' := by
  have HM := made_is h.blk
  have c1 : w.cell? ⟨b, 1, none⟩ = some M.pv := h.blk.cell rfl
  cases hp : M.at? x with
  | none =>
    have HN : Hid (M.at? x = none) := hp
    obtain ⟨a, c, hv, _, _, _, _⟩ := h.prow.read
    rw [hv] at c1
    rcases Br.at_none hp with h1 | ⟨h1, h2⟩
    · clear h hp hv
      go_enter Try.func39, Try.ntmps39
      go_wp2_with (go_at_call 36; refine HM.mono ?_; rintro e w1 ⟨rfl, rfl⟩)
      go_ret2
      exact ⟨.inl ⟨HN.out, rfl⟩, rfl⟩
    · clear h hp hv
      generalize M.props.length = m at *
      go_enter Try.func39, Try.ntmps39
      go_wp2_with (go_at_call 36; refine HM.mono ?_; rintro e w1 ⟨rfl, rfl⟩)
      go_ret2
      exact ⟨.inl ⟨HN.out, rfl⟩, rfl⟩
  | some p =>
    obtain ⟨i, rfl, hi⟩ := Br.at_some hp
    obtain ⟨g, c, hv, hg, hnc, hpa⟩ := h.prop hi
    have hil : i < M.props.length := (List.getElem?_eq_some_iff.1 hi).1
    have HF : Hid (FindP M ((i : Int) + 1) (.returned (.tuple #[.pointer (some ⟨g, i * 36, none⟩), iv 0]))) := .inr ⟨p, g, i, hp, rfl, hi, hg, rfl⟩
    have q0 : (M.props.length : Int) ≤ 1000 := by have := h.nprops; have := h.few; omega
    rw [hv] at c1
    clear h hp hv hi hg hpa
    generalize M.props.length = m at *
    have q1 : (i : Int) < m := by omega
    have q2 : (1 : Int) ≤ (i : Int) + 1 := by omega
    have q3 : (i : Int) + 1 ≤ m := by omega
    have q4 : (i : Int) + 1 - 1 = i := by omega
    clear hil hnc
    go_enter Try.func39, Try.ntmps39
    go_wp2_with (go_at_call 36; refine HM.mono ?_; rintro e w1 ⟨rfl, rfl⟩)
    go_ret2
    refine ⟨?_, rfl⟩
    simpa using HF.out
#print axioms find_is
end Go.Proofs.Ytaecigpjcbjcbaa.Oct
