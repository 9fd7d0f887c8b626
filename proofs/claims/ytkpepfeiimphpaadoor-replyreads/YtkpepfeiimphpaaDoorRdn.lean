/-
  Layer 24 (reply): number of the program.
-/
import Derived.Test.YtkpepfeiimphpaaDoorAto
namespace Go.Proofs.YtkpepfeiimphpaaDoor.Oct
open Go.RowKit
set_option linter.unusedSimpArgs false
set_option linter.unusedVariables false

theorem RQ.below {w W W' : World} {g : Nat} {X : List Value} (h : RQ w W g X) (hb : Below W.heap.size W W') : RQ w W' g X := ⟨h.pw, h.mw, below_tr h.bl hb, h.x.below hb h.x.lt, h.lg⟩
/-- what number answers -/
def NuP (w : World) (g : Nat) (X : List Value) (a : Int) (d : List UInt8) (e : Ending) (w' : World) : Prop :=
  (∃ v : Int, Lib.atoiAll d = .ok v ∧ 0 ≤ v ∧ e = .returned (.tuple #[iv v, .nilIface]) ∧ RQ w w' g X) ∨
  ((∀ v : Int, Lib.atoiAll d = .ok v → v < 0) ∧ e = .returned (.tuple #[iv 0, gvE a]) ∧ RQ w w' g X)
set_option maxRecDepth 100000 in
set_option maxHeartbeats 1000000 in
theorem number_is {w W : World} {g : Nat} {a : Int} {s ty bo : BA} {st : Int} {cl : Bool} (h : RQ w W g (rdc s a st ty bo cl)) (hx : SX w) (d : BA) (hd : d.size ≤ 140000) : Calls Tryd.prog 39 #[.pointer (some ⟨g, 0, none⟩), .string d] W (NuP w g (rdc s a st ty bo cl) a d.data.toList) := by
  have HR : Hid (RQ w W g (rdc s a st ty bo cl)) := h
  have HX : Hid (SX W) := hx.below h.bl
  have HD : Hid (d.size ≤ 140000) := hd
  clear h hx hd
  go_enter Tryd.func39, Tryd.ntmps39
  go_wp2_with fail
  refine (atoi_b d HD.out W HX.out).mono ?_
  rintro e W1 (⟨v, hv, rfl, hb⟩ | ⟨hv, u, t, p, rfl, hb⟩)
  · have HR1 : Hid (RQ w W1 g (rdc s a st ty bo cl)) := HR.out.below hb
    have HV : Hid (Lib.atoiAll d.data.toList = .ok v) := hv
    clear HR hv hb HX
    by_cases h0 : v < 0
    · have d0 : decide (v < 0) = true := decide_eq_true h0
      have HN : Hid (v < 0) := h0
      go_wp2_with fail
      refine (giveUp_is HR1.out.x).mono ?_
      rintro e X ⟨rfl, rfl⟩
      go_wp2
      go_ret2
      exact Or.inr ⟨fun v' hv' => by rw [HV.out] at hv'; cases hv'; exact HN.out, rfl, HR1.out⟩
    · have d0 : decide (v < 0) = false := decide_eq_false h0
      have HN : Hid (0 ≤ v) := by show 0 ≤ v; omega
      go_wp2
      go_ret2
      exact Or.inl ⟨v, HV.out, HN.out, rfl, HR1.out⟩
  · have HR1 : Hid (RQ w W1 g (rdc s a st ty bo cl)) := HR.out.below hb
    have HV : Hid (∀ v : Int, Lib.atoiAll d.data.toList ≠ .ok v) := hv
    clear HR hv hb HX
    go_wp2_with fail
    refine (giveUp_is HR1.out.x).mono ?_
    rintro e X ⟨rfl, rfl⟩
    go_wp2
    go_ret2
    exact Or.inr ⟨fun v' hv' => absurd hv' (HV.out v'), rfl, HR1.out⟩
#print axioms number_is
end Go.Proofs.YtkpepfeiimphpaaDoor.Oct
