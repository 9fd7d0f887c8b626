/-
  Layer 24 (reply): readType of the program.
-/
import Derived.Test.YtkpepfeiimphpaaDoorRdl
namespace Go.Proofs.YtkpepfeiimphpaaDoor.Oct
open Go.RowKit
set_option linter.unusedSimpArgs false
set_option linter.unusedVariables false

/-- where the program's reader stands: at g, above what was there -/
structure RQ (w W : World) (g : Nat) (X : List Value) : Prop where
  pw : PT w
  mw : MX w
  bl : Below w.heap.size w W
  x : Blk W g 44 X
  lg : w.heap.size ≤ g
theorem RQ.pt {w W : World} {g : Nat} {X : List Value} (h : RQ w W g X) : PT W := h.pw.below h.bl
theorem RQ.mx {w W : World} {g : Nat} {X : List Value} (h : RQ w W g X) : MX W := h.mw.below h.bl
theorem RQ.grown {w W W' : World} {g : Nat} {X Y : List Value} (h : RQ w W g X) (hx : Blk W' g 44 Y) (hg : W.grownBy W' (some g)) : RQ w W' g Y := by
  obtain ⟨a1, a2, a3, a4, a5⟩ := hg
  obtain ⟨b1, b2, b3, b4, b5⟩ := h.bl
  have := h.lg
  exact ⟨h.pw, h.mw, ⟨a1.trans b1, a2.trans b2, a3.trans b3, Nat.le_trans b4 a4, fun k hk => (a5 k (Nat.lt_of_lt_of_le hk b4) (by simp; omega)).trans (b5 k hk)⟩, hx, h.lg⟩
theorem RQ.set {w W : World} {g : Nat} {X : List Value} (h : RQ w W g X) (i : Nat) (v : Value) : RQ w (W.setCell ⟨g, i, none⟩ v) g (X.set i v) := ⟨h.pw, h.mw, h.bl.setCell h.lg v, h.x.set i v, h.lg⟩
/-- what readType leaves -/
def TyP (w : World) (g a : Nat) (s ty bo : BA) (st : Int) (cl : Bool) (e : Ending) (w' : World) : Prop :=
  (aftB (s.data.toList.drop a) ctL = false ∧ e = .returned .nilIface ∧ RQ w w' g (rdc s (a : Int) st ty bo cl)) ∨
  (aftB (s.data.toList.drop a) ctL = true ∧ (lnF (aftL (s.data.toList.drop a) ctL)).2.2 = false ∧ ∃ (a' : Nat) (y : BA), e = .returned (gvE (a' : Int)) ∧ RQ w w' g (rdc s (a' : Int) st y bo cl)) ∨
  (aftB (s.data.toList.drop a) ctL = true ∧ (lnF (aftL (s.data.toList.drop a) ctL)).2.2 = true ∧ ∃ (a' : Nat) (y : BA), e = .returned .nilIface ∧ y.data.toList = (lnF (aftL (s.data.toList.drop a) ctL)).1 ∧ RQ w w' g (rdc s (a' : Int) st y bo cl) ∧ a' ≤ s.size ∧ s.data.toList.drop a' = (lnF (aftL (s.data.toList.drop a) ctL)).2.1)
set_option maxRecDepth 100000 in
set_option maxHeartbeats 1000000 in
theorem readType_is {w W : World} {g a : Nat} {s ty bo : BA} {st : Int} {cl : Bool} (h : RQ w W g (rdc s (a : Int) st ty bo cl)) (ha : a ≤ s.size) (hs : s.size ≤ 140000) : Calls Tryd.prog 27 #[.pointer (some ⟨g, 0, none⟩)] W (TyP w g a s ty bo st cl) := by
  have HR : Hid (RQ w W g (rdc s (a : Int) st ty bo cl)) := h
  have HZ : Hid (a ≤ s.size ∧ s.size ≤ 140000) := ⟨ha, hs⟩
  clear h ha hs
  go_enter Tryd.func27, Tryd.ntmps27
  go_wp2_with fail
  refine (accept_is HR.out.x HZ.out.1 (Nat.le_trans HZ.out.2 (by decide)) (⟨#[99, 111, 110, 116, 101, 110, 116, 45, 116, 121, 112, 101, 58, 32]⟩ : BA) (by decide)).mono ?_
  rintro e W1 ⟨a1, rfl, H1⟩
  obtain ⟨B, hB⟩ : ∃ B, aftB (s.data.toList.drop a) ctL = B := ⟨_, rfl⟩
  have HB : Hid (aftB (s.data.toList.drop a) ctL = B) := hB
  have HL : Hid (s.data.toList.drop a1 = aftL (s.data.toList.drop a) ctL) := H1.out.2.2.1
  have HR1 : Hid (RQ w W1 g (rdc s (a1 : Int) st ty bo cl)) := HR.out.grown H1.out.1 H1.out.2.2.2.2
  have HZ1 : Hid (a1 ≤ s.size) := H1.out.2.1
  have HE : Hid (B = false → a1 = a) := by
    intro hb
    have e := HL.out
    unfold aftL at e
    rw [HB.out, hb] at e
    have := congrArg List.length e
    have h3 : s.data.toList.length = s.size := rfl
    have h4 := HZ.out.1
    have h5 := HZ1.out
    simp only [Bool.false_eq_true, if_false, List.length_drop] at this
    omega
  rw [hB]
  clear hB H1 HR
  cases B
  · obtain rfl : a1 = a := HE.out rfl
    go_wp2
    go_ret
    exact Or.inl ⟨HB.out, rfl, HR1.out⟩
  · clear HE
    go_wp2_with fail
    refine (line_is HR1.out.x HR1.out.mx HZ1.out HZ.out.2).mono ?_
    rintro e W2 (⟨hn, rfl, hx, hg⟩ | ⟨hn, x, a2, rfl, H2⟩)
    · have HR2 : Hid (RQ w W2 g (rdc s (a1 : Int) st ty bo cl)) := HR1.out.grown hx hg
      have HN : Hid ((lnF (aftL (s.data.toList.drop a) ctL)).2.2 = false) := by show _ = _; rw [← HL.out]; exact hn
      clear hn hx hg HR1
      have c1 : W2.cell? ⟨g, 3, none⟩ = some (.string ty) := HR2.out.x.cell rfl
      have f1 : W2.frozen? ⟨g, 3, none⟩ = false := HR2.out.x.free 3
      obtain ⟨W3, hX⟩ : ∃ X, W2.setCell ⟨g, 3, none⟩ (.string e0) = X := ⟨_, rfl⟩
      have HR3 : Hid (RQ w W3 g (rdc s (a1 : Int) st e0 bo cl)) := by show RQ _ _ _ _; rw [← hX]; exact HR2.out.set 3 _
      go_wp2
      go_ret
      exact Or.inr (Or.inl ⟨HB.out, HN.out, a1, e0, rfl, HR3.out⟩)
    · have HR2 : Hid (RQ w W2 g (rdc s (a2 : Int) st ty bo cl)) := HR1.out.grown H2.out.2.1 H2.out.2.2.2.2.2
      have HN : Hid ((lnF (aftL (s.data.toList.drop a) ctL)).2.2 = true ∧ x.data.toList = (lnF (aftL (s.data.toList.drop a) ctL)).1 ∧ a2 ≤ s.size ∧ s.data.toList.drop a2 = (lnF (aftL (s.data.toList.drop a) ctL)).2.1) := by
        rw [← HL.out]
        exact ⟨hn, H2.out.1, H2.out.2.2.1, H2.out.2.2.2.1⟩
      clear hn H2 HR1
      have c1 : W2.cell? ⟨g, 3, none⟩ = some (.string ty) := HR2.out.x.cell rfl
      have f1 : W2.frozen? ⟨g, 3, none⟩ = false := HR2.out.x.free 3
      obtain ⟨W3, hX⟩ : ∃ X, W2.setCell ⟨g, 3, none⟩ (.string x) = X := ⟨_, rfl⟩
      have HR3 : Hid (RQ w W3 g (rdc s (a2 : Int) st x bo cl)) := by show RQ _ _ _ _; rw [← hX]; exact HR2.out.set 3 _
      go_wp2
      go_ret
      exact Or.inr (Or.inr ⟨HB.out, HN.out.1, a2, x, rfl, HN.out.2.1, HR3.out, HN.out.2.2.1, HN.out.2.2.2⟩)
#print axioms readType_is
end Go.Proofs.YtkpepfeiimphpaaDoor.Oct
