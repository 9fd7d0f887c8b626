/-
  Layer 24 (reply): readStatus of the program.
-/
import Derived.Test.YtkpepfeiimphpaaDoorRdn
namespace Go.Proofs.YtkpepfeiimphpaaDoor.Oct
open Go.RowKit
set_option linter.unusedSimpArgs false
set_option linter.unusedVariables false

/-- a status line is read as v, and rest is left -/
def StOk (l : List UInt8) (v : Int) (rest : List UInt8) : Prop :=
  aftB l vL = true ∧ (lnF (aftL l vL)).2.2 = true ∧ Lib.atoiAll (Lib.cut (lnF (aftL l vL)).1 [32]).1 = .ok v ∧ 0 ≤ v ∧ (lnF (aftL l vL)).2.1 = rest
def StP (w : World) (g a : Nat) (s ty bo : BA) (cl : Bool) (e : Ending) (w' : World) : Prop :=
  (∃ (v : Int) (a' : Nat), StOk (s.data.toList.drop a) v (s.data.toList.drop a') ∧ e = .returned .nilIface ∧ RQ w w' g (rdc s (a' : Int) v ty bo cl) ∧ a' ≤ s.size) ∨
  ((∀ v rest, ¬ StOk (s.data.toList.drop a) v rest) ∧ ∃ (a' : Nat) (v : Int), e = .returned (gvE (a' : Int)) ∧ RQ w w' g (rdc s (a' : Int) v ty bo cl))
set_option maxRecDepth 100000 in
set_option maxHeartbeats 1000000 in
theorem readStatus_is {w W : World} {g a : Nat} {s ty bo : BA} {st : Int} {cl : Bool} (h : RQ w W g (rdc s (a : Int) st ty bo cl)) (hx : SX w) (ha : a ≤ s.size) (hs : s.size ≤ 140000) : Calls Tryd.prog 26 #[.pointer (some ⟨g, 0, none⟩)] W (StP w g a s ty bo cl) := by
  have HR : Hid (RQ w W g (rdc s (a : Int) st ty bo cl)) := h
  have HX : Hid (SX w) := hx
  have HZ : Hid (a ≤ s.size ∧ s.size ≤ 140000) := ⟨ha, hs⟩
  clear h ha hs hx
  go_enter Tryd.func26, Tryd.ntmps26
  go_wp2_with fail
  refine (accept_is HR.out.x HZ.out.1 (Nat.le_trans HZ.out.2 (by decide)) (⟨#[72, 84, 84, 80, 47, 49, 46, 49, 32]⟩ : BA) (by decide)).mono ?_
  rintro e W1 ⟨a1, rfl, H1⟩
  obtain ⟨B, hB⟩ : ∃ B, aftB (s.data.toList.drop a) vL = B := ⟨_, rfl⟩
  have HB : Hid (aftB (s.data.toList.drop a) vL = B) := hB
  have HL : Hid (s.data.toList.drop a1 = aftL (s.data.toList.drop a) vL) := H1.out.2.2.1
  have HR1 : Hid (RQ w W1 g (rdc s (a1 : Int) st ty bo cl)) := HR.out.grown H1.out.1 H1.out.2.2.2.2
  have HZ1 : Hid (a1 ≤ s.size) := H1.out.2.1
  rw [hB]
  clear hB H1 HR
  cases B
  · go_wp2_with fail
    refine (giveUp_is HR1.out.x).mono ?_
    rintro e X ⟨rfl, rfl⟩
    go_wp2
    go_ret
    exact Or.inr ⟨fun v r k => (by have := k.1; rw [HB.out] at this; cases this), a1, st, rfl, HR1.out⟩
  · go_wp2_with fail
    refine (line_is HR1.out.x HR1.out.mx HZ1.out HZ.out.2).mono ?_
    rintro e W2 (⟨hn, rfl, hx, hg⟩ | ⟨hn, x, a2, rfl, H2⟩)
    · have HR2 : Hid (RQ w W2 g (rdc s (a1 : Int) st ty bo cl)) := HR1.out.grown hx hg
      have HN : Hid ((lnF (aftL (s.data.toList.drop a) vL)).2.2 = false) := by show _ = _; rw [← HL.out]; exact hn
      clear hn hx hg HR1
      go_wp2
      go_ret
      exact Or.inr ⟨fun v r k => (by have := k.2.1; rw [HN.out] at this; cases this), a1, st, rfl, HR2.out⟩
    · have HR2 : Hid (RQ w W2 g (rdc s (a2 : Int) st ty bo cl)) := HR1.out.grown H2.out.2.1 H2.out.2.2.2.2.2
      have HN : Hid ((lnF (aftL (s.data.toList.drop a) vL)).2.2 = true ∧ x.data.toList = (lnF (aftL (s.data.toList.drop a) vL)).1 ∧ a2 ≤ s.size ∧ s.data.toList.drop a2 = (lnF (aftL (s.data.toList.drop a) vL)).2.1) := by
        rw [← HL.out]
        exact ⟨hn, H2.out.1, H2.out.2.2.1, H2.out.2.2.2.1⟩
      have HXS : Hid (x.size ≤ 140000) := by
        show x.data.toList.length ≤ _
        rw [HN.out.2.1]
        have h1 := cut_sz (aftL (s.data.toList.drop a) vL) crL
        rw [← HL.out] at h1 ⊢
        rw [List.length_drop] at h1
        have h3 : s.data.toList.length = s.size := rfl
        have h2 := HZ.out.2
        exact Nat.le_trans h1 (by omega)
      clear hn H2 HR1
      go_wp2_with fail
      refine (cut_b x (⟨#[32]⟩ : BA) W2 HXS.out HR2.out.mx).mono ?_
      rintro e W3 ⟨rfl, hb⟩
      obtain ⟨q, hq⟩ : ∃ q, Lib.cut x.data.toList (⟨#[32]⟩ : BA).data.toList = q := ⟨_, rfl⟩
      rw [hq]
      obtain ⟨d, hd⟩ : ∃ u : BA, (⟨q.1.toArray⟩ : BA) = u := ⟨_, rfl⟩
      obtain ⟨d2, hd2⟩ : ∃ u : BA, (⟨q.2.1.toArray⟩ : BA) = u := ⟨_, rfl⟩
      obtain ⟨B2, hB2⟩ : ∃ u, q.2.2 = u := ⟨_, rfl⟩
      rw [hd, hd2, hB2]
      have HD : Hid (d.data.toList = (Lib.cut (lnF (aftL (s.data.toList.drop a) vL)).1 [32]).1 ∧ d.size ≤ 140000) := by
        have e1 : d.data.toList = (Lib.cut x.data.toList [32]).1 := by rw [← hd, ← hq]
        refine ⟨by rw [e1, HN.out.2.1], ?_⟩
        show d.data.toList.length ≤ _
        rw [e1]
        exact Nat.le_trans (cut_sz _ _) HXS.out
      have HR3 : Hid (RQ w W3 g (rdc s (a2 : Int) st ty bo cl)) := HR2.out.below hb
      clear hd hd2 hB2 hq hb HR2
      go_wp2_with fail
      refine (number_is HR3.out HX.out d HD.out.2).mono ?_
      rintro e W4 (⟨v, hv, h0, rfl, hr⟩ | ⟨hv, rfl, hr⟩)
      · have HR4 : Hid (RQ w W4 g (rdc s (a2 : Int) st ty bo cl)) := hr
        have HV : Hid (Lib.atoiAll d.data.toList = .ok v ∧ 0 ≤ v) := ⟨hv, h0⟩
        clear hv h0 hr HR3
        have c1 : W4.cell? ⟨g, 2, none⟩ = some (iv st) := HR4.out.x.cell rfl
        have f1 : W4.frozen? ⟨g, 2, none⟩ = false := HR4.out.x.free 2
        obtain ⟨W5, hX⟩ : ∃ X, W4.setCell ⟨g, 2, none⟩ (iv v) = X := ⟨_, rfl⟩
        have HR5 : Hid (RQ w W5 g (rdc s (a2 : Int) v ty bo cl)) := by show RQ _ _ _ _; rw [← hX]; exact HR4.out.set 2 _
        go_wp2
        go_ret
        exact Or.inl ⟨v, a2, ⟨HB.out, HN.out.1, by rw [← HD.out.1]; exact HV.out.1, HV.out.2, HN.out.2.2.2.symm⟩, rfl, HR5.out, HN.out.2.2.1⟩
      · have HR4 : Hid (RQ w W4 g (rdc s (a2 : Int) st ty bo cl)) := hr
        have HV : Hid (∀ v : Int, Lib.atoiAll d.data.toList = .ok v → v < 0) := hv
        clear hv hr HR3
        have c1 : W4.cell? ⟨g, 2, none⟩ = some (iv st) := HR4.out.x.cell rfl
        have f1 : W4.frozen? ⟨g, 2, none⟩ = false := HR4.out.x.free 2
        obtain ⟨W5, hX⟩ : ∃ X, W4.setCell ⟨g, 2, none⟩ (iv 0) = X := ⟨_, rfl⟩
        have HR5 : Hid (RQ w W5 g (rdc s (a2 : Int) 0 ty bo cl)) := by show RQ _ _ _ _; rw [← hX]; exact HR4.out.set 2 _
        go_wp2
        go_ret
        exact Or.inr ⟨fun v r k => (by have := HV.out v (by rw [HD.out.1]; exact k.2.2.1); have := k.2.2.2.1; omega), a2, 0, rfl, HR5.out⟩
#print axioms readStatus_is
end Go.Proofs.YtkpepfeiimphpaaDoor.Oct
