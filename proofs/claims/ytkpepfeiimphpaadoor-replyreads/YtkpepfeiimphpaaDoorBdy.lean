/-
  Layer 24 (reply): readBody of the program.
-/
import Derived.Test.YtkpepfeiimphpaaDoorBdr
namespace Go.Proofs.YtkpepfeiimphpaaDoor.Oct
open Go.RowKit
set_option linter.unusedSimpArgs false
set_option linter.unusedVariables false

/-- a length, its close line and a body are read -/
def BdOk (l : List UInt8) (cl : Bool) (body rest : List UInt8) : Prop :=
  ∃ (v : Nat) (q : List UInt8), aftB l clL = true ∧ (lnF (aftL l clL)).2.2 = true ∧ Lib.atoiAll (lnF (aftL l clL)).1 = .ok (v : Int) ∧ (lnF (aftL l clL)).2.1 = q ∧ aftB q ccL = cl ∧ aftB (aftL q ccL) crL = true ∧ v ≤ (aftL (aftL q ccL) crL).length ∧ body = (aftL (aftL q ccL) crL).take v ∧ rest = (aftL (aftL q ccL) crL).drop v
def BoP (w : World) (g a : Nat) (s ty : BA) (st : Int) (e : Ending) (w' : World) : Prop :=
  (∃ (b : BA) (cl : Bool) (a' : Nat), BdOk (s.data.toList.drop a) cl b.data.toList (s.data.toList.drop a') ∧ e = .returned .nilIface ∧ RQ w w' g (rdc s (a' : Int) st ty b cl) ∧ a' ≤ s.size ∧ b.size ≤ s.size) ∨
  ((∀ cl b r, ¬ BdOk (s.data.toList.drop a) cl b r) ∧ ∃ (a' : Nat) (b : BA) (cl : Bool), e = .returned (gvE (a' : Int)) ∧ RQ w w' g (rdc s (a' : Int) st ty b cl))
set_option maxRecDepth 100000 in
set_option maxHeartbeats 2000000 in
theorem readBody_is {w W : World} {g a : Nat} {s ty bo : BA} {st : Int} {cl : Bool} (h : RQ w W g (rdc s (a : Int) st ty bo cl)) (hx : SX w) (ha : a ≤ s.size) (hs : s.size ≤ 140000) : Calls Tryd.prog 28 #[.pointer (some ⟨g, 0, none⟩)] W (BoP w g a s ty st) := by
  have HR : Hid (RQ w W g (rdc s (a : Int) st ty bo cl)) := h
  have HX : Hid (SX w) := hx
  have HZ : Hid (a ≤ s.size ∧ s.size ≤ 140000) := ⟨ha, hs⟩
  clear h ha hs hx
  go_enter Tryd.func28, Tryd.ntmps28
  go_wp2_with fail
  refine (accept_is HR.out.x HZ.out.1 (Nat.le_trans HZ.out.2 (by decide)) (⟨#[99, 111, 110, 116, 101, 110, 116, 45, 108, 101, 110, 103, 116, 104, 58, 32]⟩ : BA) (by decide)).mono ?_
  rintro e W1 ⟨a1, rfl, H1⟩
  obtain ⟨B, hB⟩ : ∃ B, aftB (s.data.toList.drop a) clL = B := ⟨_, rfl⟩
  have HB : Hid (aftB (s.data.toList.drop a) clL = B) := hB
  have HL : Hid (s.data.toList.drop a1 = aftL (s.data.toList.drop a) clL) := H1.out.2.2.1
  have HR1 : Hid (RQ w W1 g (rdc s (a1 : Int) st ty bo cl)) := HR.out.grown H1.out.1 H1.out.2.2.2.2
  have HZ1 : Hid (a1 ≤ s.size) := H1.out.2.1
  rw [hB]
  clear hB H1 HR
  cases B
  · go_wp2_with fail
    refine (giveUp_is HR1.out.x).mono ?_
    rintro e X ⟨rfl, rfl⟩
    go_wp2
    go_ret
    exact Or.inr ⟨fun c b r k => (by obtain ⟨v, q, k1, k2⟩ := k; rw [HB.out] at k1; cases k1), a1, bo, cl, rfl, HR1.out⟩
  · go_wp2_with fail
    refine (line_is HR1.out.x HR1.out.mx HZ1.out HZ.out.2).mono ?_
    rintro e W2 (⟨hn, rfl, hx, hg⟩ | ⟨hn, x, a2, rfl, H2⟩)
    · have HR2 : Hid (RQ w W2 g (rdc s (a1 : Int) st ty bo cl)) := HR1.out.grown hx hg
      have HN : Hid ((lnF (aftL (s.data.toList.drop a) clL)).2.2 = false) := by show _ = _; rw [← HL.out]; exact hn
      clear hn hx hg HR1
      go_wp2
      go_ret
      exact Or.inr ⟨fun c b r k => (by obtain ⟨v, q, k1, k2, k3⟩ := k; rw [HN.out] at k2; cases k2), a1, bo, cl, rfl, HR2.out⟩
    · have HR2 : Hid (RQ w W2 g (rdc s (a2 : Int) st ty bo cl)) := HR1.out.grown H2.out.2.1 H2.out.2.2.2.2.2
      have HN : Hid ((lnF (aftL (s.data.toList.drop a) clL)).2.2 = true ∧ x.data.toList = (lnF (aftL (s.data.toList.drop a) clL)).1 ∧ a2 ≤ s.size ∧ s.data.toList.drop a2 = (lnF (aftL (s.data.toList.drop a) clL)).2.1) := by
        rw [← HL.out]
        exact ⟨hn, H2.out.1, H2.out.2.2.1, H2.out.2.2.2.1⟩
      have HXS : Hid (x.size ≤ 140000) := by
        show x.data.toList.length ≤ _
        rw [HN.out.2.1]
        have h1 := cut_sz (aftL (s.data.toList.drop a) clL) crL
        rw [← HL.out] at h1 ⊢
        rw [List.length_drop] at h1
        have h3 : s.data.toList.length = s.size := rfl
        have h2 := HZ.out.2
        exact Nat.le_trans h1 (by omega)
      clear hn H2 HR1
      go_wp2_with fail
      refine (number_is HR2.out HX.out x HXS.out).mono ?_
      rintro e W4 (⟨v, hv, h0, rfl, hr⟩ | ⟨hv, rfl, hr⟩)
      · obtain ⟨sz, rfl⟩ : ∃ n : Nat, v = (n : Int) := ⟨v.toNat, by omega⟩
        have HR4 : Hid (RQ w W4 g (rdc s (a2 : Int) st ty bo cl)) := hr
        have HV : Hid (Lib.atoiAll (lnF (aftL (s.data.toList.drop a) clL)).1 = .ok (sz : Int)) := by show _ = _; rw [← HN.out.2.1]; exact hv
        clear hv h0 hr HR2
        have c0 : iv 0 = iv 0 := rfl
        go_wp2_with fail
        refine (accept_is HR4.out.x HN.out.2.2.1 (Nat.le_trans HZ.out.2 (by decide)) (⟨#[99, 111, 110, 110, 101, 99, 116, 105, 111, 110, 58, 32, 99, 108, 111, 115, 101, 13, 10]⟩ : BA) (by decide)).mono ?_
        rintro e W5 ⟨a5, rfl, H5⟩
        obtain ⟨D, hD⟩ : ∃ B, aftB (s.data.toList.drop a2) ccL = B := ⟨_, rfl⟩
        have HD : Hid (aftB (s.data.toList.drop a2) ccL = D) := hD
        have HL5 : Hid (s.data.toList.drop a5 = aftL (s.data.toList.drop a2) ccL) := H5.out.2.2.1
        have HR5 : Hid (RQ w W5 g (rdc s (a5 : Int) st ty bo cl)) := HR4.out.grown H5.out.1 H5.out.2.2.2.2
        have HZ5 : Hid (a5 ≤ s.size) := H5.out.2.1
        rw [hD]
        clear hD H5 HR4
        have c1 : W5.cell? ⟨g, 5, none⟩ = some (.bool cl) := HR5.out.x.cell rfl
        have f1 : W5.frozen? ⟨g, 5, none⟩ = false := HR5.out.x.free 5
        obtain ⟨W6, hX⟩ : ∃ X, W5.setCell ⟨g, 5, none⟩ (.bool D) = X := ⟨_, rfl⟩
        have HR6 : Hid (RQ w W6 g (rdc s (a5 : Int) st ty bo D)) := by show RQ _ _ _ _; rw [← hX]; exact HR5.out.set 5 _
        go_wp2
        clear hX c1 f1 HR5
        obtain ⟨B7, hB7⟩ : ∃ B, aftB (s.data.toList.drop a5) crL = B := ⟨_, rfl⟩
        have HAC : Hid (Calls Tryd.prog 35 #[.pointer (some ⟨g, 0, none⟩), .string ⟨#[13, 10]⟩] W6.drew fun e V2 => ∃ a1, e = .returned (.bool B7) ∧ AcP W6 g a5 s st ty bo D B7 a1 V2) := by
          refine Calls.mono (accept_is (w := W6.drew) HR6.out.x.drew HZ5.out (Nat.le_trans HZ.out.2 (by decide)) (⟨#[13, 10]⟩ : BA) (by decide)) ?_
          rintro e V ⟨a7, rfl, H7⟩
          refine ⟨a7, by rw [← hB7], H7.out.1, H7.out.2.1, H7.out.2.2.1, ?_, hB7⟩
          exact grown_tr (grown_drewN W6 1 _) H7.out.2.2.2.2
        have HB7 : Hid (aftB (s.data.toList.drop a5) crL = B7) := hB7
        clear hB7
        cases B7
        · refine bd10n (HR6.out.x.cell rfl) ⟨HZ5.out, HZ.out.2⟩ HAC ?_
          intro a7 W7 hx
          have HR7 : Hid (RQ w W7 g (rdc s (a7 : Int) st ty bo D)) := HR6.out.grown hx.1 hx.2.2.2.1
          clear hx HAC HR6
          go_wp2_with fail
          refine (giveUp_is HR7.out.x).mono ?_
          rintro e X ⟨rfl, rfl⟩
          go_wp2
          go_ret
          exact Or.inr ⟨fun c b r k => (by obtain ⟨v, q, k1, k2, k3, k4, k5, k6, k7⟩ := k; subst k4; rw [← HN.out.2.2.2, ← HL5.out, HB7.out] at k6; cases k6), a7, bo, D, rfl, HR7.out⟩
        · refine bd10y (HR6.out.x.cell rfl) ⟨HZ5.out, HZ.out.2⟩ HAC ?_
          intro a7 W7 hx
          have HR7 : Hid (RQ w W7 g (rdc s (a7 : Int) st ty bo D)) := HR6.out.grown hx.1 hx.2.2.2.1
          have HZ7 : Hid (a7 ≤ s.size) := hx.2.1
          have HL7 : Hid (s.data.toList.drop a7 = aftL (s.data.toList.drop a5) crL) := hx.2.2.1
          clear hx HAC HR6
          by_cases hsz : s.size - a7 < sz
          · have d0 : decide ((s.size : Int) - (a7 : Int) < (sz : Int)) = true := decide_eq_true (by have := HZ7.out; omega)
            have HSZ : Hid (s.size - a7 < sz) := hsz
            rw [d0]
            clear d0 hsz
            go_wp2_with fail
            refine (giveUp_is HR7.out.x).mono ?_
            rintro e X ⟨rfl, rfl⟩
            go_wp2
            go_ret
            exact Or.inr ⟨fun c b r k => (by
              obtain ⟨v, q, k1, k2, k3, k4, k5, k6, k7, k8⟩ := k
              subst k4
              rw [← HN.out.2.2.2, ← HL5.out, ← HL7.out, List.length_drop] at k7
              rw [HV.out] at k3
              have h3 : s.data.toList.length = s.size := rfl
              have h4 := HSZ.out
              have h5 : (sz : Int) = (v : Int) := by injection k3
              omega), a7, bo, D, rfl, HR7.out⟩
          · have d0 : decide ((s.size : Int) - (a7 : Int) < (sz : Int)) = false := decide_eq_false (by have := HZ7.out; omega)
            have HSZ : Hid (a7 + sz ≤ s.size) := by show _ ≤ _; have := HZ7.out; omega
            rw [d0]
            clear d0 hsz
            go_wp2_with fail
            refine bd12 HR7.out.x ⟨⟨HSZ.out, HZ.out.2⟩, Nat.le_trans HSZ.out HZ.out.2⟩ ?_
            intro W8 hb hg
            have HR8 : Hid (RQ w W8 g (rdc s (a7 : Int) st ty (s.extract a7 (a7 + sz)) D)) := HR7.out.grown hb hg
            clear hb hg HR7
            have c1 : W8.cell? ⟨g, 1, none⟩ = some (iv (a7 : Int)) := HR8.out.x.cell rfl
            have f1 : W8.frozen? ⟨g, 1, none⟩ = false := HR8.out.x.free 1
            have q3 : IntKind.i64.wrap ((a7 : Int) + (sz : Int)) = ((a7 + sz : Nat) : Int) := by have := HSZ.out; have := HZ.out.2; rw [IntKind.wrap_i64]; omega
            obtain ⟨b8, hb8⟩ : ∃ b, s.extract a7 (a7 + sz) = b := ⟨_, rfl⟩
            have HB8 : Hid (b8.data.toList = (s.data.toList.drop a7).take sz ∧ b8.size ≤ s.size) := by
              rw [← hb8]
              have e1 : (s.extract a7 (a7 + sz)).data.toList = (s.data.toList.drop a7).take sz := by
                rw [ByteArray.data_extract, Array.toList_extract, List.extract_eq_take_drop]
                congr 1
                omega
              refine ⟨e1, ?_⟩
              show (s.extract a7 (a7 + sz)).data.toList.length ≤ _
              rw [e1, List.length_take, List.length_drop]
              have h3 : s.data.toList.length = s.size := rfl
              omega
            rw [hb8] at HR8 ⊢
            clear hb8
            obtain ⟨W9, hX⟩ : ∃ X, W8.setCell ⟨g, 1, none⟩ (iv ((a7 + sz : Nat) : Int)) = X := ⟨_, rfl⟩
            have HR9 : Hid (RQ w W9 g (rdc s ((a7 + sz : Nat) : Int) st ty b8 D)) := by show RQ _ _ _ _; rw [← hX]; exact HR8.out.set 1 _
            obtain ⟨a9, ha9⟩ : ∃ n : Nat, a7 + sz = n := ⟨_, rfl⟩
            have HA9 : Hid (a7 + sz = a9) := ha9
            rw [ha9] at q3 hX HR9
            clear ha9
            go_wp2
            go_ret
            refine Or.inl ⟨b8, D, a9, ⟨sz, _, HB.out, HN.out.1, HV.out, rfl, ?_⟩, rfl, HR9.out, by rw [← HA9.out]; exact HSZ.out, HB8.out.2⟩
            rw [← HN.out.2.2.2, ← HL5.out, ← HL7.out]
            refine ⟨HD.out, HB7.out, ?_, HB8.out.1, ?_⟩
            · rw [List.length_drop]
              have h3 : s.data.toList.length = s.size := rfl
              have := HSZ.out
              omega
            · rw [List.drop_drop, ← HA9.out]
      · have HR4 : Hid (RQ w W4 g (rdc s (a2 : Int) st ty bo cl)) := hr
        have HV : Hid (∀ v : Int, Lib.atoiAll (lnF (aftL (s.data.toList.drop a) clL)).1 = .ok v → v < 0) := by show ∀ _, _; rw [← HN.out.2.1]; exact hv
        clear hv hr HR2
        go_wp2
        go_ret
        exact Or.inr ⟨fun c b r k => (by obtain ⟨v, q, k1, k2, k3, k4⟩ := k; have := HV.out _ k3; omega), a2, bo, cl, rfl, HR4.out⟩
#print axioms readBody_is
end Go.Proofs.YtkpepfeiimphpaaDoor.Oct
