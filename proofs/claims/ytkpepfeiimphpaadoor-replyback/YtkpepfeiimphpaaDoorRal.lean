/-
  Layer 24 (reply): readAll of the program.
-/
import Derived.Test.YtkpepfeiimphpaaDoorPgf
import Derived.Test.YtkpepfeiimphpaaDoorIse
namespace Go.Proofs.YtkpepfeiimphpaaDoor.Oct
open Go.RowKit
set_option linter.unusedSimpArgs false
set_option linter.unusedVariables false

def AllP (w : World) (g : Nat) (s : BA) (e : Ending) (W : World) : Prop :=
  (∃ (st : Int) (ty bo : BA) (cl : Bool) (a : Nat), e = .returned .nilIface ∧ RQ w W g (rdc s (a : Int) st ty bo cl) ∧ (prL st ty bo cl).2 = 0 ∧ (prL st ty bo cl).1 = s.data.toList.take a ∧ a ≤ s.size) ∨
  ((∀ (st : Int) (ty bo : BA) (cl : Bool), (prL st ty bo cl).2 = 0 → aftB s.data.toList (prL st ty bo cl).1 = false) ∧ ∃ (a : Nat) (X : List Value), e = .returned (gvE (a : Int)) ∧ RQ w W g X)
theorem no_pr {l : List UInt8} (h : ∀ st ty bo cl l1 l2 l3, StOk l st l1 → TyOk l1 ty l2 → BdOk l2 cl bo l3 → False) : ∀ (st : Int) (ty bo : BA) (cl : Bool), (prL st ty bo cl).2 = 0 → aftB l (prL st ty bo cl).1 = false := by
  intro st ty bo cl h0
  cases hc : aftB l (prL st ty bo cl).1 with
  | false => rfl
  | true =>
    obtain ⟨l1, l2, l3, a, b, c, _⟩ := chain h0 hc
    exact (h _ _ _ _ _ _ _ a b c).elim
theorem idx0 (g : Nat) (W : World) : (Instr.index 55 (.agg #[(.func (.func 26) #[.pointer (some ⟨g, 0, none⟩)] #[]), (.func (.func 27) #[.pointer (some ⟨g, 0, none⟩)] #[]), (.func (.func 28) #[.pointer (some ⟨g, 0, none⟩)] #[]), (.func (.func 29) #[.pointer (some ⟨g, 0, none⟩)] #[])]) (iv 0)).run Tryd.prog W = .ok (.func (.func 26) #[.pointer (some ⟨g, 0, none⟩)] #[]) W := by kernel_rfl
theorem idx1 (g : Nat) (W : World) : (Instr.index 55 (.agg #[(.func (.func 26) #[.pointer (some ⟨g, 0, none⟩)] #[]), (.func (.func 27) #[.pointer (some ⟨g, 0, none⟩)] #[]), (.func (.func 28) #[.pointer (some ⟨g, 0, none⟩)] #[]), (.func (.func 29) #[.pointer (some ⟨g, 0, none⟩)] #[])]) (iv 1)).run Tryd.prog W = .ok (.func (.func 27) #[.pointer (some ⟨g, 0, none⟩)] #[]) W := by kernel_rfl
theorem idx2 (g : Nat) (W : World) : (Instr.index 55 (.agg #[(.func (.func 26) #[.pointer (some ⟨g, 0, none⟩)] #[]), (.func (.func 27) #[.pointer (some ⟨g, 0, none⟩)] #[]), (.func (.func 28) #[.pointer (some ⟨g, 0, none⟩)] #[]), (.func (.func 29) #[.pointer (some ⟨g, 0, none⟩)] #[])]) (iv 2)).run Tryd.prog W = .ok (.func (.func 28) #[.pointer (some ⟨g, 0, none⟩)] #[]) W := by kernel_rfl
theorem idx3 (g : Nat) (W : World) : (Instr.index 55 (.agg #[(.func (.func 26) #[.pointer (some ⟨g, 0, none⟩)] #[]), (.func (.func 27) #[.pointer (some ⟨g, 0, none⟩)] #[]), (.func (.func 28) #[.pointer (some ⟨g, 0, none⟩)] #[]), (.func (.func 29) #[.pointer (some ⟨g, 0, none⟩)] #[])]) (iv 3)).run Tryd.prog W = .ok (.func (.func 29) #[.pointer (some ⟨g, 0, none⟩)] #[]) W := by kernel_rfl
set_option maxRecDepth 100000 in
set_option maxHeartbeats 4000000 in
theorem readAll_is {w W : World} {g : Nat} {s : BA} (h : RQ w W g (rdc s ((0 : Nat) : Int) 0 e0 e0 false)) (hx : SX w) (hs : s.size ≤ 140000) : Calls Tryd.prog 18 #[.pointer (some ⟨g, 0, none⟩)] W (AllP w g s) := by
  have HR : Hid (RQ w W g (rdc s ((0 : Nat) : Int) 0 e0 e0 false)) := h
  have HX : Hid (SX w) := hx
  have HZ : Hid (s.size ≤ 140000) := hs
  clear h hs hx
  have x0 := idx0 g
  have x1 := idx1 g
  have x2 := idx2 g
  have x3 := idx3 g
  go_enter Tryd.func18, Tryd.ntmps18
  go_wp2
  refine wp_loop_rounds 5 ?_
  rw [rounds_succ]
  go_wp2_with fail
  refine (readStatus_is HR.out HX.out (Nat.zero_le _) HZ.out).mono ?_
  rintro e W1 (⟨v, a1, h1, rfl, hr, ha⟩ | ⟨h1, a1, v, rfl, hr⟩)
  rotate_left
  · have HR1 : Hid (RQ w W1 g (rdc s (a1 : Int) v e0 e0 false)) := hr
    have HN : Hid (∀ v rest, ¬ StOk (s.data.toList.drop 0) v rest) := h1
    clear hr h1 HR
    go_wp2
    go_ret
    exact Or.inr ⟨no_pr fun st ty bo cl l1 l2 l3 k1 k2 k3 => HN.out st l1 k1, a1, _, rfl, HR1.out⟩
  have HR1 : Hid (RQ w W1 g (rdc s (a1 : Int) v e0 e0 false)) := hr
  have HS : Hid (StOk s.data.toList v (s.data.toList.drop a1) ∧ a1 ≤ s.size) := ⟨h1, ha⟩
  clear hr h1 ha HR
  go_wp2
  rw [rounds_succ]
  go_wp2_with fail
  refine (readType_is HR1.out HS.out.2 HZ.out).mono ?_
  rintro e W2 (⟨h1, rfl, hr⟩ | ⟨h1, h2, a2, y, rfl, hr⟩ | ⟨h1, h2, a2, y, rfl, hy, hr, ha, hd⟩)
  rotate_left
  · have HR2 : Hid (RQ w W2 g (rdc s (a2 : Int) v y e0 false)) := hr
    have HN : Hid (aftB (s.data.toList.drop a1) ctL = true ∧ (lnF (aftL (s.data.toList.drop a1) ctL)).2.2 = false) := ⟨h1, h2⟩
    clear hr h1 h2 HR1
    go_wp2
    go_ret
    exact Or.inr ⟨no_pr fun st ty bo cl l1 l2 l3 k1 k2 k3 => (by
      obtain ⟨rfl, rfl⟩ := HS.out.1.one k1
      rcases k2 with ⟨k, _⟩ | ⟨k, k'⟩
      · rw [HN.out.1] at k; cases k
      · have := HN.out.2; rw [k'] at this; cases this), a2, _, rfl, HR2.out⟩
  rotate_left
  · have HR2 : Hid (RQ w W2 g (rdc s (a1 : Int) v e0 e0 false)) := hr
    have HT : Hid (TyOk (s.data.toList.drop a1) e0.data.toList (s.data.toList.drop a1) ∧ a1 ≤ s.size ∧ e0.size ≤ 140000) := ⟨.inl ⟨h1, rfl, rfl⟩, HS.out.2, by decide⟩
    obtain ⟨a2, ha2⟩ : ∃ a2, a1 = a2 := ⟨_, rfl⟩
    have HR2' : Hid (RQ w W2 g (rdc s (a2 : Int) v e0 e0 false)) := by rw [← ha2]; exact HR2
    have HT' : Hid (TyOk (s.data.toList.drop a1) e0.data.toList (s.data.toList.drop a2) ∧ a2 ≤ s.size ∧ e0.size ≤ 140000) := by rw [← ha2]; exact HT
    obtain ⟨y, hy⟩ : ∃ y, e0 = y := ⟨_, rfl⟩
    rw [hy] at HR2' HT'
    have HR3 : Hid (RQ w W2 g (rdc s (a2 : Int) v y e0 false)) := by rw [← hy] at HR2' ⊢; exact HR2'
    clear HR2' hr h1 HR1 HR2 HT ha2 hy
    go_wp2
    rw [rounds_succ]
    go_wp2_with fail
    refine (readBody_is HR3.out HX.out HT'.out.2.1 HZ.out).mono ?_
    rintro e W3 (⟨b, cl, a3, h1, rfl, hr, ha, hb⟩ | ⟨h1, a3, b, cl, rfl, hr⟩)
    rotate_left
    · have HR4 : Hid (RQ w W3 g (rdc s (a3 : Int) v y b cl)) := hr
      have HN : Hid (∀ cl b r, ¬ BdOk (s.data.toList.drop a2) cl b r) := h1
      clear hr h1 HR3
      go_wp2
      go_ret
      exact Or.inr ⟨no_pr fun st ty bo cl l1 l2 l3 k1 k2 k3 => (by
        obtain ⟨rfl, rfl⟩ := HS.out.1.one k1
        obtain ⟨rfl, rfl⟩ := HT'.out.1.one k2
        exact HN.out _ _ _ k3), a3, _, rfl, HR4.out⟩
    have HR4 : Hid (RQ w W3 g (rdc s (a3 : Int) v y b cl)) := hr
    have HB : Hid (BdOk (s.data.toList.drop a2) cl b.data.toList (s.data.toList.drop a3) ∧ a3 ≤ s.size ∧ b.size ≤ s.size) := ⟨h1, ha, hb⟩
    clear hr h1 ha hb HR3
    go_wp2
    rw [rounds_succ]
    go_wp2_with fail
    refine (compare_is HR4.out HB.out.2.1 HZ.out (Nat.le_trans HT'.out.2.2 (by decide)) (Nat.le_trans (Nat.le_trans HB.out.2.2 HZ.out) (by decide))).mono ?_
    rintro e W4 ⟨hr, (⟨h1, h2, rfl⟩ | ⟨h1, rfl⟩)⟩
    · have HR5 : Hid (RQ w W4 g (rdc s (a3 : Int) v y b cl)) := hr
      have HE : Hid ((prL v y b cl).2 = 0 ∧ (prL v y b cl).1 = s.data.toList.take a3) := ⟨h1, h2⟩
      clear hr h1 h2 HR4
      go_wp2
      rw [rounds_succ]
      go_wp2
      go_ret
      exact Or.inl ⟨v, y, b, cl, a3, rfl, HR5.out, HE.out.1, HE.out.2, HB.out.2.1⟩
    · have HR5 : Hid (RQ w W4 g (rdc s (a3 : Int) v y b cl)) := hr
      have HE : Hid (¬ ((prL v y b cl).2 = 0 ∧ (prL v y b cl).1 = s.data.toList.take a3)) := h1
      clear hr h1 HR4
      go_wp2
      go_ret
      refine Or.inr ⟨fun st ty bo cl' h0 => ?_, a3, _, rfl, HR5.out⟩
      cases hc : aftB s.data.toList (prL st ty bo cl').1 with
      | false => rfl
      | true =>
        exfalso
        obtain ⟨l1, l2, l3, k1, k2, k3, k4⟩ := chain h0 hc
        obtain ⟨rfl, rfl⟩ := HS.out.1.one k1
        obtain ⟨k5, rfl⟩ := HT'.out.1.one k2
        obtain ⟨rfl, k6, rfl⟩ := HB.out.1.one k3
        obtain rfl : y = ty := ba_ext k5
        obtain rfl : b = bo := ba_ext k6
        refine HE.out ⟨h0, ?_⟩
        exact List.append_cancel_right (k4.trans (List.take_append_drop a3 s.data.toList).symm)
  · have HR3 : Hid (RQ w W2 g (rdc s (a2 : Int) v y e0 false)) := hr
    have HT' : Hid (TyOk (s.data.toList.drop a1) y.data.toList (s.data.toList.drop a2) ∧ a2 ≤ s.size ∧ y.size ≤ 140000) := by
      refine ⟨.inr ⟨h1, ?_⟩, ha, ?_⟩
      · rw [hy, hd, ← h2]
      · show y.data.toList.length ≤ _
        rw [hy]
        have k1 := cut_sz (aftL (s.data.toList.drop a1) ctL) crL
        have k2 : (aftL (s.data.toList.drop a1) ctL).length ≤ s.size := by
          unfold aftL
          have h3 : s.data.toList.length = s.size := rfl
          split <;> (simp only [List.length_drop]; omega)
        have := HZ.out
        exact Nat.le_trans k1 (by omega)
    clear hr h1 h2 hy hd ha HR1
    go_wp2
    rw [rounds_succ]
    go_wp2_with fail
    refine (readBody_is HR3.out HX.out HT'.out.2.1 HZ.out).mono ?_
    rintro e W3 (⟨b, cl, a3, h1, rfl, hr, ha, hb⟩ | ⟨h1, a3, b, cl, rfl, hr⟩)
    rotate_left
    · have HR4 : Hid (RQ w W3 g (rdc s (a3 : Int) v y b cl)) := hr
      have HN : Hid (∀ cl b r, ¬ BdOk (s.data.toList.drop a2) cl b r) := h1
      clear hr h1 HR3
      go_wp2
      go_ret
      exact Or.inr ⟨no_pr fun st ty bo cl l1 l2 l3 k1 k2 k3 => (by
        obtain ⟨rfl, rfl⟩ := HS.out.1.one k1
        obtain ⟨rfl, rfl⟩ := HT'.out.1.one k2
        exact HN.out _ _ _ k3), a3, _, rfl, HR4.out⟩
    have HR4 : Hid (RQ w W3 g (rdc s (a3 : Int) v y b cl)) := hr
    have HB : Hid (BdOk (s.data.toList.drop a2) cl b.data.toList (s.data.toList.drop a3) ∧ a3 ≤ s.size ∧ b.size ≤ s.size) := ⟨h1, ha, hb⟩
    clear hr h1 ha hb HR3
    go_wp2
    rw [rounds_succ]
    go_wp2_with fail
    refine (compare_is HR4.out HB.out.2.1 HZ.out (Nat.le_trans HT'.out.2.2 (by decide)) (Nat.le_trans (Nat.le_trans HB.out.2.2 HZ.out) (by decide))).mono ?_
    rintro e W4 ⟨hr, (⟨h1, h2, rfl⟩ | ⟨h1, rfl⟩)⟩
    · have HR5 : Hid (RQ w W4 g (rdc s (a3 : Int) v y b cl)) := hr
      have HE : Hid ((prL v y b cl).2 = 0 ∧ (prL v y b cl).1 = s.data.toList.take a3) := ⟨h1, h2⟩
      clear hr h1 h2 HR4
      go_wp2
      rw [rounds_succ]
      go_wp2
      go_ret
      exact Or.inl ⟨v, y, b, cl, a3, rfl, HR5.out, HE.out.1, HE.out.2, HB.out.2.1⟩
    · have HR5 : Hid (RQ w W4 g (rdc s (a3 : Int) v y b cl)) := hr
      have HE : Hid (¬ ((prL v y b cl).2 = 0 ∧ (prL v y b cl).1 = s.data.toList.take a3)) := h1
      clear hr h1 HR4
      go_wp2
      go_ret
      refine Or.inr ⟨fun st ty bo cl' h0 => ?_, a3, _, rfl, HR5.out⟩
      cases hc : aftB s.data.toList (prL st ty bo cl').1 with
      | false => rfl
      | true =>
        exfalso
        obtain ⟨l1, l2, l3, k1, k2, k3, k4⟩ := chain h0 hc
        obtain ⟨rfl, rfl⟩ := HS.out.1.one k1
        obtain ⟨k5, rfl⟩ := HT'.out.1.one k2
        obtain ⟨rfl, k6, rfl⟩ := HB.out.1.one k3
        obtain rfl : y = ty := ba_ext k5
        obtain rfl : b = bo := ba_ext k6
        refine HE.out ⟨h0, ?_⟩
        exact List.append_cancel_right (k4.trans (List.take_append_drop a3 s.data.toList).symm)
#print axioms readAll_is
end Go.Proofs.YtkpepfeiimphpaaDoor.Oct
