/-
  Layer 2 (hash): 'Unhex', and what is read of what 'Hex' tells.
-/
import Derived.Test.YtgpndgajmmbjhabDoorHex
import Derived.Deep.Draws
namespace Go.Proofs.YtgpndgajmmbjhabDoor.Oct
open Go.RowKit Sha

def dv (c : UInt8) : Option Nat := if 48 ≤ c.toNat ∧ c.toNat ≤ 57 then some (c.toNat - 48) else if 97 ≤ c.toNat ∧ c.toNat ≤ 102 then some (c.toNat - 87) else none
def pairOf (a b : UInt8) : Option UInt8 := (dv a).bind fun x => (dv b).map fun y => UInt8.ofNat (16 * x + y)
def unhexL : List UInt8 → Option (List UInt8)
  | [] => some []
  | [_] => none
  | a :: b :: r => (pairOf a b).bind fun c => (unhexL r).map (c :: ·)
theorem unhexL_append : ∀ (p q : List UInt8), p.length % 2 = 0 → unhexL (p ++ q) = (unhexL p).bind fun o => (unhexL q).map (o ++ ·)
  | [], q, _ => by simp [unhexL]
  | [_], _, h => by simp at h
  | a :: b :: r, q, h => by
    have ih := unhexL_append r q (by simp at h; omega)
    simp only [List.cons_append, unhexL, ih]
    cases pairOf a b <;> cases unhexL r <;> cases unhexL q <;> simp
theorem unhexL_odd : ∀ p : List UInt8, p.length % 2 = 1 → unhexL p = none
  | [], h => by simp at h
  | [_], _ => rfl
  | a :: b :: r, h => by
    have ih := unhexL_odd r (by simp at h; omega)
    simp [unhexL, ih]
theorem dv_lt {a : UInt8} {x : Nat} (h : dv a = some x) : x < 16 := by
  unfold dv at h
  split at h
  · have := Option.some.inj h; omega
  · split at h
    · have := Option.some.inj h; omega
    · cases h
theorem dv_digit : ∀ x : Fin 16, dv (digits.getD x.val 0) = some x.val := by decide +kernel
theorem digit_dv : ∀ a : Fin 256, (dv (UInt8.ofNat a.val)).all (fun x => digits.getD x 0 == UInt8.ofNat a.val) = true := by decide +kernel
theorem digit_of {a : UInt8} {x : Nat} (h : dv a = some x) : digits.getD x 0 = a := by
  have e := digit_dv ⟨a.toNat, a.toNat_lt⟩
  simp only [UInt8.ofNat_toNat, h, Option.all_some, beq_iff_eq] at e
  exact e
theorem ofNat16 {x y : Nat} (hx : x < 16) (hy : y < 16) : (UInt8.ofNat (16 * x + y)).toNat = 16 * x + y := by
  rw [UInt8.toNat_ofNat']; omega
theorem unhex_hex : ∀ l : List UInt8, unhexL (hexOf l) = some l
  | [] => rfl
  | c :: l => by
    have hc := c.toNat_lt
    have h1 := dv_digit ⟨c.toNat / 16, by omega⟩
    have h2 := dv_digit ⟨c.toNat % 16, by omega⟩
    have e : UInt8.ofNat (16 * (c.toNat / 16) + c.toNat % 16) = c := by rw [show 16 * (c.toNat / 16) + c.toNat % 16 = c.toNat by omega, UInt8.ofNat_toNat]
    simp only at h1 h2
    simp only [hexOf, unhexL, pairOf, h1, h2, unhex_hex l, Option.bind_some, Option.map_some, e]
theorem hex_unhex : ∀ (s o : List UInt8), unhexL s = some o → hexOf o = s
  | [], o, h => by
    have := Option.some.inj h
    subst this; rfl
  | [_], _, h => by simp [unhexL] at h
  | a :: b :: r, o, h => by
    simp only [unhexL, pairOf, Option.bind_eq_some_iff, Option.map_eq_some_iff] at h
    obtain ⟨c, ⟨x, hx, y, hy, rfl⟩, o', ho, rfl⟩ := h
    have ih := hex_unhex r o' ho
    have hx1 := dv_lt hx
    have hy1 := dv_lt hy
    simp only [hexOf, ofNat16 hx1 hy1, ih]
    rw [show (16 * x + y) / 16 = x by omega, show (16 * x + y) % 16 = y by omega, digit_of hx, digit_of hy]

theorem digitValue_is (c : UInt8) (w : World) : Calls Tryd.prog 27 #[.int .u8 (c.toNat : Int)] w fun e w' => e = .returned (.tuple #[.int .u8 (((dv c).getD 0 : Nat) : Int), .bool (dv c).isSome]) ∧ w = w' := by
  have hc := c.toNat_lt
  unfold dv
  generalize c.toNat = X at *
  by_cases h1 : 48 ≤ X
  · by_cases h2 : X ≤ 57
    · rw [if_pos ⟨h1, h2⟩]
      have q1 : (48 : Int) ≤ (X : Int) := by omega
      have q2 : (X : Int) ≤ 57 := by omega
      go_enter Tryd.func27, Tryd.ntmps27
      go_wp2
      go_ret2
      refine ⟨?_, rfl⟩
      have : ((X - 48 : Nat) : Int) = (X : Int) - 48 := by omega
      simp [this]
    · rw [if_neg (by omega)]
      have q1 : (48 : Int) ≤ (X : Int) := by omega
      have q2 : (57 : Int) < (X : Int) := by omega
      by_cases h3 : 97 ≤ X
      · by_cases h4 : X ≤ 102
        · rw [if_pos ⟨h3, h4⟩]
          have q3 : (97 : Int) ≤ (X : Int) := by omega
          have q4 : (X : Int) ≤ 102 := by omega
          go_enter Tryd.func27, Tryd.ntmps27
          go_wp2
          go_ret2
          refine ⟨?_, rfl⟩
          have : ((X - 87 : Nat) : Int) = (X : Int) - 97 + 10 := by omega
          simp [this]
        · rw [if_neg (by omega)]
          have q3 : (97 : Int) ≤ (X : Int) := by omega
          have q4 : (102 : Int) < (X : Int) := by omega
          go_enter Tryd.func27, Tryd.ntmps27
          go_wp2
          go_ret2
          exact ⟨rfl, rfl⟩
      · rw [if_neg (by omega)]
        have q3 : (X : Int) < 97 := by omega
        go_enter Tryd.func27, Tryd.ntmps27
        go_wp2
        go_ret2
        exact ⟨rfl, rfl⟩
  · rw [if_neg (by omega), if_neg (by omega)]
    have q1 : (X : Int) < 48 := by omega
    have q3 : (X : Int) < 97 := by omega
    go_enter Tryd.func27, Tryd.ntmps27
    go_wp2
    go_ret2
    exact ⟨rfl, rfl⟩

theorem dv_none {c : UInt8} (h : ∀ j, j < 16 → digits.getD j 0 ≠ c) : dv c = none := by
  cases hd : dv c with
  | none => rfl
  | some x => exact absurd (digit_of hd) (h x (dv_lt hd))

theorem digit_is (c : UInt8) (w : World) : Calls Tryd.prog 28 #[.int .u8 (c.toNat : Int)] w fun e w' => e = .returned (.int .i64 (((dv c).getD 16 : Nat) : Int)) ∧ w = w' := by
  go_enter Tryd.func28, Tryd.ntmps28
  go_wp2_with fail
  go_loopw [3] (fun i wr => ∃ t : Nat, i = .int .i64 t ∧ t ≤ 16 ∧ Hid (∀ j, j < t → digits.getD j 0 ≠ c) ∧ w = wr) (fun i _ => 16 - (intOf i).toNat)
  case atStart => exact ⟨0, rfl, by omega, fun j hj => absurd hj (by omega), rfl⟩
  case round =>
    obtain ⟨t, rfl, ht, hh, rfl⟩ := hrel
    by_cases hlt : t = 16
    · have q1 : (16 : Int) ≤ (t : Int) := by omega
      subst hlt
      go_wp2
      go_ret
      refine ⟨?_, rfl⟩
      rw [dv_none hh.out]
      rfl
    · have q1 : (t : Int) < 16 := by omega
      have HT : Hid (t < 16) := by show t < 16; omega
      have q2 : t < 16 := by omega
      have hg := digits_at t
      have HDD : Hid (dv (digits.getD t 0) = some t) := dv_digit ⟨t, q2⟩
      have HH : Hid (∀ j, j < t → digits.getD j 0 ≠ c) := hh
      generalize hd : digits.getD t 0 = d at hg HDD
      have HDC : Hid (digits.getD t 0 = d) := hd
      clear hlt hh hd
      by_cases he : d = c
      · subst he
        go_wp2
        go_ret
        refine ⟨?_, rfl⟩
        rw [HDD.out]
        rfl
      · have hne : ¬ (d.toNat : Int) = (c.toNat : Int) := by intro h; exact he (UInt8.toNat_inj.1 (by omega))
        have hne2 : ¬ d.toNat = c.toNat := by intro h; exact he (UInt8.toNat_inj.1 h)
        have HE : Hid (¬ d = c) := he
        clear he
        go_wp2
        refine ⟨⟨t + 1, by simp, HT.out, ?_, trivial⟩, ?_⟩
        · intro j hj
          rcases Nat.lt_or_ge j t with h | h
          · exact HH.out j h
          · rw [show j = t by omega, HDC.out]; exact HE.out
        · have := HT.out
          simp only [intOf]
          omega

#print axioms digit_is
end Go.Proofs.YtgpndgajmmbjhabDoor.Oct
