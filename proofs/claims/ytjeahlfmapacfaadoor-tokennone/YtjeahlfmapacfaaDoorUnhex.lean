/-
  Layer 2 (hash): 'Unhex', and what is read of what 'Hex' tells.
-/
import Derived.Test.YtjeahlfmapacfaaDoorHex
import Derived.Deep.Draws
namespace Go.Proofs.YtjeahlfmapacfaaDoor.Oct
open Go.RowKit Sha

def dv (c : UInt8) : Option Nat := if 48 ≤ c.toNat ∧ c.toNat ≤ 57 then some (c.toNat - 48) else if 97 ≤ c.toNat ∧ c.toNat ≤ 102 then some (c.toNat - 87) else none
def pairOf (a b : UInt8) : Option UInt8 := (dv a).bind fun x => (dv b).map fun y => UInt8.ofNat (16 * x + y)
def unhexL : List UInt8 → Option (List UInt8)
  | [] => some []
  | [_] => none
  | a :: b :: r => (pairOf a b).bind fun c => (unhexL r).map (c :: ·)
theorem unhexL_append : ∀ (p q : List UInt8), p.length % 2 = 0 → unhexL (p ++ q) = (unhexL p).bind fun o => (unhexL q).map (o ++ ·)
  | [], q, _ => by simp [unhexL]
  | [_], _, h => by simp at h
  | a :: b :: r, q, h => by
    have ih := unhexL_append r q (by simp at h; omega)
    simp only [List.cons_append, unhexL, ih]
    cases pairOf a b <;> cases unhexL r <;> cases unhexL q <;> simp
theorem unhexL_odd : ∀ p : List UInt8, p.length % 2 = 1 → unhexL p = none
  | [], h => by simp at h
  | [_], _ => rfl
  | a :: b :: r, h => by
    have ih := unhexL_odd r (by simp at h; omega)
    simp [unhexL, ih]
theorem dv_lt {a : UInt8} {x : Nat} (h : dv a = some x) : x < 16 := by
  unfold dv at h
  split at h
  · have := Option.some.inj h; omega
  · split at h
    · have := Option.some.inj h; omega
    · cases h
theorem dv_digit : ∀ x : Fin 16, dv (digits.getD x.val 0) = some x.val := by decide +kernel
theorem digit_dv : ∀ a : Fin 256, (dv (UInt8.ofNat a.val)).all (fun x => digits.getD x 0 == UInt8.ofNat a.val) = true := by decide +kernel
theorem digit_of {a : UInt8} {x : Nat} (h : dv a = some x) : digits.getD x 0 = a := by
  have e := digit_dv ⟨a.toNat, a.toNat_lt⟩
  simp only [UInt8.ofNat_toNat, h, Option.all_some, beq_iff_eq] at e
  exact e
theorem ofNat16 {x y : Nat} (hx : x < 16) (hy : y < 16) : (UInt8.ofNat (16 * x + y)).toNat = 16 * x + y := by
  rw [UInt8.toNat_ofNat']; omega
theorem unhex_hex : ∀ l : List UInt8, unhexL (hexOf l) = some l
  | [] => rfl
  | c :: l => by
    have hc := c.toNat_lt
    have h1 := dv_digit ⟨c.toNat / 16, by omega⟩
    have h2 := dv_digit ⟨c.toNat % 16, by omega⟩
    have e : UInt8.ofNat (16 * (c.toNat / 16) + c.toNat % 16) = c := by rw [show 16 * (c.toNat / 16) + c.toNat % 16 = c.toNat by omega, UInt8.ofNat_toNat]
    simp only at h1 h2
    simp only [hexOf, unhexL, pairOf, h1, h2, unhex_hex l, Option.bind_some, Option.map_some, e]
theorem hex_unhex : ∀ (s o : List UInt8), unhexL s = some o → hexOf o = s
  | [], o, h => by
    have := Option.some.inj h
    subst this; rfl
  | [_], _, h => by simp [unhexL] at h
  | a :: b :: r, o, h => by
    simp only [unhexL, pairOf, Option.bind_eq_some_iff, Option.map_eq_some_iff] at h
    obtain ⟨c, ⟨x, hx, y, hy, rfl⟩, o', ho, rfl⟩ := h
    have ih := hex_unhex r o' ho
    have hx1 := dv_lt hx
    have hy1 := dv_lt hy
    simp only [hexOf, ofNat16 hx1 hy1, ih]
    rw [show (16 * x + y) / 16 = x by omega, show (16 * x + y) % 16 = y by omega, digit_of hx, digit_of hy]

theorem digitValue_is (c : UInt8) (w : World) : Calls Tryd.prog 53 #[.int .u8 (c.toNat : Int)] w fun e w' => e = .returned (.tuple #[.int .u8 (((dv c).getD 0 : Nat) : Int), .bool (dv c).isSome]) ∧ w = w' := by
  have hc := c.toNat_lt
  unfold dv
  generalize c.toNat = X at *
  by_cases h1 : 48 ≤ X
  · by_cases h2 : X ≤ 57
    · rw [if_pos ⟨h1, h2⟩]
      have q1 : (48 : Int) ≤ (X : Int) := by omega
      have q2 : (X : Int) ≤ 57 := by omega
      go_enter Tryd.func53, Tryd.ntmps53
      go_wp2
      go_ret2
      refine ⟨?_, rfl⟩
      have : ((X - 48 : Nat) : Int) = (X : Int) - 48 := by omega
      simp [this]
    · rw [if_neg (by omega)]
      have q1 : (48 : Int) ≤ (X : Int) := by omega
      have q2 : (57 : Int) < (X : Int) := by omega
      by_cases h3 : 97 ≤ X
      · by_cases h4 : X ≤ 102
        · rw [if_pos ⟨h3, h4⟩]
          have q3 : (97 : Int) ≤ (X : Int) := by omega
          have q4 : (X : Int) ≤ 102 := by omega
          go_enter Tryd.func53, Tryd.ntmps53
          go_wp2
          go_ret2
          refine ⟨?_, rfl⟩
          have : ((X - 87 : Nat) : Int) = (X : Int) - 97 + 10 := by omega
          simp [this]
        · rw [if_neg (by omega)]
          have q3 : (97 : Int) ≤ (X : Int) := by omega
          have q4 : (102 : Int) < (X : Int) := by omega
          go_enter Tryd.func53, Tryd.ntmps53
          go_wp2
          go_ret2
          exact ⟨rfl, rfl⟩
      · rw [if_neg (by omega)]
        have q3 : (X : Int) < 97 := by omega
        go_enter Tryd.func53, Tryd.ntmps53
        go_wp2
        go_ret2
        exact ⟨rfl, rfl⟩
  · rw [if_neg (by omega), if_neg (by omega)]
    have q1 : (X : Int) < 48 := by omega
    have q3 : (X : Int) < 97 := by omega
    go_enter Tryd.func53, Tryd.ntmps53
    go_wp2
    go_ret2
    exact ⟨rfl, rfl⟩

end Go.Proofs.YtjeahlfmapacfaaDoor.Oct
