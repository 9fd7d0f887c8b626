/-
  Layer 4 (frame): a byte that is another one turns the sum; numbers in four bytes.
-/
import Derived.Test.YtchblcfbllcbmabSums
namespace Go.Proofs.Ytchblcfbllcbmab.Oct
open Go.RowKit

theorem xor_cancel {x y c : UInt32} (h : x ^^^ c = y ^^^ c) : x = y := by
  have e := congrArg (· ^^^ c) h
  simpa [UInt32.xor_assoc] using e
theorem step_top (x : UInt32) : (step x).toNat.testBit 31 = decide (x.toNat % 2 = 1) := by
  have hx := lt32 x
  have hh : (UInt32.ofNat (x.toNat / 2)).toNat = x.toNat / 2 := toNat32 (by omega)
  have ht : (x.toNat / 2).testBit 31 = false := Nat.testBit_lt_two_pow (by omega)
  by_cases h : x.toNat % 2 = 1
  · rw [step_odd h, UInt32.toNat_xor, hh, Nat.testBit_xor, ht, show poly.toNat.testBit 31 = true by decide]
    simp [h]
  · rw [step_even h, hh, ht]
    simp [h]
theorem step_inj {x y : UInt32} (h : step x = step y) : x = y := by
  have hx := lt32 x
  have hy := lt32 y
  have ex : (UInt32.ofNat (x.toNat / 2)).toNat = x.toNat / 2 := toNat32 (by omega)
  have ey : (UInt32.ofNat (y.toNat / 2)).toNat = y.toNat / 2 := toNat32 (by omega)
  have hp : decide (x.toNat % 2 = 1) = decide (y.toNat % 2 = 1) := by rw [← step_top, ← step_top, h]
  have hp' : x.toNat % 2 = 1 ↔ y.toNat % 2 = 1 := by simpa using hp
  apply UInt32.toNat_inj.1
  by_cases hx1 : x.toNat % 2 = 1
  · have hy1 := hp'.1 hx1
    rw [step_odd hx1, step_odd hy1] at h
    have e := congrArg UInt32.toNat (xor_cancel h)
    rw [ex, ey] at e
    omega
  · have hy1 : ¬ y.toNat % 2 = 1 := fun hh => hx1 (hp'.2 hh)
    rw [step_even hx1, step_even hy1] at h
    have e := congrArg UInt32.toNat h
    rw [ex, ey] at e
    omega
theorem steps_inj {x y : UInt32} : ∀ n, steps x n = steps y n → x = y
  | 0, h => h
  | n + 1, h => steps_inj n (step_inj h)
theorem upd_inj {x y : UInt32} {c : UInt8} (h : upd x c = upd y c) : x = y := xor_cancel (steps_inj 8 h)
theorem upd_byte {x : UInt32} {c d : UInt8} (h : upd x c = upd x d) : c = d := by
  have e := steps_inj 8 h
  rw [UInt32.xor_comm x, UInt32.xor_comm x] at e
  have e2 := congrArg UInt32.toNat (xor_cancel e)
  have hc := c.toNat_lt
  have hd := d.toNat_lt
  rw [toNat32 (by omega), toNat32 (by omega)] at e2
  exact UInt8.toNat_inj.1 e2
theorem foldl_inj : ∀ (l : List UInt8) {x y : UInt32}, l.foldl upd x = l.foldl upd y → x = y
  | [], _, _, h => h
  | _ :: l, _, _, h => upd_inj (foldl_inj l h)
theorem fold_set : ∀ (l : List UInt8) (x : UInt32) (p : Nat) (d : UInt8) (hp : p < l.length), d ≠ l[p] → (l.set p d).foldl upd x ≠ l.foldl upd x
  | c :: l, x, 0, d, _, h => fun e => h (upd_byte (foldl_inj l e))
  | c :: l, x, p + 1, d, hp, h => fold_set l (upd x c) p d (by simpa using hp) (by simpa using h)
theorem crc_set {l : List UInt8} {p : Nat} {d : UInt8} (hp : p < l.length) (h : d ≠ l[p]) : crc (l.set p d) ≠ crc l := by
  intro e
  exact fold_set l _ p d hp h (xor_cancel e)

/-- the number that four bytes tell -/
def num4 (l : List UInt8) : Nat := ((l.getD 0 0).toNat * 256 + (l.getD 1 0).toNat) * 65536 + ((l.getD 2 0).toNat * 256 + (l.getD 3 0).toNat)
theorem num4_lt (l : List UInt8) : num4 l < 4294967296 := by
  have h0 := (l.getD 0 0).toNat_lt
  have h1 := (l.getD 1 0).toNat_lt
  have h2 := (l.getD 2 0).toNat_lt
  have h3 := (l.getD 3 0).toNat_lt
  unfold num4
  omega
theorem num4_be4 {n : Nat} (h : n < 4294967296) : num4 (be4 n) = n := by
  have e0 : ((be4 n).getD 0 0).toNat = n / 16777216 % 256 := UInt8.toNat_ofNat'
  have e1 : ((be4 n).getD 1 0).toNat = n / 65536 % 256 := UInt8.toNat_ofNat'
  have e2 : ((be4 n).getD 2 0).toNat = n / 256 % 256 := UInt8.toNat_ofNat'
  have e3 : ((be4 n).getD 3 0).toNat = n % 256 := UInt8.toNat_ofNat'
  unfold num4
  rw [e0, e1, e2, e3]
  omega
theorem num4_set {l : List UInt8} (hl : l.length = 4) {p : Nat} (hp : p < 4) {d : UInt8} (h : d ≠ l.getD p 0) : num4 (l.set p d) ≠ num4 l := by
  match l, hl with
  | [a, b, c, e], _ =>
    have ha := a.toNat_lt
    have hb := b.toNat_lt
    have hc := c.toNat_lt
    have he := e.toNat_lt
    have hd := d.toNat_lt
    have hcase : p = 0 ∨ p = 1 ∨ p = 2 ∨ p = 3 := by omega
    rcases hcase with rfl | rfl | rfl | rfl
    · have h2 : d.toNat ≠ a.toNat := fun e => h (UInt8.toNat_inj.1 e)
      simp [num4]; omega
    · have h2 : d.toNat ≠ b.toNat := fun e => h (UInt8.toNat_inj.1 e)
      simp [num4]; omega
    · have h2 : d.toNat ≠ c.toNat := fun e => h (UInt8.toNat_inj.1 e)
      simp [num4]; omega
    · have h2 : d.toNat ≠ e.toNat := fun e => h (UInt8.toNat_inj.1 e)
      simp [num4]; omega
#print axioms crc_set
end Go.Proofs.Ytchblcfbllcbmab.Oct
