/-
  Layer 11 (lines): how many ones a word has.
  Layer 11 (lines): words as sets of numbers.
-/
import Derived.Test.YtjcihaohpbmogaaQeBG
import Derived.Lib.QuoteBits
/- Layer 11 (lines): how many ones a word has. -/
namespace Go.Proofs.Ytjcihaohpbmogaa.Oct
open Go.RowKit
set_option maxRecDepth 100000
set_option linter.unusedSimpArgs false
set_option linter.unusedVariables false
set_option linter.unusedSectionVars false

theorem and_split (c x M m : Nat) (hm : m < 2 ^ c) : x &&& (2 ^ c * M + m) = 2 ^ c * (x / 2 ^ c &&& M) + (x % 2 ^ c &&& m) := by
  have h1 : (2 ^ c * M + m) / 2 ^ c = M := by
    rw [Nat.mul_add_div (Nat.two_pow_pos c), Nat.div_eq_of_lt hm, Nat.add_zero]
  have h2 : (2 ^ c * M + m) % 2 ^ c = m := by
    rw [Nat.mul_add_mod, Nat.mod_eq_of_lt hm]
  have h3 := Nat.div_add_mod (x &&& (2 ^ c * M + m)) (2 ^ c)
  rw [Nat.and_div_two_pow, Nat.and_mod_two_pow, h1, h2] at h3
  exact h3.symm
def msk (b : Nat) : Nat → Nat
  | 0 => 0
  | k + 1 => 2 ^ (2 * b) * msk b k + (2 ^ b - 1)
/-- the sum of k digits of b bits -/
def dg (b : Nat) : Nat → Nat → Nat
  | 0, _ => 0
  | k + 1, x => x % 2 ^ b + dg b k (x / 2 ^ b)
/-- each of them at most c -/
def bd (b c : Nat) : Nat → Nat → Prop
  | 0, _ => True
  | k + 1, x => x % 2 ^ b ≤ c ∧ bd b c k (x / 2 ^ b)
def fh (b k x : Nat) : Nat := (x / 2 ^ b &&& msk b k) + (x &&& msk b k)
theorem low_lt (b : Nat) : 2 ^ b - 1 < 2 ^ (2 * b) := by
  have h1 : 2 ^ b ≤ 2 ^ (2 * b) := Nat.pow_le_pow_right (by omega) (by omega)
  have h2 := Nat.two_pow_pos b
  omega
theorem mod_low (b x : Nat) : x % 2 ^ (2 * b) &&& (2 ^ b - 1) = x % 2 ^ b := by
  rw [Nat.and_two_pow_sub_one_eq_mod]
  exact Nat.mod_mod_of_dvd x (Nat.pow_dvd_pow 2 (by omega))
theorem fh_succ (b k x : Nat) : fh b (k + 1) x = 2 ^ (2 * b) * fh b k (x / 2 ^ (2 * b)) + (x / 2 ^ b % 2 ^ b + x % 2 ^ b) := by
  unfold fh
  rw [show msk b (k + 1) = 2 ^ (2 * b) * msk b k + (2 ^ b - 1) from rfl, and_split _ _ _ _ (low_lt b), and_split _ _ _ _ (low_lt b), mod_low, mod_low, Nat.div_div_eq_div_mul, Nat.mul_comm (2 ^ b), ← Nat.div_div_eq_div_mul, Nat.mul_add]
  omega
theorem pow2b (b : Nat) : 2 ^ (2 * b) = 2 ^ b * 2 ^ b := by rw [Nat.two_mul, Nat.pow_add]
theorem digit_lt {b : Nat} (hb : 1 ≤ b) (x : Nat) : x / 2 ^ b % 2 ^ b + x % 2 ^ b < 2 ^ (2 * b) := by
  have h1 := Nat.mod_lt (x / 2 ^ b) (Nat.two_pow_pos b)
  have h2 := Nat.mod_lt x (Nat.two_pow_pos b)
  have h3 : 2 ≤ 2 ^ b := by
    have : 2 ^ 1 ≤ 2 ^ b := Nat.pow_le_pow_right (by omega) hb
    simpa using this
  have h4 : 2 * 2 ^ b ≤ 2 ^ b * 2 ^ b := Nat.mul_le_mul_right _ h3
  rw [pow2b]
  omega
theorem fh_dg {b : Nat} (hb : 1 ≤ b) : ∀ (k x : Nat), dg (2 * b) k (fh b k x) = dg b (2 * k) x
  | 0, x => rfl
  | k + 1, x => by
    have hl := digit_lt hb x
    rw [fh_succ]
    show (2 ^ (2 * b) * fh b k (x / 2 ^ (2 * b)) + (x / 2 ^ b % 2 ^ b + x % 2 ^ b)) % 2 ^ (2 * b) + dg (2 * b) k ((2 ^ (2 * b) * fh b k (x / 2 ^ (2 * b)) + (x / 2 ^ b % 2 ^ b + x % 2 ^ b)) / 2 ^ (2 * b)) = _
    rw [Nat.mul_add_mod, Nat.mod_eq_of_lt hl, Nat.mul_add_div (Nat.two_pow_pos _), Nat.div_eq_of_lt hl, Nat.add_zero, fh_dg hb k]
    show _ = x % 2 ^ b + (x / 2 ^ b % 2 ^ b + dg b (2 * k) (x / 2 ^ b / 2 ^ b))
    rw [Nat.div_div_eq_div_mul, ← pow2b]
    omega
theorem fh_bd {b c : Nat} (hb : 1 ≤ b) : ∀ (k x : Nat), bd b c (2 * k) x → bd (2 * b) (2 * c) k (fh b k x)
  | 0, x, _ => trivial
  | k + 1, x, h => by
    have hl := digit_lt hb x
    have h : x % 2 ^ b ≤ c ∧ x / 2 ^ b % 2 ^ b ≤ c ∧ bd b c (2 * k) (x / 2 ^ b / 2 ^ b) := h
    rw [fh_succ]
    show (2 ^ (2 * b) * fh b k (x / 2 ^ (2 * b)) + (x / 2 ^ b % 2 ^ b + x % 2 ^ b)) % 2 ^ (2 * b) ≤ 2 * c ∧ bd (2 * b) (2 * c) k ((2 ^ (2 * b) * fh b k (x / 2 ^ (2 * b)) + (x / 2 ^ b % 2 ^ b + x % 2 ^ b)) / 2 ^ (2 * b))
    rw [Nat.mul_add_mod, Nat.mod_eq_of_lt hl, Nat.mul_add_div (Nat.two_pow_pos _), Nat.div_eq_of_lt hl, Nat.add_zero]
    refine ⟨by omega, fh_bd hb k _ ?_⟩
    have h2 := h.2.2
    rw [Nat.div_div_eq_div_mul, ← pow2b] at h2
    exact h2
theorem bd_one : ∀ (k x : Nat), bd 1 1 k x
  | 0, _ => trivial
  | k + 1, x => ⟨by have := Nat.mod_lt x (show 0 < 2 by omega); show x % 2 ^ 1 ≤ 1; rw [Nat.pow_one]; omega, bd_one k _⟩
def gh (k x : Nat) : Nat := (x / 16 + x) &&& msk 4 k
theorem gh_succ (k x : Nat) (h : bd 4 4 (2 * (k + 1)) x) : gh (k + 1) x = 256 * gh k (x / 256) + (x / 16 % 16 + x % 16) := by
  have h : x % 16 ≤ 4 ∧ x / 16 % 16 ≤ 4 ∧ bd 4 4 (2 * k) (x / 16 / 16) := h
  unfold gh
  rw [show msk 4 (k + 1) = 2 ^ 8 * msk 4 k + 15 from rfl, and_split 8 _ _ 15 (by decide)]
  have e1 : (x / 16 + x) % 2 ^ 8 &&& 15 = x / 16 % 16 + x % 16 := by
    rw [show (15 : Nat) = 2 ^ 4 - 1 from rfl, Nat.and_two_pow_sub_one_eq_mod]
    omega
  rw [e1]
  cases k with
  | zero => simp [msk]
  | succ k =>
    have h3 : x / 16 / 16 % 16 ≤ 4 := h.2.2.1
    have e2 : (x / 16 + x) / 2 ^ 8 = x / 256 / 16 + x / 256 := by
      have hg : x / 256 = x / 16 / 16 := by rw [Nat.div_div_eq_div_mul]
      rw [hg]
      have a1 := Nat.div_add_mod x 16
      have a2 := Nat.div_add_mod (x / 16) 16
      have a3 := Nat.div_add_mod (x / 16 / 16) 16
      have a4 := h.1
      have a5 := h.2.1
      generalize x % 16 = l at *
      generalize x / 16 = a at *
      generalize a % 16 = h' at *
      generalize a / 16 = b at *
      generalize b % 16 = r at *
      generalize b / 16 = q at *
      have : a + x = 256 * (q + b) + (16 * r + 17 * h' + l) := by omega
      omega
    rw [e2]
theorem gh_dg : ∀ (k x : Nat), bd 4 4 (2 * k) x → dg 8 k (gh k x) = dg 4 (2 * k) x ∧ bd 8 8 k (gh k x)
  | 0, x, _ => ⟨rfl, trivial⟩
  | k + 1, x, h => by
    rw [gh_succ k x h]
    have h : x % 16 ≤ 4 ∧ x / 16 % 16 ≤ 4 ∧ bd 4 4 (2 * k) (x / 16 / 16) := h
    have h2 : bd 4 4 (2 * k) (x / 256) := by
      have := h.2.2
      rw [Nat.div_div_eq_div_mul] at this
      exact this
    have ih := gh_dg k (x / 256) h2
    have e1 : (256 * gh k (x / 256) + (x / 16 % 16 + x % 16)) % 256 = x / 16 % 16 + x % 16 := by omega
    have e2 : (256 * gh k (x / 256) + (x / 16 % 16 + x % 16)) / 256 = gh k (x / 256) := by omega
    refine ⟨?_, ?_⟩
    · show (256 * gh k (x / 256) + (x / 16 % 16 + x % 16)) % 256 + dg 8 k ((256 * gh k (x / 256) + (x / 16 % 16 + x % 16)) / 256) = x % 16 + (x / 16 % 16 + dg 4 (2 * k) (x / 16 / 16))
      have e3 : x / 16 / 16 = x / 256 := by rw [Nat.div_div_eq_div_mul]
      rw [e1, e2, ih.1, e3]
      omega
    · show (256 * gh k (x / 256) + (x / 16 % 16 + x % 16)) % 256 ≤ 8 ∧ bd 8 8 k ((256 * gh k (x / 256) + (x / 16 % 16 + x % 16)) / 256)
      rw [e1, e2]
      exact ⟨by omega, ih.2⟩
theorem fin_a (d0 d1 d2 d3 d4 d5 d6 d7 : Nat) (h : d0 ≤ 8 ∧ d1 ≤ 8 ∧ d2 ≤ 8 ∧ d3 ≤ 8 ∧ d4 ≤ 8 ∧ d5 ≤ 8 ∧ d6 ≤ 8 ∧ d7 ≤ 8) : (d0 + 256 * d1 + 65536 * d2 + 16777216 * d3 + 4294967296 * d4 + 1099511627776 * d5 + 281474976710656 * d6 + 72057594037927936 * d7) / 256 = d1 + 256 * d2 + 65536 * d3 + 16777216 * d4 + 4294967296 * d5 + 1099511627776 * d6 + 281474976710656 * d7 := by omega
theorem fin_b (d0 d1 d2 d3 d4 d5 d6 d7 : Nat) (h : d0 ≤ 16 ∧ d1 ≤ 16 ∧ d2 ≤ 16 ∧ d3 ≤ 16 ∧ d4 ≤ 16 ∧ d5 ≤ 16 ∧ d6 ≤ 16 ∧ d7 ≤ 16) : (d0 + 256 * d1 + 65536 * d2 + 16777216 * d3 + 4294967296 * d4 + 1099511627776 * d5 + 281474976710656 * d6 + 72057594037927936 * d7) / 65536 = d2 + 256 * d3 + 65536 * d4 + 16777216 * d5 + 4294967296 * d6 + 1099511627776 * d7 := by omega
theorem fin_c (d0 d1 d2 d3 d4 d5 d6 d7 : Nat) (h : d0 ≤ 32 ∧ d1 ≤ 32 ∧ d2 ≤ 32 ∧ d3 ≤ 32 ∧ d4 ≤ 32 ∧ d5 ≤ 32 ∧ d6 ≤ 32 ∧ d7 ≤ 32) : (d0 + 256 * d1 + 65536 * d2 + 16777216 * d3 + 4294967296 * d4 + 1099511627776 * d5 + 281474976710656 * d6 + 72057594037927936 * d7) / 4294967296 = d4 + 256 * d5 + 65536 * d6 + 16777216 * d7 := by omega
def sm8 (d0 d1 d2 d3 d4 d5 d6 d7 : Nat) : Nat := d0 + 256 * d1 + 65536 * d2 + 16777216 * d3 + 4294967296 * d4 + 1099511627776 * d5 + 281474976710656 * d6 + 72057594037927936 * d7
theorem sum_a (d0 d1 d2 d3 d4 d5 d6 d7 : Nat) (h : d0 ≤ 8 ∧ d1 ≤ 8 ∧ d2 ≤ 8 ∧ d3 ≤ 8 ∧ d4 ≤ 8 ∧ d5 ≤ 8 ∧ d6 ≤ 8 ∧ d7 ≤ 8) : sm8 d0 d1 d2 d3 d4 d5 d6 d7 + sm8 d0 d1 d2 d3 d4 d5 d6 d7 / 256 = sm8 (d0 + d1) (d1 + d2) (d2 + d3) (d3 + d4) (d4 + d5) (d5 + d6) (d6 + d7) d7 := by
  unfold sm8
  rw [fin_a _ _ _ _ _ _ _ _ h]
  clear h
  omega
theorem sum_b (d0 d1 d2 d3 d4 d5 d6 d7 : Nat) (h : d0 ≤ 16 ∧ d1 ≤ 16 ∧ d2 ≤ 16 ∧ d3 ≤ 16 ∧ d4 ≤ 16 ∧ d5 ≤ 16 ∧ d6 ≤ 16 ∧ d7 ≤ 16) : sm8 d0 d1 d2 d3 d4 d5 d6 d7 + sm8 d0 d1 d2 d3 d4 d5 d6 d7 / 65536 = sm8 (d0 + d2) (d1 + d3) (d2 + d4) (d3 + d5) (d4 + d6) (d5 + d7) d6 d7 := by
  unfold sm8
  rw [fin_b _ _ _ _ _ _ _ _ h]
  clear h
  omega
theorem sum_c (d0 d1 d2 d3 d4 d5 d6 d7 : Nat) (h : d0 ≤ 32 ∧ d1 ≤ 32 ∧ d2 ≤ 32 ∧ d3 ≤ 32 ∧ d4 ≤ 32 ∧ d5 ≤ 32 ∧ d6 ≤ 32 ∧ d7 ≤ 32) : sm8 d0 d1 d2 d3 d4 d5 d6 d7 + sm8 d0 d1 d2 d3 d4 d5 d6 d7 / 4294967296 = sm8 (d0 + d4) (d1 + d5) (d2 + d6) (d3 + d7) d4 d5 d6 d7 := by
  unfold sm8
  rw [fin_c _ _ _ _ _ _ _ _ h]
  clear h
  omega
theorem sm8_lt (d0 d1 d2 d3 d4 d5 d6 d7 : Nat) (h : d0 ≤ 64 ∧ d1 ≤ 64 ∧ d2 ≤ 64 ∧ d3 ≤ 64 ∧ d4 ≤ 64 ∧ d5 ≤ 64 ∧ d6 ≤ 64 ∧ d7 ≤ 64) : sm8 d0 d1 d2 d3 d4 d5 d6 d7 < 9223372036854775808 ∧ sm8 d0 d1 d2 d3 d4 d5 d6 d7 % 128 = d0 := by
  unfold sm8
  exact ⟨by omega, by omega⟩
theorem digits8 (y : Nat) (hy : y < 18446744073709551616) : y = sm8 (y % 256) (y / 256 % 256) (y / 256 / 256 % 256) (y / 256 / 256 / 256 % 256) (y / 256 / 256 / 256 / 256 % 256) (y / 256 / 256 / 256 / 256 / 256 % 256) (y / 256 / 256 / 256 / 256 / 256 / 256 % 256) (y / 256 / 256 / 256 / 256 / 256 / 256 / 256 % 256) := by
  have a0 := Nat.div_add_mod y 256
  have a1 := Nat.div_add_mod (y / 256) 256
  have a2 := Nat.div_add_mod (y / 256 / 256) 256
  have a3 := Nat.div_add_mod (y / 256 / 256 / 256) 256
  have a4 := Nat.div_add_mod (y / 256 / 256 / 256 / 256) 256
  have a5 := Nat.div_add_mod (y / 256 / 256 / 256 / 256 / 256) 256
  have a6 := Nat.div_add_mod (y / 256 / 256 / 256 / 256 / 256 / 256) 256
  have a7 : y / 256 / 256 / 256 / 256 / 256 / 256 / 256 % 256 = y / 256 / 256 / 256 / 256 / 256 / 256 / 256 := by
    refine Nat.mod_eq_of_lt ?_
    rw [Nat.div_div_eq_div_mul, Nat.div_div_eq_div_mul, Nat.div_div_eq_div_mul, Nat.div_div_eq_div_mul, Nat.div_div_eq_div_mul, Nat.div_div_eq_div_mul]
    omega
  rw [a7]
  unfold sm8
  omega
/-- the last three steps -/
theorem fin8 (y : Nat) (hy : y < 18446744073709551616) (hb : bd 8 8 8 y) : ∃ a b c, y + y / 256 = a ∧ a + a / 65536 = b ∧ b + b / 4294967296 = c ∧ a < 9223372036854775808 ∧ b < 9223372036854775808 ∧ c < 9223372036854775808 ∧ c % 128 = dg 8 8 y := by
  obtain ⟨h0, h1, h2, h3, h4, h5, h6, h7, _⟩ := hb
  simp only [show (2 : Nat) ^ 8 = 256 from rfl] at h0 h1 h2 h3 h4 h5 h6 h7
  simp only [dg, show (2 : Nat) ^ 8 = 256 from rfl]
  have hY := digits8 y hy
  generalize y % 256 = d0 at *
  generalize y / 256 / 256 / 256 / 256 / 256 / 256 / 256 % 256 = d7 at *
  generalize y / 256 / 256 / 256 / 256 / 256 / 256 % 256 = d6 at *
  generalize y / 256 / 256 / 256 / 256 / 256 % 256 = d5 at *
  generalize y / 256 / 256 / 256 / 256 % 256 = d4 at *
  generalize y / 256 / 256 / 256 % 256 = d3 at *
  generalize y / 256 / 256 % 256 = d2 at *
  generalize y / 256 % 256 = d1 at *
  subst hY
  refine ⟨_, _, _, sum_a _ _ _ _ _ _ _ _ ⟨h0, h1, h2, h3, h4, h5, h6, h7⟩, sum_b _ _ _ _ _ _ _ _ (by omega), sum_c _ _ _ _ _ _ _ _ (by omega), (sm8_lt _ _ _ _ _ _ _ _ (by omega)).1, (sm8_lt _ _ _ _ _ _ _ _ (by omega)).1, (sm8_lt _ _ _ _ _ _ _ _ (by omega)).1, ?_⟩
  rw [(sm8_lt _ _ _ _ _ _ _ _ (by omega)).2]
  omega
end Go.Proofs.Ytjcihaohpbmogaa.Oct

/- Layer 11 (lines): words as sets of numbers. -/
namespace Go.Proofs.Ytjcihaohpbmogaa.Oct
open Go.RowKit
set_option maxRecDepth 100000
set_option linter.unusedSimpArgs false
set_option linter.unusedVariables false
set_option linter.unusedSectionVars false

theorem u64_small (n : Nat) (h : n < 18446744073709551616) : IntKind.u64.wrap (n : Int) = (n : Int) := by
  have e : (n : Int) % 2 ^ 64 = n := Int.emod_eq_of_lt (by omega) (by omega)
  simp only [IntKind.wrap, IntKind.bits, IntKind.signed, e]
  rw [if_neg]
  simp
theorem and_u64 (x y : Nat) (hx : x < 18446744073709551616) (hy : y < 18446744073709551616) : bits .and .u64 (x : Int) (y : Int) = ((x &&& y : Nat) : Int) := by
  show IntKind.u64.wrap ((BitVec.ofInt 64 (x : Int) &&& BitVec.ofInt 64 (y : Int)).toNat : Int) = _
  rw [BitVec.toNat_and, Go.ofInt_u64 x hx, Go.ofInt_u64 y hy]
  exact u64_small _ (Nat.lt_of_le_of_lt Nat.and_le_left hx)
theorem or_u64 (x y : Nat) (hx : x < 18446744073709551616) (hy : y < 18446744073709551616) : orB (x : Int) (y : Int) = ((x ||| y : Nat) : Int) ∧ x ||| y < 18446744073709551616 := by
  have hlt : x ||| y < 2 ^ 64 := Nat.or_lt_two_pow hx hy
  refine ⟨?_, hlt⟩
  show IntKind.u64.wrap ((BitVec.ofInt 64 (x : Int) ||| BitVec.ofInt 64 (y : Int)).toNat : Int) = _
  rw [BitVec.toNat_or, Go.ofInt_u64 x hx, Go.ofInt_u64 y hy]
  exact u64_small _ hlt
theorem half_cast (x k : Nat) : ((x : Int) / (k : Int)) = ((x / k : Nat) : Int) := by rw [Int.natCast_ediv]
theorem o1_nat (x : Nat) (h : x < 18446744073709551616) : o1 (x : Int) = ((fh 1 32 x : Nat) : Int) ∧ fh 1 32 x < 18446744073709551616 := by
  have hm : msk 1 32 = 6148914691236517205 := by decide +kernel
  have hlt : fh 1 32 x < 18446744073709551616 := by
    unfold fh
    rw [hm]
    have h1 : x / 2 ^ 1 &&& 6148914691236517205 ≤ 6148914691236517205 := Nat.and_le_right
    have h2 : x &&& 6148914691236517205 ≤ 6148914691236517205 := Nat.and_le_right
    omega
  refine ⟨?_, hlt⟩
  show IntKind.u64.wrap (bits .and .u64 ((x : Int) / ((2 : Nat) : Int)) ((6148914691236517205 : Nat) : Int) + bits .and .u64 (x : Int) ((6148914691236517205 : Nat) : Int)) = _
  rw [half_cast, and_u64 _ _ (by omega) (by omega), and_u64 _ _ h (by omega)]
  have e : fh 1 32 x = (x / 2 &&& 6148914691236517205) + (x &&& 6148914691236517205) := by unfold fh; rw [hm]
  rw [← Int.natCast_add, ← e, u64_small _ hlt]
theorem o2_nat (x : Nat) (h : x < 18446744073709551616) : o2 (x : Int) = ((fh 2 16 x : Nat) : Int) ∧ fh 2 16 x ≤ 7378697629483820646 := by
  have hm : msk 2 16 = 3689348814741910323 := by decide +kernel
  have hlt : fh 2 16 x ≤ 7378697629483820646 := by
    unfold fh
    rw [hm]
    have h1 : x / 2 ^ 2 &&& 3689348814741910323 ≤ 3689348814741910323 := Nat.and_le_right
    have h2 : x &&& 3689348814741910323 ≤ 3689348814741910323 := Nat.and_le_right
    omega
  refine ⟨?_, hlt⟩
  show IntKind.u64.wrap (bits .and .u64 ((x : Int) / ((4 : Nat) : Int)) ((3689348814741910323 : Nat) : Int) + bits .and .u64 (x : Int) ((3689348814741910323 : Nat) : Int)) = _
  rw [half_cast, and_u64 _ _ (by omega) (by omega), and_u64 _ _ h (by omega)]
  have e : fh 2 16 x = (x / 4 &&& 3689348814741910323) + (x &&& 3689348814741910323) := by unfold fh; rw [hm]
  rw [← Int.natCast_add, ← e, u64_small _ (by omega)]
theorem o3_nat (x : Nat) (h : x ≤ 7378697629483820646) : o3 (x : Int) = ((gh 8 x : Nat) : Int) ∧ gh 8 x < 18446744073709551616 := by
  have hm : msk 4 8 = 1085102592571150095 := by decide +kernel
  have hlt : gh 8 x < 18446744073709551616 := by
    unfold gh
    rw [hm]
    have h1 : x / 16 + x &&& 1085102592571150095 ≤ 1085102592571150095 := Nat.and_le_right
    omega
  refine ⟨?_, hlt⟩
  show bits .and .u64 (IntKind.u64.wrap ((x : Int) / ((16 : Nat) : Int) + (x : Int))) ((1085102592571150095 : Nat) : Int) = _
  rw [half_cast, ← Int.natCast_add, u64_small _ (by omega), and_u64 _ _ (by omega) (by omega)]
  unfold gh
  rw [hm]
theorem oh_nat (x k y : Nat) (h : x + x / k = y) (hy : y < 9223372036854775808) : oh (x : Int) (k : Int) = (y : Int) := by
  show IntKind.u64.wrap ((x : Int) + (x : Int) / (k : Int)) = _
  rw [half_cast, ← Int.natCast_add, h, u64_small _ (by omega)]
theorem wrap64_nat {n : Nat} (h : n < 9223372036854775808) : wrap64 (n : Int) = (n : Int) := by
  unfold wrap64
  omega
theorem oh256 (x y : Nat) (h : x + x / 256 = y) (hy : y < 9223372036854775808) : oh (x : Int) 256 = (y : Int) := oh_nat x 256 y h hy
theorem oh65536 (x y : Nat) (h : x + x / 65536 = y) (hy : y < 9223372036854775808) : oh (x : Int) 65536 = (y : Int) := oh_nat x 65536 y h hy
theorem oh32 (x y : Nat) (h : x + x / 4294967296 = y) (hy : y < 9223372036854775808) : oh (x : Int) 4294967296 = (y : Int) := oh_nat x 4294967296 y h hy
theorem and127 (c : Nat) (hc : c < 9223372036854775808) : bits .and .i64 (wrap64 (c : Int)) 127 = ((c % 128 : Nat) : Int) := by
  rw [wrap64_nat hc]
  show IntKind.i64.wrap ((BitVec.ofInt 64 (c : Int) &&& BitVec.ofInt 64 ((127 : Nat) : Int)).toNat : Int) = _
  rw [BitVec.toNat_and, Go.ofInt_u64 c (by omega), Go.ofInt_u64 127 (by omega), show (127 : Nat) = 2 ^ 7 - 1 from rfl, Nat.and_two_pow_sub_one_eq_mod, show (2 : Nat) ^ 7 = 128 from rfl]
  exact Go.Lib.wrap_i64_small _ (by omega)
theorem ones_nat (x : Nat) (h : x < 18446744073709551616) : ones (x : Int) = ((dg 1 64 x : Nat) : Int) := by
  obtain ⟨e1, l1⟩ := o1_nat x h
  have b1 : bd 2 2 32 (fh 1 32 x) := fh_bd (b := 1) (c := 1) (by omega) 32 x (bd_one 64 x)
  have d1 : dg 2 32 (fh 1 32 x) = dg 1 64 x := fh_dg (b := 1) (by omega) 32 x
  generalize fh 1 32 x = y1 at *
  obtain ⟨e2, l2⟩ := o2_nat y1 l1
  have b2 : bd 4 4 16 (fh 2 16 y1) := fh_bd (b := 2) (c := 2) (by omega) 16 _ b1
  have d2 : dg 4 16 (fh 2 16 y1) = dg 2 32 y1 := fh_dg (b := 2) (by omega) 16 _
  generalize fh 2 16 y1 = y2 at *
  obtain ⟨e3, l3⟩ := o3_nat y2 l2
  obtain ⟨d3, b3⟩ := gh_dg 8 y2 b2
  generalize gh 8 y2 = y3 at *
  obtain ⟨a, b, c, ha, hb, hc, la, lb, lc, hm⟩ := fin8 y3 l3 b3
  have d3 : dg 8 8 y3 = dg 4 16 y2 := d3
  unfold ones
  rw [e1, e2, e3, oh256 y3 a ha la, oh65536 a b hb lb, oh32 b c hc lc, and127 c lc, hm, d3, d2, d1]
/-- the digits are the bits -/
theorem dg_bits : ∀ (k x : Nat), dg 1 k x = ((List.range k).filter fun i => x.testBit i).length
  | 0, _ => rfl
  | k + 1, x => by
    rw [List.range_succ_eq_map, List.filter_cons, List.filter_map]
    show x % 2 ^ 1 + dg 1 k (x / 2 ^ 1) = _
    rw [Nat.pow_one, dg_bits k (x / 2)]
    have e : ((fun i => x.testBit i) ∘ Nat.succ) = fun i => (x / 2).testBit i := by
      funext i
      show x.testBit (i + 1) = _
      rw [Nat.testBit_succ]
    rw [e, Nat.testBit_zero]
    have := Nat.mod_two_eq_zero_or_one x
    rcases this with h | h
    · simp [h]
    · simp [h]; omega
/-- words that are words -/
def OkW (l : List Int) : Prop := ∀ x ∈ l, ∃ n : Nat, x = (n : Int) ∧ n < 18446744073709551616
def bt (l : List Int) (i r : Nat) : Bool := (l.getD i 0).toNat.testBit r
theorem OkW.get {l : List Int} (h : OkW l) (i : Nat) : ∃ n : Nat, l.getD i 0 = (n : Int) ∧ n < 18446744073709551616 := by
  by_cases hi : i < l.length
  · rw [List.getD_eq_getElem?_getD, List.getElem?_eq_getElem hi]
    exact h _ (List.getElem_mem hi)
  · rw [List.getD_eq_getElem?_getD, List.getElem?_eq_none (by omega)]
    exact ⟨0, rfl, by omega⟩
theorem OkW.set {l : List Int} (h : OkW l) (i : Nat) (n : Nat) (hn : n < 18446744073709551616) : OkW (l.set i (n : Int)) := fun x hx => by
  rcases List.mem_or_eq_of_mem_set hx with hx | hx
  · exact h x hx
  · exact ⟨n, hx, hn⟩
theorem bt_set (l : List Int) (i : Nat) (n : Nat) (hi : i < l.length) (j r : Nat) : bt (l.set i (n : Int)) j r = if j = i then n.testBit r else bt l j r := by
  unfold bt
  rw [List.getD_eq_getElem?_getD, List.getElem?_set]
  by_cases h : j = i
  · subst h
    simp [hi]
  · rw [if_neg (fun e => h e.symm), if_neg h, List.getD_eq_getElem?_getD]
theorem bt_out {l : List Int} {i : Nat} (hi : l.length ≤ i) (r : Nat) : bt l i r = false := by
  unfold bt
  rw [List.getD_eq_getElem?_getD, List.getElem?_eq_none hi]
  simp
theorem bitI_nat {r : Nat} (h : r < 64) : bitI r = ((2 ^ r : Nat) : Int) ∧ 2 ^ r < 18446744073709551616 := by
  have hlt : 2 ^ r < 2 ^ 64 := Nat.pow_lt_pow_right (by omega) h
  refine ⟨?_, hlt⟩
  unfold bitI
  rw [Int.one_mul]
  have : (2 : Int) ^ r = ((2 ^ r : Nat) : Int) := by rw [Int.natCast_pow]; rfl
  rw [this]
  exact u64_small _ hlt
theorem putW_bt {l : List Int} (hl : OkW l) {o n : Nat} (hi : o + n / 64 < l.length) : OkW (putW o n l) ∧ ∀ i r, bt (putW o n l) i r = (bt l i r || (decide (i = o + n / 64) && decide (r = n % 64))) := by
  obtain ⟨a, ea, la⟩ := hl.get (o + n / 64)
  obtain ⟨eb, lb⟩ := bitI_nat (Nat.mod_lt n (show 64 > 0 by omega))
  obtain ⟨ec, lc⟩ := or_u64 a (2 ^ (n % 64)) la lb
  have e : putW o n l = l.set (o + n / 64) ((a ||| 2 ^ (n % 64) : Nat) : Int) := by
    unfold putW
    rw [ea, eb, ec]
  rw [e]
  refine ⟨hl.set _ _ lc, fun i r => ?_⟩
  rw [bt_set _ _ _ hi]
  by_cases h : i = o + n / 64
  · subst h
    rw [if_pos rfl, Nat.testBit_or, Nat.testBit_two_pow]
    unfold bt
    rw [ea]
    simp [eq_comm]
  · rw [if_neg h]
    simp [h]
theorem orW_bt {l X : List Int} (hl : OkW l) (hX : OkW X) {o : Nat} : ∀ k, o + k ≤ l.length → OkW (orW o X k l) ∧ ∀ i r, bt (orW o X k l) i r = (bt l i r || (decide (o ≤ i ∧ i < o + k) && bt X (i - o) r))
  | 0, _ => ⟨hl, fun i r => by
    have : decide (o ≤ i ∧ i < o + 0) = false := decide_eq_false (by omega)
    show bt l i r = _
    rw [this, Bool.false_and, Bool.or_false]⟩
  | k + 1, h => by
    obtain ⟨ih1, ih2⟩ := orW_bt (o := o) hl hX k (by omega)
    obtain ⟨a, ea, la⟩ := ih1.get (o + k)
    obtain ⟨b, eb, lb⟩ := hX.get k
    obtain ⟨ec, lc⟩ := or_u64 a b la lb
    have e : orW o X (k + 1) l = (orW o X k l).set (o + k) ((a ||| b : Nat) : Int) := by
      rw [← ec, ← ea, ← eb]
      rfl
    rw [e]
    refine ⟨ih1.set _ _ lc, fun i r => ?_⟩
    rw [bt_set _ _ _ (by rw [orW_len]; omega)]
    by_cases hi : i = o + k
    · subst hi
      rw [if_pos rfl, Nat.testBit_or]
      have h1 : a.testBit r = bt l (o + k) r := by
        have h2 := ih2 (o + k) r
        have h3 : ¬ (o ≤ o + k ∧ o + k < o + k) := by omega
        unfold bt at h2
        rw [ea] at h2
        simp only [Int.toNat_natCast] at h2
        rw [h2]
        unfold bt
        simp [h3]
      have h4 : b.testBit r = bt X (o + k - o) r := by
        unfold bt
        rw [show o + k - o = k by omega, eb]
        simp
      have h5 : o ≤ o + k ∧ o + k < o + (k + 1) := by omega
      rw [h1, h4]
      simp [h5]
    · rw [if_neg hi, ih2]
      have : (o ≤ i ∧ i < o + k) ↔ (o ≤ i ∧ i < o + (k + 1)) := by omega
      simp [this]
theorem slice_ok {l : List Int} (h : OkW l) (k : Nat) : OkW ((l.drop (k * 8)).take 8) := fun x hx => h x (List.mem_of_mem_drop (List.mem_of_mem_take hx))
theorem slice_bt (l : List Int) (k i r : Nat) (hi : i < 8) : bt ((l.drop (k * 8)).take 8) i r = bt l (k * 8 + i) r := by
  unfold bt
  rw [List.getD_eq_getElem?_getD, List.getD_eq_getElem?_getD, List.getElem?_take_of_lt hi, List.getElem?_drop]
/-- is m in the n-th set? -/
def rowW (l : List Int) (n m : Nat) : Bool := bt l (n * 8 + m / 64) (m % 64)
def jstep (n : Nat) (l : List Int) (k : Nat) : List Int := putW (n * 8) k (orW (n * 8) ((l.drop (k * 8)).take 8) 8 l)
theorem jstep_row {l : List Int} (hl : OkW l) {n k : Nat} (hn : n * 8 + 8 ≤ l.length) (hk : k < 512) : OkW (jstep n l k) ∧ (jstep n l k).length = l.length ∧ ∀ n' m, m < 512 → rowW (jstep n l k) n' m = if n' = n then (rowW l n m || rowW l k m || decide (m = k)) else rowW l n' m := by
  obtain ⟨h1, h2⟩ := orW_bt hl (slice_ok hl k) (o := n * 8) 8 hn
  obtain ⟨h3, h4⟩ := putW_bt h1 (o := n * 8) (n := k) (by rw [orW_len]; omega)
  refine ⟨h3, by unfold jstep; rw [putW_len, orW_len], fun n' m hm => ?_⟩
  unfold rowW
  show bt (putW (n * 8) k (orW (n * 8) ((l.drop (k * 8)).take 8) 8 l)) _ _ = _
  rw [h4, h2]
  by_cases hnn : n' = n
  · subst hnn
    rw [if_pos rfl]
    have e1 : n' * 8 ≤ n' * 8 + m / 64 ∧ n' * 8 + m / 64 < n' * 8 + 8 := by omega
    have e2 : n' * 8 + m / 64 - n' * 8 = m / 64 := by omega
    have e3 : (n' * 8 + m / 64 = n' * 8 + k / 64 ∧ m % 64 = k % 64) ↔ m = k := by omega
    rw [e2, slice_bt _ _ _ _ (by omega), decide_eq_true e1, Bool.true_and, ← Bool.decide_and]
    simp only [e3]
  · rw [if_neg hnn]
    have e1 : ¬ (n * 8 ≤ n' * 8 + m / 64 ∧ n' * 8 + m / 64 < n * 8 + 8) := by omega
    have e2 : ¬ (n' * 8 + m / 64 = n * 8 + k / 64) := by omega
    simp [e1, e2]
theorem jn_row {n : Nat} : ∀ (ks : List Nat) (l : List Int), OkW l → n * 8 + 8 ≤ l.length → (∀ k ∈ ks, k < 512 ∧ k ≠ n) → OkW (jn n ks l) ∧ ∀ n' m, m < 512 → rowW (jn n ks l) n' m = if n' = n then (rowW l n m || ks.any fun k => decide (m = k) || rowW l k m) else rowW l n' m
  | [], l, hl, _, _ => ⟨hl, fun n' m _ => by
    show rowW l n' m = _
    by_cases h : n' = n
    · subst h; simp
    · simp [h]⟩
  | k :: ks, l, hl, hn, hk => by
    obtain ⟨h1, h2, h3⟩ := jstep_row hl hn (hk k (by simp)).1
    obtain ⟨h4, h5⟩ := jn_row ks (jstep n l k) h1 (by rw [h2]; exact hn) (fun x hx => hk x (by simp [hx]))
    refine ⟨h4, fun n' m hm => ?_⟩
    show rowW (jn n ks (jstep n l k)) n' m = _
    rw [h5 n' m hm]
    by_cases h : n' = n
    · subst h
      rw [if_pos rfl, if_pos rfl, h3 _ m hm, if_pos rfl, List.any_cons]
      have e : (ks.any fun x => decide (m = x) || rowW (jstep n' l k) x m) = ks.any fun x => decide (m = x) || rowW l x m := by
        rw [Bool.eq_iff_iff, List.any_eq_true, List.any_eq_true]
        constructor <;>
        · rintro ⟨x, hx, hv⟩
          refine ⟨x, hx, ?_⟩
          rw [h3 x m hm, if_neg (hk x (by simp [hx])).2] at *
          exact hv
      rw [e]
      cases rowW l n' m <;> cases rowW l k m <;> cases decide (m = k) <;> simp
    · rw [if_neg h, if_neg h, h3 n' m hm, if_neg h]
theorem both_cnt {S X : List Int} (hS : OkW S) (hX : OkW X) : ∀ k, k ≤ 8 → bothW S X k = ((((List.range (k * 64)).filter fun m => bt S (m / 64) (m % 64) && bt X (m / 64) (m % 64)).length : Nat) : Int)
  | 0, _ => rfl
  | k + 1, hk => by
    obtain ⟨a, ea, la⟩ := hS.get k
    obtain ⟨b, eb, lb⟩ := hX.get k
    have hlt : a &&& b < 18446744073709551616 := Nat.lt_of_le_of_lt Nat.and_le_left la
    have e1 : (List.range ((k + 1) * 64)) = List.range (k * 64) ++ (List.range 64).map (k * 64 + ·) := by
      rw [Nat.succ_mul, List.range_add]
    have e2 : (((List.range 64).map (k * 64 + ·)).filter fun m => bt S (m / 64) (m % 64) && bt X (m / 64) (m % 64)).length = dg 1 64 (a &&& b) := by
      rw [dg_bits, List.filter_map, List.length_map]
      congr 1
      refine List.filter_congr fun i hi => ?_
      have hi := List.mem_range.1 hi
      show (bt S ((k * 64 + i) / 64) ((k * 64 + i) % 64) && bt X ((k * 64 + i) / 64) ((k * 64 + i) % 64)) = _
      rw [show (k * 64 + i) / 64 = k by omega, show (k * 64 + i) % 64 = i by omega, Nat.testBit_and]
      unfold bt
      rw [ea, eb]
      simp
    have hle : (((List.range (k * 64)).filter fun m => bt S (m / 64) (m % 64) && bt X (m / 64) (m % 64)).length) ≤ k * 64 := by
      have := List.length_filter_le (fun m => bt S (m / 64) (m % 64) && bt X (m / 64) (m % 64)) (List.range (k * 64))
      rwa [List.length_range] at this
    have hle2 : dg 1 64 (a &&& b) ≤ 64 := by
      rw [dg_bits]
      have := List.length_filter_le (fun i => (a &&& b).testBit i) (List.range 64)
      rwa [List.length_range] at this
    show wrap64 (bothW S X k + ones (bits .and .u64 (S.getD k 0) (X.getD k 0))) = _
    rw [both_cnt hS hX k (by omega), ea, eb, and_u64 _ _ la lb, ones_nat _ hlt, e1, List.filter_append, List.length_append, e2, ← Int.natCast_add, wrap64_nat (by omega)]
end Go.Proofs.Ytjcihaohpbmogaa.Oct
