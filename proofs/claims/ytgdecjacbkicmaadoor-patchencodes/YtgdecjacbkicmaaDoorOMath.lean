/-
  The plain mathematics of layer 1 (octet): how a number stands in bytes ('enc'), how it is read ('dec'), and that each undoes the other. No program, no model.
-/
import Derived.Lib.BitFns
namespace Go.Proofs.YtgdecjacbkicmaaDoor.Oct
set_option maxRecDepth 100000

/-- a number in bytes, seven bits each, the lowest ahead; all bytes but the last have the highest bit ('f': no more bytes than that) -/
def encF : Nat → Nat → List UInt8
  | 0, n => [UInt8.ofNat n]
  | f + 1, n => if n < 128 then [UInt8.ofNat n] else UInt8.ofNat (n % 128 + 128) :: encF f (n / 128)
def enc (n : Nat) : List UInt8 := encF n n

theorem encF_small {f n : Nat} (h : n < 128) : encF f n = [UInt8.ofNat n] := by
  cases f with
  | zero => rfl
  | succ f => rw [encF, if_pos h]
theorem encF_same : ∀ (n f g : Nat), n ≤ f → n ≤ g → encF f n = encF g n := by
  intro n
  induction n using Nat.strongRecOn with
  | ind n ih =>
    intro f g hf hg
    by_cases h : n < 128
    · rw [encF_small h, encF_small h]
    · obtain ⟨f', rfl⟩ : ∃ f', f = f' + 1 := ⟨f - 1, by omega⟩
      obtain ⟨g', rfl⟩ : ∃ g', g = g' + 1 := ⟨g - 1, by omega⟩
      rw [encF, encF, if_neg h, if_neg h, ih (n / 128) (by omega) f' g' (by omega) (by omega)]
theorem enc_small {n : Nat} (h : n < 128) : enc n = [UInt8.ofNat n] := encF_small h
theorem enc_big {n : Nat} (h : 128 ≤ n) : enc n = UInt8.ofNat (n % 128 + 128) :: enc (n / 128) := by
  unfold enc
  obtain ⟨m, rfl⟩ : ∃ m, n = m + 1 := ⟨n - 1, by omega⟩
  rw [encF, if_neg (by omega), encF_same ((m + 1) / 128) m ((m + 1) / 128) (by omega) (by omega)]
theorem enc_pos (n : Nat) : 1 ≤ (enc n).length := by
  by_cases h : n < 128
  · rw [enc_small h]; simp
  · rw [enc_big (by omega)]; simp

theorem aux_stable : ∀ (f m : Nat), m < 2 ^ f → Lib.bitLenAux (f + 1) m = Lib.bitLenAux f m := by
  intro f
  induction f with
  | zero => intro m h; have : m = 0 := by simpa using h
            subst this; simp [Lib.bitLenAux]
  | succ f ih =>
    intro m h
    by_cases h0 : m = 0
    · subst h0; simp [Lib.bitLenAux]
    · rw [Lib.bitLenAux, if_neg h0, ih (m / 2) (by rw [Nat.pow_succ] at h; omega)]
      conv => rhs; rw [Lib.bitLenAux, if_neg h0]

theorem aux_stable' : ∀ (d f m : Nat), m < 2 ^ f → Lib.bitLenAux (f + d) m = Lib.bitLenAux f m := by
  intro d
  induction d with
  | zero => intro f m _; rfl
  | succ d ih =>
    intro f m h
    rw [← Nat.add_assoc, aux_stable (f + d) m (Nat.lt_of_lt_of_le h (Nat.pow_le_pow_right (by omega) (by omega))), ih f m h]

theorem aux_step {f m : Nat} (h : 0 < m) : Lib.bitLenAux (f + 1) m = 1 + Lib.bitLenAux f (m / 2) := by
  rw [Lib.bitLenAux, if_neg (by omega)]

theorem bitLen_big {n : Nat} (h : 128 ≤ n) (h2 : n < 2 ^ 64) : Lib.bitLen n = 7 + Lib.bitLen (n / 128) := by
  unfold Lib.bitLen
  rw [aux_step (f := 63) (by omega), aux_step (f := 62) (by omega), aux_step (f := 61) (by omega), aux_step (f := 60) (by omega), aux_step (f := 59) (by omega), aux_step (f := 58) (by omega), aux_step (f := 57) (by omega)]
  have e : n / 2 / 2 / 2 / 2 / 2 / 2 / 2 = n / 128 := by omega
  rw [e]
  have hs := aux_stable' 7 57 (n / 128) (by omega)
  have h64 : (57 + 7 : Nat) = 64 := rfl
  rw [h64] at hs
  rw [hs]
  omega

theorem bitLen_small : ∀ n, n < 128 → Lib.bitLen n ≤ 7 := by decide +kernel

theorem aux_le : ∀ (f m : Nat), Lib.bitLenAux f m ≤ f := by
  intro f
  induction f with
  | zero => intro m; simp [Lib.bitLenAux]
  | succ f ih => intro m; rw [Lib.bitLenAux]; split
                 · omega
                 · have := ih (m / 2); omega
theorem bitLen_le (n : Nat) : Lib.bitLen n ≤ 64 := aux_le 64 n

theorem bitLen_pos {n : Nat} (h : 0 < n) : 1 ≤ Lib.bitLen n := by
  unfold Lib.bitLen; rw [aux_step (f := 63) h]; omega

/-- 'numberSize' is the number of bytes. -/
theorem enc_length : ∀ (n : Nat), n < 2 ^ 64 → (enc n).length = max 1 ((Lib.bitLen n + 6) / 7) := by
  intro n
  induction n using Nat.strongRecOn with
  | ind n ih =>
    intro h
    by_cases hs : n < 128
    · rw [enc_small hs]
      have := bitLen_small n hs
      simp; omega
    · have hb := bitLen_big (n := n) (by omega) h
      have hp := bitLen_pos (n := n / 128) (by omega)
      rw [enc_big (by omega), List.length_cons, ih (n / 128) (by omega) (by omega), hb]
      omega
theorem enc_le (n : Nat) (h : n < 2 ^ 64) : (enc n).length ≤ 10 := by
  rw [enc_length n h]; have := bitLen_le n; omega

/-- One number that bytes begin with: (the number, how many bytes, the error); 'i': bytes read, 'n': what they made. -/
def decF : Nat → Nat → Nat → List UInt8 → Nat × Nat × Nat
  | 0, _, _, _ => (0, 0, 11)
  | _ + 1, _, _, [] => (0, 0, 10)
  | f + 1, i, n, c :: r =>
    if i = 9 ∧ 1 < c.toNat then (0, 0, 11)
    else if c.toNat < 128 then (if c.toNat = 0 ∧ 0 < i then (0, 0, 11) else (n + 128 ^ i * (c.toNat % 128), i + 1, 0))
    else decF f (i + 1) (n + 128 ^ i * (c.toNat % 128)) r
def dec (l : List UInt8) : Nat × Nat × Nat := decF 10 0 0 l

theorem toNat_small {n : Nat} (h : n < 128) : (UInt8.ofNat n).toNat = n := by
  rw [UInt8.toNat_ofNat']; omega
theorem toNat_more (n : Nat) : (UInt8.ofNat (n % 128 + 128)).toNat = n % 128 + 128 := by
  rw [UInt8.toNat_ofNat']; omega

theorem pow_le_nine {i : Nat} (h : 128 ^ i < 2 ^ 64) : i ≤ 9 := by
  rcases Nat.lt_or_ge 9 i with h9 | h9
  · have : 128 ^ 10 ≤ 128 ^ i := Nat.pow_le_pow_right (by omega) h9
    omega
  · exact h9

theorem decF_enc : ∀ (n i acc : Nat) (rest : List UInt8), n * 128 ^ i < 2 ^ 64 → (0 < i → 0 < n) → decF (10 - i) i acc (enc n ++ rest) = (acc + 128 ^ i * n, i + (enc n).length, 0) := by
  intro n
  induction n using Nat.strongRecOn with
  | ind n ih =>
    intro i acc rest h hp
    have hi : i ≤ 9 := by
      rcases Nat.eq_zero_or_pos i with h0 | h0
      · omega
      · refine pow_le_nine (Nat.lt_of_le_of_lt ?_ h)
        exact Nat.le_mul_of_pos_left _ (hp h0)
    have hf : 10 - i = (9 - i) + 1 := by omega
    have h9 : i = 9 → n ≤ 1 := by intro h9; subst h9; omega
    by_cases hs : n < 128
    · rw [enc_small hs, hf]
      simp only [List.singleton_append, decF, toNat_small hs, List.length_singleton]
      rw [if_neg (by intro ⟨a, b⟩; have := h9 a; omega), if_pos hs, if_neg (by intro ⟨a, b⟩; have := hp b; omega), Nat.mod_eq_of_lt hs]
    · have hn : n = n / 128 * 128 + n % 128 := by omega
      have hi8 : i ≠ 9 := by intro e; have := h9 e; omega
      rw [enc_big (by omega), hf]
      simp only [List.cons_append, decF, toNat_more, List.length_cons]
      rw [if_neg (by intro ⟨a, _⟩; exact hi8 a), if_neg (by omega)]
      have e9 : 9 - i = 10 - (i + 1) := by omega
      have hm : n / 128 * 128 ^ (i + 1) ≤ n * 128 ^ i := by
        rw [Nat.pow_succ, Nat.mul_comm (128 ^ i) 128, ← Nat.mul_assoc]
        exact Nat.mul_le_mul_right _ (by omega)
      rw [e9, ih (n / 128) (by omega) (i + 1) _ rest (Nat.lt_of_le_of_lt hm h) (by omega)]
      have e1 : (n % 128 + 128) % 128 = n % 128 := by omega
      have e2 : acc + 128 ^ i * (n % 128) + 128 ^ (i + 1) * (n / 128) = acc + 128 ^ i * n := by
        rw [Nat.pow_succ, Nat.mul_assoc, Nat.add_assoc, ← Nat.mul_add]
        congr 2; omega
      rw [e1, e2]
      congr 2
      omega

theorem dec_enc (n : Nat) (h : n < 2 ^ 64) (rest : List UInt8) : dec (enc n ++ rest) = (n, (enc n).length, 0) := by
  have := decF_enc n 0 0 rest (by simpa using h) (by omega)
  simpa [dec] using this

theorem ofNat_toNat (c : UInt8) : UInt8.ofNat c.toNat = c := by simp

theorem decF_form : ∀ (f i acc : Nat) (l : List UInt8) (m k : Nat), f = 10 - i → decF f i acc l = (m, k, 0) → ∃ n, enc n = l.take (k - i) ∧ m = acc + 128 ^ i * n ∧ i < k ∧ k ≤ 10 ∧ k - i ≤ l.length ∧ (0 < i → 0 < n) := by
  intro f
  induction f with
  | zero => intro i acc l m k _ h; simp [decF] at h
  | succ f ih =>
    intro i acc l m k hf h
    match l, h with
    | [], h => simp [decF] at h
    | c :: r, h =>
      have hc := c.toNat_lt
      rw [decF] at h
      by_cases h1 : i = 9 ∧ 1 < c.toNat
      · rw [if_pos h1] at h; simp at h
      · rw [if_neg h1] at h
        by_cases h2 : c.toNat < 128
        · rw [if_pos h2] at h
          by_cases h3 : c.toNat = 0 ∧ 0 < i
          · rw [if_pos h3] at h; simp at h
          · rw [if_neg h3] at h
            simp only [Prod.mk.injEq] at h
            obtain ⟨rfl, rfl, _⟩ := h
            refine ⟨c.toNat, ?_, ?_, by omega, by omega, by simp, by omega⟩
            · rw [enc_small h2, ofNat_toNat, show i + 1 - i = 1 by omega]; simp
            · rw [Nat.mod_eq_of_lt h2]
        · rw [if_neg h2] at h
          obtain ⟨n, e1, e2, e3, e4, e5, e6⟩ := ih (i + 1) _ r m k (by omega) h
          have hk : k - i = (k - (i + 1)) + 1 := by omega
          have hn := e6 (by omega)
          refine ⟨n * 128 + c.toNat % 128, ?_, ?_, by omega, e4, by simp; omega, by omega⟩
          · rw [enc_big (by omega), show (n * 128 + c.toNat % 128) / 128 = n by omega, show (n * 128 + c.toNat % 128) % 128 + 128 = c.toNat by omega, ofNat_toNat, e1, hk]
            simp
          · rw [e2, Nat.pow_succ, Nat.mul_assoc, Nat.add_assoc, ← Nat.mul_add]
            congr 2; omega

theorem dec_form {l : List UInt8} {m k : Nat} (h : dec l = (m, k, 0)) : enc m = l.take k ∧ 1 ≤ k ∧ k ≤ 10 ∧ k ≤ l.length := by
  obtain ⟨n, e1, e2, e3, e4, e5, _⟩ := decF_form 10 0 0 l m k rfl h
  have : m = n := by simpa using e2
  subst this
  exact ⟨by simpa using e1, e3, e4, by simpa using e5⟩

/-- What is read fits 64 bits; an error comes with noughts. -/
theorem decF_bound : ∀ (f i acc : Nat) (l : List UInt8), f = 10 - i → acc < 128 ^ i → (decF f i acc l).1 < 2 ^ 64 ∧ ((decF f i acc l).2.2 = 0 ∨ decF f i acc l = (0, 0, 10) ∨ decF f i acc l = (0, 0, 11)) := by
  intro f
  induction f with
  | zero => intro i acc l _ _; simp [decF]
  | succ f ih =>
    intro i acc l hf ha
    match l with
    | [] => simp [decF]
    | c :: r =>
      rw [decF]
      by_cases h1 : i = 9 ∧ 1 < c.toNat
      · rw [if_pos h1]; simp
      · rw [if_neg h1]
        have hm : c.toNat % 128 < 128 := Nat.mod_lt _ (by omega)
        have hn : acc + 128 ^ i * (c.toNat % 128) < 128 ^ (i + 1) := by
          rw [Nat.pow_succ]
          have : 128 ^ i * (c.toNat % 128) ≤ 128 ^ i * 127 := Nat.mul_le_mul_left _ (by omega)
          omega
        by_cases h2 : c.toNat < 128
        · rw [if_pos h2]
          by_cases h3 : c.toNat = 0 ∧ 0 < i
          · rw [if_pos h3]; simp
          · rw [if_neg h3]
            refine ⟨?_, .inl rfl⟩
            by_cases h9 : i = 9
            · subst h9
              have : c.toNat ≤ 1 := by omega
              have : c.toNat % 128 ≤ 1 := by omega
              show acc + 128 ^ 9 * (c.toNat % 128) < 2 ^ 64
              have e : 128 ^ 9 * (c.toNat % 128) ≤ 128 ^ 9 * 1 := Nat.mul_le_mul_left _ this
              omega
            · have : 128 ^ (i + 1) ≤ 128 ^ 9 := Nat.pow_le_pow_right (by omega) (by omega)
              show acc + 128 ^ i * (c.toNat % 128) < 2 ^ 64
              omega
        · rw [if_neg h2]; exact ih (i + 1) _ r (by omega) hn

theorem dec_lt (l : List UInt8) : (dec l).1 < 2 ^ 64 := (decF_bound 10 0 0 l rfl (by simp)).1
theorem dec_err (l : List UInt8) : (dec l).2.2 = 0 ∨ dec l = (0, 0, 10) ∨ dec l = (0, 0, 11) := (decF_bound 10 0 0 l rfl (by simp)).2

end Go.Proofs.YtgdecjacbkicmaaDoor.Oct
