/-
  The plain mathematics of layer 2 (hash): the digest as the document defines it, on words of 32 bits. No program, no model.
-/
namespace Go.Proofs.YtjeahlfmapacfaaDoor.Sha

def rotr (x : UInt32) (n : Nat) : UInt32 := UInt32.ofNat ((x.toNat * 2 ^ (32 - n) % 4294967296) ||| (x.toNat / 2 ^ n))
def shr (x : UInt32) (n : Nat) : UInt32 := UInt32.ofNat (x.toNat / 2 ^ n)
def turns (x : UInt32) (a b c : Nat) : UInt32 := rotr x a ^^^ rotr x b ^^^ rotr x c
def spread (x : UInt32) (a b c : Nat) : UInt32 := rotr x a ^^^ rotr x b ^^^ shr x c

def kTab : List UInt32 := [
  0x428a2f98, 0x71374491, 0xb5c0fbcf, 0xe9b5dba5, 0x3956c25b, 0x59f111f1, 0x923f82a4, 0xab1c5ed5,
  0xd807aa98, 0x12835b01, 0x243185be, 0x550c7dc3, 0x72be5d74, 0x80deb1fe, 0x9bdc06a7, 0xc19bf174,
  0xe49b69c1, 0xefbe4786, 0x0fc19dc6, 0x240ca1cc, 0x2de92c6f, 0x4a7484aa, 0x5cb0a9dc, 0x76f988da,
  0x983e5152, 0xa831c66d, 0xb00327c8, 0xbf597fc7, 0xc6e00bf3, 0xd5a79147, 0x06ca6351, 0x14292967,
  0x27b70a85, 0x2e1b2138, 0x4d2c6dfc, 0x53380d13, 0x650a7354, 0x766a0abb, 0x81c2c92e, 0x92722c85,
  0xa2bfe8a1, 0xa81a664b, 0xc24b8b70, 0xc76c51a3, 0xd192e819, 0xd6990624, 0xf40e3585, 0x106aa070,
  0x19a4c116, 0x1e376c08, 0x2748774c, 0x34b0bcb5, 0x391c0cb3, 0x4ed8aa4a, 0x5b9cca4f, 0x682e6ff3,
  0x748f82ee, 0x78a5636f, 0x84c87814, 0x8cc70208, 0x90befffa, 0xa4506ceb, 0xbef9a3f7, 0xc67178f2]

structure St where
  a : UInt32
  b : UInt32
  c : UInt32
  d : UInt32
  e : UInt32
  f : UInt32
  g : UInt32
  h : UInt32

def start : St := ⟨0x6a09e667, 0xbb67ae85, 0x3c6ef372, 0xa54ff53a, 0x510e527f, 0x9b05688c, 0x1f83d9ab, 0x5be0cd19⟩

def St.words (s : St) : List UInt32 := [s.a, s.b, s.c, s.d, s.e, s.f, s.g, s.h]
def xOf (s : St) (k w : UInt32) : UInt32 := s.h + turns s.e 6 11 25 + ((s.e &&& s.f) ^^^ (~~~s.e &&& s.g)) + k + w
def yOf (s : St) : UInt32 := turns s.a 2 13 22 + ((s.a &&& s.b) ^^^ (s.a &&& s.c) ^^^ (s.b &&& s.c))
def rnd (s : St) (k w : UInt32) : St := ⟨xOf s k w + yOf s, s.a, s.b, s.c, s.d + xOf s k w, s.e, s.f, s.g⟩
def rounds (s : St) (W : List UInt32) : Nat → St
  | 0 => s
  | t + 1 => rnd (rounds s W t) (kTab.getD t 0) (W.getD t 0)
def St.plus (s r : St) : St := ⟨s.a + r.a, s.b + r.b, s.c + r.c, s.d + r.d, s.e + r.e, s.f + r.f, s.g + r.g, s.h + r.h⟩
def after (s : St) (W : List UInt32) : St := s.plus (rounds s W 64)

def word (b : List UInt8) (t : Nat) : UInt32 := UInt32.ofNat ((b.getD (4 * t) 0).toNat * 16777216 + (b.getD (4 * t + 1) 0).toNat * 65536 + (b.getD (4 * t + 2) 0).toNat * 256 + (b.getD (4 * t + 3) 0).toNat)
/-- the next word that is made of those before -/
def next (L : List UInt32) : UInt32 := spread (L.getD (L.length - 2) 0) 17 19 10 + L.getD (L.length - 7) 0 + spread (L.getD (L.length - 15) 0) 7 18 3 + L.getD (L.length - 16) 0
def firstTo (b : List UInt8) : Nat → List UInt32
  | 0 => []
  | t + 1 => firstTo b t ++ [word b t]
def moreTo (b : List UInt8) : Nat → List UInt32
  | 0 => firstTo b 16
  | t + 1 => moreTo b t ++ [next (moreTo b t)]
def wordsOf (b : List UInt8) : List UInt32 := moreTo b 48

theorem firstTo_length (b : List UInt8) : ∀ t, (firstTo b t).length = t
  | 0 => rfl
  | t + 1 => by simp [firstTo, firstTo_length b t]
theorem moreTo_length (b : List UInt8) : ∀ t, (moreTo b t).length = 16 + t
  | 0 => by simp [moreTo, firstTo_length]
  | t + 1 => by simp [moreTo, moreTo_length b t]; omega

def step (s : St) (block : List UInt8) : St := after s (wordsOf block)

/-- all whole blocks, one behind the other; 'f': no more than so many -/
def foldF : Nat → St → List UInt8 → St
  | 0, s, _ => s
  | f + 1, s, m => if m.length < 64 then s else foldF f (step s (m.take 64)) (m.drop 64)
def fold (s : St) (m : List UInt8) : St := foldF m.length s m

def lenBytes (n : Nat) : List UInt8 := [UInt8.ofNat (n * 8 / 72057594037927936), UInt8.ofNat (n * 8 / 281474976710656), UInt8.ofNat (n * 8 / 1099511627776), UInt8.ofNat (n * 8 / 4294967296), UInt8.ofNat (n * 8 / 16777216), UInt8.ofNat (n * 8 / 65536), UInt8.ofNat (n * 8 / 256), UInt8.ofNat (n * 8)]
def ending (n : Nat) : List UInt8 := 128 :: (List.replicate ((119 - n % 64) % 64) 0 ++ lenBytes n)
def byteAt (s : St) (i : Nat) : UInt8 := UInt8.ofNat ((s.words.getD (i / 4) 0).toNat / 2 ^ (24 - 8 * (i % 4)))
def digest (s : St) : List UInt8 := (List.range 32).map (byteAt s)
def sum (m : List UInt8) : List UInt8 := digest (fold start (m ++ ending m.length))

theorem foldF_same : ∀ (f g : Nat) (s : St) (m : List UInt8), m.length ≤ f → m.length ≤ g → foldF f s m = foldF g s m := by
  intro f
  induction f with
  | zero =>
    intro g s m hf _
    have : m = [] := List.eq_nil_of_length_eq_zero (by omega)
    subst this
    cases g with
    | zero => rfl
    | succ g => rw [foldF, foldF, if_pos (by simp)]
  | succ f ih =>
    intro g s m hf hg
    by_cases h : m.length < 64
    · rw [foldF, if_pos h]
      cases g with
      | zero => rfl
      | succ g => rw [foldF, if_pos h]
    · cases g with
      | zero => omega
      | succ g =>
        rw [foldF, foldF, if_neg h, if_neg h]
        exact ih g _ _ (by simp; omega) (by simp; omega)
theorem fold_short {s : St} {m : List UInt8} (h : m.length < 64) : fold s m = s := by
  unfold fold
  cases hm : m.length with
  | zero => rfl
  | succ n => rw [foldF, if_pos h]
theorem fold_long {s : St} {m : List UInt8} (h : 64 ≤ m.length) : fold s m = fold (step s (m.take 64)) (m.drop 64) := by
  unfold fold
  obtain ⟨n, hn⟩ : ∃ n, m.length = n + 1 := ⟨m.length - 1, by omega⟩
  rw [hn, foldF, if_neg (by omega)]
  exact foldF_same _ _ _ _ (by simp; omega) (Nat.le_refl _)
/-- bytes behind that fill no block -/
theorem fold_more : ∀ (n : Nat) (s : St) (m x : List UInt8), m.length ≤ n → m.length % 64 + x.length < 64 → fold s (m ++ x) = fold s m := by
  intro n
  induction n with
  | zero =>
    intro s m x hn h
    have : m = [] := List.eq_nil_of_length_eq_zero (by omega)
    subst this
    rw [fold_short (m := [] ++ x) (by simpa using h), fold_short (by simp)]
  | succ n ih =>
    intro s m x hn h
    by_cases hm : m.length < 64
    · rw [fold_short (m := m ++ x) (by rw [List.length_append]; omega), fold_short (m := m) hm]
    · rw [fold_long (m := m ++ x) (by rw [List.length_append]; omega), fold_long (m := m) (by omega), List.take_append_of_le_length (by omega), List.drop_append_of_le_length (by omega)]
      exact ih _ _ _ (by rw [List.length_drop]; omega) (by rw [List.length_drop]; omega)
/-- bytes behind that fill the last block -/
theorem fold_full : ∀ (n : Nat) (s : St) (m x : List UInt8), m.length ≤ n → m.length % 64 + x.length = 64 → fold s (m ++ x) = step (fold s m) (m.drop (m.length / 64 * 64) ++ x) := by
  intro n
  induction n with
  | zero =>
    intro s m x hn h
    have : m = [] := List.eq_nil_of_length_eq_zero (by omega)
    subst this
    have hx : x.length = 64 := by simpa using h
    rw [fold_short (m := []) (by simp), List.nil_append, fold_long (by omega), List.take_of_length_le (by omega), List.drop_eq_nil_of_le (by omega), fold_short (by simp)]
    simp
  | succ n ih =>
    intro s m x hn h
    by_cases hm : m.length < 64
    · have hx : m.length + x.length = 64 := by omega
      rw [fold_long (m := m ++ x) (by rw [List.length_append]; omega), List.take_of_length_le (by rw [List.length_append]; omega), List.drop_eq_nil_of_le (by rw [List.length_append]; omega), fold_short (m := []) (by simp), fold_short (m := m) hm, show m.length / 64 * 64 = 0 by omega]
      rfl
    · rw [fold_long (m := m ++ x) (by rw [List.length_append]; omega), List.take_append_of_le_length (by omega), List.drop_append_of_le_length (by omega), ih _ _ _ (by rw [List.length_drop]; omega) (by rw [List.length_drop]; omega), ← fold_long (by omega)]
      congr 2
      rw [List.drop_drop, List.length_drop]
      congr 1
      omega

theorem sum_nil : sum [] = [0xe3, 0xb0, 0xc4, 0x42, 0x98, 0xfc, 0x1c, 0x14, 0x9a, 0xfb, 0xf4, 0xc8, 0x99, 0x6f, 0xb9, 0x24, 0x27, 0xae, 0x41, 0xe4, 0x64, 0x9b, 0x93, 0x4c, 0xa4, 0x95, 0x99, 0x1b, 0x78, 0x52, 0xb8, 0x55] := by decide +kernel
theorem sum_abc : sum [97, 98, 99] = [0xba, 0x78, 0x16, 0xbf, 0x8f, 0x01, 0xcf, 0xea, 0x41, 0x41, 0x40, 0xde, 0x5d, 0xae, 0x22, 0x23, 0xb0, 0x03, 0x61, 0xa3, 0x96, 0x17, 0x7a, 0x9c, 0xb4, 0x10, 0xff, 0x61, 0xf2, 0x00, 0x15, 0xad] := by decide +kernel
#print axioms sum_abc

end Go.Proofs.YtjeahlfmapacfaaDoor.Sha
