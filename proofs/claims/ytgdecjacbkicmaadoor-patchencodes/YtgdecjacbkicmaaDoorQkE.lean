/-
  Small laws on bytes in memory that the proofs of this seat share: what a slice of bytes that came in holds ('In'), what a slice of bytes of the call's own holds ('Own'), 'make' with a length and a capacity, 'copy' into it. Of no program.
  The plain mathematics of layer 2 (hash): the digest as the document defines it, on words of 32 bits. No program, no model.
  Layer 2 (hash): a word turned to the right; the document's s0, s1, S0, S1.
  Layer 2 (hash): the state behind a block.
  Blocks of memory told as lists of cells: what stores, loads and whole arrays do to them. Of no program.
  Layer 2 (hash): the words of a block.
  Layer 2 (hash): a state's bytes.
  Layer 2 (hash): what follows a message.
  Layer 2 (hash): a digest's block, and what writing does to it; 'isMade'.
-/
import Derived.WalkKit
import Derived.Laws.CopyOwn
import Derived.Lib.AppendStr
import Derived.Laws.IdiomStrings
import Derived.Test.YtgdecjacbkicmaaDoorChecked
import Derived.WalkSpells
import Derived.WalkLawsBesides
import Derived.Outline
import Derived.Deep.RegionHeld
import Derived.Deep.QuietTactic
import Derived.BigQuiet
import Derived.WalkSmall
import Derived.Below
import Derived.Deep.MidRow
import Derived.Deep.Draws
import Derived.Deep.RegionLaw
/- Small laws on bytes in memory that the proofs of this seat share: what a slice of bytes that came in holds ('In'), what a slice of bytes of the call's own holds ('Own'), 'make' with a length and a capacity, 'copy' into it. Of no program. -/
namespace Go.Proofs.YtgdecjacbkicmaaDoor.Hsh
open Go.RowKit

/-- bytes as cells -/
def U (l : List UInt8) : List Value := l.map fun b => Value.int .u8 (b.toNat : Int)
theorem U_length (l : List UInt8) : (U l).length = l.length := by simp [U]
theorem U_append (l r : List UInt8) : U (l ++ r) = U l ++ U r := by simp [U]
theorem U_one (l : List UInt8) : ∀ u ∈ U l, u.oneCell' = true := by
  intro u hu
  obtain ⟨_, _, rfl⟩ := List.mem_map.1 hu
  rfl
theorem U_get (l : List UInt8) (i : Nat) (h : i < l.length) : (U l)[i]? = some (.int .u8 (l[i].toNat : Int)) := by simp [U, h]
theorem U_str (s : ByteArray) : Lib.strCells s = U s.data.toList := rfl

/-- a slice of bytes that is read: its elements are l -/
def In (w : World) (a : Option Addr) (len cap : Nat) (l : List UInt8) : Prop :=
  l.length = len ∧ len ≤ cap ∧ len ≤ 140737488355328 ∧ (a = none → cap = 0) ∧
  (0 < len → ∃ b off, a = some ⟨b, off, none⟩ ∧ b < w.heap.size ∧ ∀ i c, l[i]? = some c → w.cell? ⟨b, off + i, none⟩ = some (.int .u8 (c.toNat : Int)))

theorem In.below {w w' : World} {a : Option Addr} {len cap : Nat} {l : List UInt8} (h : In w a len cap l) (hb : Below w.heap.size w w') : In w' a len cap l := by
  obtain ⟨h1, h2, h3, h4, h5⟩ := h
  refine ⟨h1, h2, h3, h4, fun hp => ?_⟩
  obtain ⟨b, off, e1, e2, e3⟩ := h5 hp
  exact ⟨b, off, e1, Nat.lt_of_lt_of_le e2 hb.size, fun i c hc => (hb.cell (p := ⟨b, off + i, none⟩) e2).trans (e3 i c hc)⟩
theorem In.nil (w : World) : In w none 0 0 [] := ⟨rfl, Nat.le_refl _, by omega, fun _ => rfl, fun h => absurd h (by omega)⟩

/-- a slice of bytes of the call's own (blocks from B on), its elements l -/
def Own (e : TypeId) (B : Nat) (w : World) (v : Value) (l : List UInt8) : Prop := w.ownsRow B e 1 v l.length (U l)

theorem Own.mono {e : TypeId} {B B' : Nat} {w : World} {v : Value} {l : List UInt8} (h : Own e B w v l) (hB : B' ≤ B) : Own e B' w v l := by
  obtain ⟨h1, h2⟩ := h
  refine ⟨h1, ?_⟩
  rcases h2 with h2 | ⟨g, cap, cur, e1, e2, r⟩
  · exact .inl h2
  · exact .inr ⟨g, cap, cur, e1, by omega, r⟩

/-- what lies below a bound that the own row lies below, too, stays owned -/
theorem Own.below {e : TypeId} {B B' : Nat} {w w' : World} {v : Value} {l : List UInt8} (h : Own e B w v l) (hb : Below B' w w') (hB : w.heap.size ≤ B') : Own e B w' v l := by
  obtain ⟨h1, h2⟩ := h
  refine ⟨h1, ?_⟩
  rcases h2 with h2 | ⟨g, cap, cur, e1, e2, hg, r⟩
  · exact .inl h2
  · refine .inr ⟨g, cap, cur, e1, e2, ?_, r⟩
    rw [hb.block g (Nat.lt_of_lt_of_le (lt_of_block hg) hB)]; exact hg

theorem Own.toIn {e : TypeId} {B : Nat} {w : World} {g cap : Nat} {l : List UInt8} (h : Own e B w (.slice (some ⟨g, 0, none⟩) l.length cap) l) (hc : l.length ≤ 140737488355328) : In w (some ⟨g, 0, none⟩) l.length cap l := by
  have hh := h
  obtain ⟨h1, h2⟩ := h
  rcases h2 with h2 | ⟨g', cap', cur, e1, e2, hg, e3, _⟩
  · simp at h2
  · simp only [Value.slice.injEq, Option.some.injEq, Addr.mk.injEq] at e1
    obtain ⟨⟨rfl, _⟩, _, rfl⟩ := e1
    refine ⟨rfl, e3, hc, by simp, fun _ => ⟨g, 0, rfl, lt_of_block hg, fun i c hi => ?_⟩⟩
    have hlt : i < l.length := (List.getElem?_eq_some_iff.1 hi).1
    have := World.ownsRow.cellAt hh i (by omega)
    rw [Nat.zero_add, this]
    have e : l[i] = c := by have := (List.getElem?_eq_some_iff.1 hi).2; exact this
    rw [U_get l i hlt, e]

/-- the shape of what owns a byte at the least -/
theorem Own.shape {e : TypeId} {B : Nat} {w : World} {v : Value} {l : List UInt8} (h : Own e B w v l) (hp : 0 < l.length) :
    ∃ g cap, v = .slice (some ⟨g, 0, none⟩) l.length cap ∧ B ≤ g ∧ g < w.heap.size ∧ l.length ≤ cap ∧ cap ≤ maxLen := by
  rcases h.2 with ⟨_, h2⟩ | ⟨g, cap, cur, e1, e2, hg, e3, e4, _⟩
  · omega
  · exact ⟨g, cap, e1, e2, lt_of_block hg, e3, e4⟩

/-- so many noughts -/
def noughts (m : Nat) : List Value := List.replicate m (Value.int .u8 0)
theorem noughts_length (m : Nat) : (noughts m).length = m := by simp [noughts]

/-- 'make([]byte, n, m)' -/
theorem wpList_make_two {P : Program} (w : World) {ops : Array Oper} {rest : List Oper} {o : Oper} {a : Act} {Q : Exit → Act → World → Prop}
    (hg : o.guard = none) (l c : Operand) (t : TypeId) (hop : o.op = Op.makeSlice t l c)
    (e : TypeId) (i : TypeInfo) (h1 : P.underlying t = some (.slice e)) (h2 : P.info? e = some i) (h3 : i.zero = some (.int .u8 0)) (h4 : i.size = 1) (h5 : i.bytes = 1)
    (kl kc : IntKind) (L C : Int) (n m : Nat) (hl : a.eval l = .int kl L) (hc : a.eval c = .int kc C) (hL : L = (n : Int)) (hC : C = (m : Int)) (b1 : n ≤ m) (b2 : m ≤ 281474976710656)
    (hK : ∀ w', Hid (w'.heap[w.heap.size]? = some (.cells (noughts m).toArray e (0, 0))) → Hid (w'.heap.size = w.heap.size + 1) → Below w.heap.size w w' → wpList P ops Q rest (a.put o.dst (.slice (some ⟨w.heap.size, 0, none⟩) n m)) w') :
    wpList P ops Q (o :: rest) a w := by
  refine wpList_plain hg fun K hK' => ?_
  subst hL hC
  have hrun := run_make (P := P) w t e i (.int .u8 0) h1 h2 h3 kl kc (n : Int) (m : Int) (by omega) (by omega) (by rw [h5]; omega) (by omega)
  have hz : (Value.int IntKind.u8 0).cells = #[Value.int .u8 0] := rfl
  simp only [Int.toNat_natCast, h4, Nat.mul_one, hz] at hrun
  have hcells : madeCells #[Value.int IntKind.u8 0] m = (noughts m).toArray := by
    unfold noughts; rw [← toList_madeCells_one _ m, Array.toArray_toList]
  rw [hcells] at hrun
  unfold Oper.wp
  simp [execOp, hop, hl, hc, hrun, Result.andThen]
  refine hK' _ _ (hK _ ?_ ?_ ?_)
  · exact heap_alloc_new w _
  · show (w.alloc _).heap.size = _; simp
  · exact (Below.refl _ _).alloc (Nat.le_refl _) _

theorem splice_zero (m : Nat) (l : List Value) : splice (noughts m) 0 l = l ++ noughts (m - l.length) := by
  simp [splice, noughts]

/-- behind a copy into a new row -/
theorem own_of_splice {e : TypeId} {B : Nat} {w : World} {g m : Nat} {l : List UInt8} (hB : B ≤ g) (hm : m ≤ maxLen) (hl : l.length ≤ m) (h : w.heap[g]? = some (.cells (splice (noughts m) 0 (U l)).toArray e (0, 0))) :
    Own e B w (.slice (some ⟨g, 0, none⟩) l.length m) l := by
  have hs := splice_zero m (U l)
  refine ⟨by simp [U_length], .inr ⟨g, m, _, rfl, hB, h, hl, hm, ?_, ?_⟩⟩
  · rw [hs]; simp [U_length, noughts_length]; omega
  · rw [hs]; simp [U_length]

theorem cells_of_in {w : World} {a : Option Addr} {len cap : Nat} {l : List UInt8} (h : In w a len cap l) (hp : 0 < (U l).length) : ∃ ad, a = some ad ∧ ∀ j v, (U l)[j]? = some v → w.cell? (ad.add j) = some v := by
  obtain ⟨h1, _, _, _, h5⟩ := h
  obtain ⟨b, off, e1, _, e3⟩ := h5 (by rw [U_length] at hp; omega)
  refine ⟨_, e1, fun j v hj => ?_⟩
  have hlt : j < l.length := by have := (List.getElem?_eq_some_iff.1 hj).1; rwa [U_length] at this
  rw [U_get l j hlt] at hj
  rw [Addr.add_lit, e3 j l[j] (by simp [hlt])]
  exact hj

/-- 'string(b)' of what is owned -/
theorem string_own {P : Program} {e t9 t22 : TypeId} (h22 : P.underlying t22 = some (.slice e)) (h5 : P.underlying e = some (.int .u8)) (h9 : P.underlying t9 = some .string)
    {B : Nat} {w : World} {g cap : Nat} {l : List UInt8} (h : Own e B w (.slice (some ⟨g, 0, none⟩) l.length cap) l) :
    (convert t22 t9 (.slice (some ⟨g, 0, none⟩) l.length cap)).run P w = .ok (.string ⟨l.toArray⟩) w := by
  refine run_convert_bytes_back w t22 t9 e ⟨g, 0, none⟩ cap l h22 h5 h9 fun j hj => ?_
  have := World.ownsRow.cellAt h j (by omega)
  rw [Addr.add_lit, Nat.zero_add, this, U_get l j hj]

end Go.Proofs.YtgdecjacbkicmaaDoor.Hsh

/- The plain mathematics of layer 2 (hash): the digest as the document defines it, on words of 32 bits. No program, no model. -/
namespace Go.Proofs.YtgdecjacbkicmaaDoor.Sha

def rotr (x : UInt32) (n : Nat) : UInt32 := UInt32.ofNat ((x.toNat * 2 ^ (32 - n) % 4294967296) ||| (x.toNat / 2 ^ n))
def shr (x : UInt32) (n : Nat) : UInt32 := UInt32.ofNat (x.toNat / 2 ^ n)
def turns (x : UInt32) (a b c : Nat) : UInt32 := rotr x a ^^^ rotr x b ^^^ rotr x c
def spread (x : UInt32) (a b c : Nat) : UInt32 := rotr x a ^^^ rotr x b ^^^ shr x c

def kTab : List UInt32 := [
  0x428a2f98, 0x71374491, 0xb5c0fbcf, 0xe9b5dba5, 0x3956c25b, 0x59f111f1, 0x923f82a4, 0xab1c5ed5,
  0xd807aa98, 0x12835b01, 0x243185be, 0x550c7dc3, 0x72be5d74, 0x80deb1fe, 0x9bdc06a7, 0xc19bf174,
  0xe49b69c1, 0xefbe4786, 0x0fc19dc6, 0x240ca1cc, 0x2de92c6f, 0x4a7484aa, 0x5cb0a9dc, 0x76f988da,
  0x983e5152, 0xa831c66d, 0xb00327c8, 0xbf597fc7, 0xc6e00bf3, 0xd5a79147, 0x06ca6351, 0x14292967,
  0x27b70a85, 0x2e1b2138, 0x4d2c6dfc, 0x53380d13, 0x650a7354, 0x766a0abb, 0x81c2c92e, 0x92722c85,
  0xa2bfe8a1, 0xa81a664b, 0xc24b8b70, 0xc76c51a3, 0xd192e819, 0xd6990624, 0xf40e3585, 0x106aa070,
  0x19a4c116, 0x1e376c08, 0x2748774c, 0x34b0bcb5, 0x391c0cb3, 0x4ed8aa4a, 0x5b9cca4f, 0x682e6ff3,
  0x748f82ee, 0x78a5636f, 0x84c87814, 0x8cc70208, 0x90befffa, 0xa4506ceb, 0xbef9a3f7, 0xc67178f2]

structure St where
  a : UInt32
  b : UInt32
  c : UInt32
  d : UInt32
  e : UInt32
  f : UInt32
  g : UInt32
  h : UInt32

def start : St := ⟨0x6a09e667, 0xbb67ae85, 0x3c6ef372, 0xa54ff53a, 0x510e527f, 0x9b05688c, 0x1f83d9ab, 0x5be0cd19⟩

def St.words (s : St) : List UInt32 := [s.a, s.b, s.c, s.d, s.e, s.f, s.g, s.h]
def xOf (s : St) (k w : UInt32) : UInt32 := s.h + turns s.e 6 11 25 + ((s.e &&& s.f) ^^^ (~~~s.e &&& s.g)) + k + w
def yOf (s : St) : UInt32 := turns s.a 2 13 22 + ((s.a &&& s.b) ^^^ (s.a &&& s.c) ^^^ (s.b &&& s.c))
def rnd (s : St) (k w : UInt32) : St := ⟨xOf s k w + yOf s, s.a, s.b, s.c, s.d + xOf s k w, s.e, s.f, s.g⟩
def rounds (s : St) (W : List UInt32) : Nat → St
  | 0 => s
  | t + 1 => rnd (rounds s W t) (kTab.getD t 0) (W.getD t 0)
def St.plus (s r : St) : St := ⟨s.a + r.a, s.b + r.b, s.c + r.c, s.d + r.d, s.e + r.e, s.f + r.f, s.g + r.g, s.h + r.h⟩
def after (s : St) (W : List UInt32) : St := s.plus (rounds s W 64)

def word (b : List UInt8) (t : Nat) : UInt32 := UInt32.ofNat ((b.getD (4 * t) 0).toNat * 16777216 + (b.getD (4 * t + 1) 0).toNat * 65536 + (b.getD (4 * t + 2) 0).toNat * 256 + (b.getD (4 * t + 3) 0).toNat)
/-- the next word that is made of those before -/
def next (L : List UInt32) : UInt32 := spread (L.getD (L.length - 2) 0) 17 19 10 + L.getD (L.length - 7) 0 + spread (L.getD (L.length - 15) 0) 7 18 3 + L.getD (L.length - 16) 0
def firstTo (b : List UInt8) : Nat → List UInt32
  | 0 => []
  | t + 1 => firstTo b t ++ [word b t]
def moreTo (b : List UInt8) : Nat → List UInt32
  | 0 => firstTo b 16
  | t + 1 => moreTo b t ++ [next (moreTo b t)]
def wordsOf (b : List UInt8) : List UInt32 := moreTo b 48

theorem firstTo_length (b : List UInt8) : ∀ t, (firstTo b t).length = t
  | 0 => rfl
  | t + 1 => by simp [firstTo, firstTo_length b t]
theorem moreTo_length (b : List UInt8) : ∀ t, (moreTo b t).length = 16 + t
  | 0 => by simp [moreTo, firstTo_length]
  | t + 1 => by simp [moreTo, moreTo_length b t]; omega

def step (s : St) (block : List UInt8) : St := after s (wordsOf block)

/-- all whole blocks, one behind the other; 'f': no more than so many -/
def foldF : Nat → St → List UInt8 → St
  | 0, s, _ => s
  | f + 1, s, m => if m.length < 64 then s else foldF f (step s (m.take 64)) (m.drop 64)
def fold (s : St) (m : List UInt8) : St := foldF m.length s m

def lenBytes (n : Nat) : List UInt8 := [UInt8.ofNat (n * 8 / 72057594037927936), UInt8.ofNat (n * 8 / 281474976710656), UInt8.ofNat (n * 8 / 1099511627776), UInt8.ofNat (n * 8 / 4294967296), UInt8.ofNat (n * 8 / 16777216), UInt8.ofNat (n * 8 / 65536), UInt8.ofNat (n * 8 / 256), UInt8.ofNat (n * 8)]
def ending (n : Nat) : List UInt8 := 128 :: (List.replicate ((119 - n % 64) % 64) 0 ++ lenBytes n)
def byteAt (s : St) (i : Nat) : UInt8 := UInt8.ofNat ((s.words.getD (i / 4) 0).toNat / 2 ^ (24 - 8 * (i % 4)))
def digest (s : St) : List UInt8 := (List.range 32).map (byteAt s)
def sum (m : List UInt8) : List UInt8 := digest (fold start (m ++ ending m.length))

theorem foldF_same : ∀ (f g : Nat) (s : St) (m : List UInt8), m.length ≤ f → m.length ≤ g → foldF f s m = foldF g s m := by
  intro f
  induction f with
  | zero =>
    intro g s m hf _
    have : m = [] := List.eq_nil_of_length_eq_zero (by omega)
    subst this
    cases g with
    | zero => rfl
    | succ g => rw [foldF, foldF, if_pos (by simp)]
  | succ f ih =>
    intro g s m hf hg
    by_cases h : m.length < 64
    · rw [foldF, if_pos h]
      cases g with
      | zero => rfl
      | succ g => rw [foldF, if_pos h]
    · cases g with
      | zero => omega
      | succ g =>
        rw [foldF, foldF, if_neg h, if_neg h]
        exact ih g _ _ (by simp; omega) (by simp; omega)
theorem fold_short {s : St} {m : List UInt8} (h : m.length < 64) : fold s m = s := by
  unfold fold
  cases hm : m.length with
  | zero => rfl
  | succ n => rw [foldF, if_pos h]
theorem fold_long {s : St} {m : List UInt8} (h : 64 ≤ m.length) : fold s m = fold (step s (m.take 64)) (m.drop 64) := by
  unfold fold
  obtain ⟨n, hn⟩ : ∃ n, m.length = n + 1 := ⟨m.length - 1, by omega⟩
  rw [hn, foldF, if_neg (by omega)]
  exact foldF_same _ _ _ _ (by simp; omega) (Nat.le_refl _)
/-- bytes behind that fill no block -/
theorem fold_more : ∀ (n : Nat) (s : St) (m x : List UInt8), m.length ≤ n → m.length % 64 + x.length < 64 → fold s (m ++ x) = fold s m := by
  intro n
  induction n with
  | zero =>
    intro s m x hn h
    have : m = [] := List.eq_nil_of_length_eq_zero (by omega)
    subst this
    rw [fold_short (m := [] ++ x) (by simpa using h), fold_short (by simp)]
  | succ n ih =>
    intro s m x hn h
    by_cases hm : m.length < 64
    · rw [fold_short (m := m ++ x) (by rw [List.length_append]; omega), fold_short (m := m) hm]
    · rw [fold_long (m := m ++ x) (by rw [List.length_append]; omega), fold_long (m := m) (by omega), List.take_append_of_le_length (by omega), List.drop_append_of_le_length (by omega)]
      exact ih _ _ _ (by rw [List.length_drop]; omega) (by rw [List.length_drop]; omega)
/-- bytes behind that fill the last block -/
theorem fold_full : ∀ (n : Nat) (s : St) (m x : List UInt8), m.length ≤ n → m.length % 64 + x.length = 64 → fold s (m ++ x) = step (fold s m) (m.drop (m.length / 64 * 64) ++ x) := by
  intro n
  induction n with
  | zero =>
    intro s m x hn h
    have : m = [] := List.eq_nil_of_length_eq_zero (by omega)
    subst this
    have hx : x.length = 64 := by simpa using h
    rw [fold_short (m := []) (by simp), List.nil_append, fold_long (by omega), List.take_of_length_le (by omega), List.drop_eq_nil_of_le (by omega), fold_short (by simp)]
    simp
  | succ n ih =>
    intro s m x hn h
    by_cases hm : m.length < 64
    · have hx : m.length + x.length = 64 := by omega
      rw [fold_long (m := m ++ x) (by rw [List.length_append]; omega), List.take_of_length_le (by rw [List.length_append]; omega), List.drop_eq_nil_of_le (by rw [List.length_append]; omega), fold_short (m := []) (by simp), fold_short (m := m) hm, show m.length / 64 * 64 = 0 by omega]
      rfl
    · rw [fold_long (m := m ++ x) (by rw [List.length_append]; omega), List.take_append_of_le_length (by omega), List.drop_append_of_le_length (by omega), ih _ _ _ (by rw [List.length_drop]; omega) (by rw [List.length_drop]; omega), ← fold_long (by omega)]
      congr 2
      rw [List.drop_drop, List.length_drop]
      congr 1
      omega

theorem sum_nil : sum [] = [0xe3, 0xb0, 0xc4, 0x42, 0x98, 0xfc, 0x1c, 0x14, 0x9a, 0xfb, 0xf4, 0xc8, 0x99, 0x6f, 0xb9, 0x24, 0x27, 0xae, 0x41, 0xe4, 0x64, 0x9b, 0x93, 0x4c, 0xa4, 0x95, 0x99, 0x1b, 0x78, 0x52, 0xb8, 0x55] := by decide +kernel
theorem sum_abc : sum [97, 98, 99] = [0xba, 0x78, 0x16, 0xbf, 0x8f, 0x01, 0xcf, 0xea, 0x41, 0x41, 0x40, 0xde, 0x5d, 0xae, 0x22, 0x23, 0xb0, 0x03, 0x61, 0xa3, 0x96, 0x17, 0x7a, 0x9c, 0xb4, 0x10, 0xff, 0x61, 0xf2, 0x00, 0x15, 0xad] := by decide +kernel

end Go.Proofs.YtgdecjacbkicmaaDoor.Sha

/- Layer 2 (hash): a word turned to the right; the document's s0, s1, S0, S1. -/
namespace Go.Proofs.YtgdecjacbkicmaaDoor.Hsh
open Go.RowKit Sha

theorem and31 : ∀ n : Fin 32, 0 < n.val → bits BinOp.and IntKind.u64 (IntKind.u64.wrap (-(n.val : Int))) 31 = 32 - (n.val : Int) := by decide +kernel

theorem toNat32 {n : Nat} (h : n < 4294967296) : (UInt32.ofNat n).toNat = n := by
  rw [UInt32.toNat_ofNat']; omega
theorem lt32 (x : UInt32) : x.toNat < 4294967296 := x.toNat_lt

theorem rot_eq (x : UInt32) (n : Nat) (h1 : 1 ≤ n) (h2 : n ≤ 31) : bits BinOp.or IntKind.u32 ((x.toNat : Int) * 2 ^ (32 - n) % 4294967296) ((x.toNat : Int) / 2 ^ (32 - (32 - n))) = ((rotr x n).toNat : Int) := by
  have e1 : (x.toNat : Int) * 2 ^ (32 - n) % 4294967296 = ((x.toNat * 2 ^ (32 - n) % 4294967296 : Nat) : Int) := by simp
  have e2 : (x.toNat : Int) / 2 ^ (32 - (32 - n)) = ((x.toNat / 2 ^ n : Nat) : Int) := by rw [show 32 - (32 - n) = n by omega]; simp
  have b1 : x.toNat * 2 ^ (32 - n) % 4294967296 < 4294967296 := Nat.mod_lt _ (by omega)
  have b2 : x.toNat / 2 ^ n < 4294967296 := Nat.lt_of_le_of_lt (Nat.div_le_self _ _) (lt32 x)
  rw [e1, e2, u32_or_nat _ _ b1 b2]
  unfold rotr
  rw [toNat32 (Nat.or_lt_two_pow (n := 32) b1 b2)]

theorem xor_eq (x y : UInt32) : bits BinOp.xor IntKind.u32 (x.toNat : Int) (y.toNat : Int) = ((x ^^^ y).toNat : Int) := by
  rw [u32_xor_nat _ _ (lt32 x) (lt32 y), UInt32.toNat_xor]
theorem and_eq (x y : UInt32) : bits BinOp.and IntKind.u32 (x.toNat : Int) (y.toNat : Int) = ((x &&& y).toNat : Int) := by
  rw [u32_and_nat _ _ (lt32 x) (lt32 y), UInt32.toNat_and]
theorem add_eq (x y : UInt32) : IntKind.u32.wrap ((x.toNat : Int) + (y.toNat : Int)) = ((x + y).toNat : Int) := by
  rw [IntKind.wrap_u32, UInt32.toNat_add]; omega

theorem rotl (x : UInt32) (n : Nat) (w : World) (h1 : 1 ≤ n) (h2 : n ≤ 31) :
    Calls Tryd.prog 84 #[.int .u32 (x.toNat : Int), .int .i64 (-(n : Int))] w fun e w' => e = .returned (.int .u32 ((rotr x n).toNat : Int)) ∧ w = w' := by
  have ha := and31 ⟨n, by omega⟩ h1
  simp only at ha
  have q1 : (1 : Int) ≤ (n : Int) := by omega
  have q2 : (n : Int) ≤ 31 := by omega
  have q3 : (x.toNat : Int) < 4294967296 := by have := lt32 x; omega
  obtain ⟨X, hX⟩ : ∃ X, X = x.toNat := ⟨_, rfl⟩
  have HE : Hid _ := rot_eq x n h1 h2
  rw [← hX] at q3 HE ⊢
  clear hX
  go_enter Tryd.func84, Tryd.ntmps84
  go_wp2
  go_ret
  exact ⟨congrArg (fun z => Ending.returned (Value.int IntKind.u32 z)) HE.out, rfl⟩

theorem rot_is (x : UInt32) (n : Nat) (w : World) (h1 : 1 ≤ n) (h2 : n ≤ 31) :
    Calls Tryd.prog 81 #[.int .u32 (x.toNat : Int), .int .i64 (n : Int)] w fun e w' => e = .returned (.int .u32 ((rotr x n).toNat : Int)) ∧ w = w' := by
  go_enter Tryd.func81, Tryd.ntmps81
  go_wp2_with (go_at_call 84; refine (rotl x n _ h1 h2).mono ?_; rintro e w' ⟨rfl, rfl⟩)
  go_ret
  exact ⟨rfl, rfl⟩

theorem turns_is (x : UInt32) (a b c : Nat) (w : World) (ha : 1 ≤ a) (ha' : a ≤ 31) (hb : 1 ≤ b) (hb' : b ≤ 31) (hc : 1 ≤ c) (hc' : c ≤ 31) :
    Calls Tryd.prog 73 #[.int .u32 (x.toNat : Int), .int .i64 (a : Int), .int .i64 (b : Int), .int .i64 (c : Int)] w fun e w' => e = .returned (.int .u32 ((turns x a b c).toNat : Int)) ∧ w = w' := by
  go_enter Tryd.func73, Tryd.ntmps73
  go_wp2_with fail
  refine (rot_is x a _ ha ha').mono ?_
  rintro e w1 ⟨rfl, rfl⟩
  go_wp2_with fail
  refine (rot_is x b _ hb hb').mono ?_
  rintro e w1 ⟨rfl, rfl⟩
  go_wp2_with fail
  refine (rot_is x c _ hc hc').mono ?_
  rintro e w1 ⟨rfl, rfl⟩
  go_wp2
  go_ret
  refine ⟨?_, rfl⟩
  have e1 := xor_eq (rotr x a) (rotr x b)
  have e2 := xor_eq (rotr x a ^^^ rotr x b) (rotr x c)
  exact congrArg (fun z => Ending.returned (Value.int IntKind.u32 z)) (by rw [e1, e2]; rfl)

theorem shr_eq (x : UInt32) (n : Nat) : (x.toNat : Int) / 2 ^ n = ((shr x n).toNat : Int) := by
  unfold shr
  rw [toNat32 (Nat.lt_of_le_of_lt (Nat.div_le_self _ _) (lt32 x))]
  simp

theorem spread_is (x : UInt32) (a b c : Nat) (w : World) (ha : 1 ≤ a) (ha' : a ≤ 31) (hb : 1 ≤ b) (hb' : b ≤ 31) (hc : 1 ≤ c) (hc' : c ≤ 31) :
    Calls Tryd.prog 74 #[.int .u32 (x.toNat : Int), .int .i64 (a : Int), .int .i64 (b : Int), .int .i64 (c : Int)] w fun e w' => e = .returned (.int .u32 ((spread x a b c).toNat : Int)) ∧ ∃ n, w' = w.drewN n := by
  have q1 : (1 : Int) ≤ (c : Int) := by omega
  have q2 : (c : Int) ≤ 31 := by omega
  go_enter Tryd.func74, Tryd.ntmps74
  go_wp2_with fail
  go_region_held (fun _ => True) (trivial)
    (first
    | (go_at_call_of 81 (Value.int IntKind.i64 (a : Int)); refine (rot_is x a _ ha ha').mono ?_; rintro e w1 ⟨rfl, rfl⟩)
    | (go_at_call_of 81 (Value.int IntKind.i64 (b : Int)); refine (rot_is x b _ hb hb').mono ?_; rintro e w1 ⟨rfl, rfl⟩))
  go_wp2
  go_ret
  refine ⟨?_, 1, rfl⟩
  have e1 := xor_eq (rotr x a) (rotr x b)
  have e2 := xor_eq (rotr x a ^^^ rotr x b) (shr x c)
  exact congrArg (fun z => Ending.returned (Value.int IntKind.u32 z)) (by rw [shr_eq, e1, e2]; rfl)

end Go.Proofs.YtgdecjacbkicmaaDoor.Hsh

/- Layer 2 (hash): the state behind a block. -/
namespace Go.Proofs.YtgdecjacbkicmaaDoor.Hsh
open Go.RowKit Sha

/-- the table k, as the program lays it -/
def KT (w : World) : Prop := 1 < w.heap.size ∧ ∀ t, t < 64 → w.cell? ⟨1, t, none⟩ = some (.int .u32 ((kTab.getD t 0).toNat : Int))
theorem KT.below {w w' : World} (h : KT w) (hb : Below w.heap.size w w') : KT w' := ⟨Nat.lt_of_lt_of_le h.1 hb.size, fun t ht => (hb.cell (p := ⟨1, t, none⟩) h.1).trans (h.2 t ht)⟩

/-- words as cells -/
def V (l : List UInt32) : List Value := l.map fun x => Value.int .u32 (x.toNat : Int)
theorem V_length (l : List UInt32) : (V l).length = l.length := by simp [V]
theorem V_get (l : List UInt32) (i : Nat) (h : i < l.length) : (V l)[i]? = some (.int .u32 ((l.getD i 0).toNat : Int)) := by simp [V, h]

theorem addm (x y : UInt32) : ((x.toNat : Int) + (y.toNat : Int)) % 4294967296 = ((x + y).toNat : Int) := by
  rw [UInt32.toNat_add]; omega
theorem not_eq (x : UInt32) : bits BinOp.xor IntKind.u32 IntKind.u32.max (x.toNat : Int) = ((~~~x).toNat : Int) := by
  have h : IntKind.u32.max = ((0xffffffff : UInt32).toNat : Int) := by decide
  rw [h, xor_eq]
  congr 2

/-- three new blocks -/
theorem three (w : World) (A B C : Obj) (W0 : World) (h : ((w.alloc A).alloc B).alloc C = W0) : W0.heap[w.heap.size]? = some A ∧ W0.heap[w.heap.size + 1]? = some B ∧ W0.heap[w.heap.size + 1 + 1]? = some C ∧ Below w.heap.size w W0 := by
  subst h
  have e : (w.alloc A).heap.size = w.heap.size + 1 := by simp
  have e2 : ((w.alloc A).alloc B).heap.size = w.heap.size + 1 + 1 := by simp
  refine ⟨?_, ?_, ?_, (((Below.refl _ _).alloc (Nat.le_refl _) _).alloc (by simp) _).alloc (by simp; omega) _⟩
  · rw [Below.heap_alloc _ _ _ (by rw [e2]; omega), Below.heap_alloc _ _ _ (by rw [e]; omega)]; exact heap_alloc_new w A
  · rw [Below.heap_alloc _ _ _ (by rw [e2]; omega), ← e]; exact heap_alloc_new _ B
  · rw [← e2]; exact heap_alloc_new _ C

theorem cell_at {w : World} {b i : Nat} {C : Array Value} {t : TypeId} {v : Value} (h : w.heap[b]? = some (.cells C t (0, 0))) (hv : C[i]? = some v) : w.cell? ⟨b, i, none⟩ = some v := by
  rw [cell_of_row w b i C t (0, 0) h]; exact hv
theorem free_at {w : World} {b : Nat} (i : Nat) {C : Array Value} {t : TypeId} (h : w.heap[b]? = some (.cells C t (0, 0))) : w.frozen? ⟨b, i, none⟩ = false := frozen_of_row w b i C t h

set_option maxHeartbeats 1000000 in
set_option maxRecDepth 100000 in
theorem after_is (s : St) (W : List UInt32) (X : Array Value) (hW : W.length = 64) (hX : X = (V W).toArray) (w : World) (hk : KT w) :
    Calls Tryd.prog 52 #[.agg #[.int .u32 (s.a.toNat : Int), .int .u32 (s.b.toNat : Int), .int .u32 (s.c.toNat : Int), .int .u32 (s.d.toNat : Int), .int .u32 (s.e.toNat : Int), .int .u32 (s.f.toNat : Int), .int .u32 (s.g.toNat : Int), .int .u32 (s.h.toNat : Int)], .agg X] w
      fun e w' => e = .returned (.agg #[.int .u32 ((after s W).a.toNat : Int), .int .u32 ((after s W).b.toNat : Int), .int .u32 ((after s W).c.toNat : Int), .int .u32 ((after s W).d.toNat : Int), .int .u32 ((after s W).e.toNat : Int), .int .u32 ((after s W).f.toNat : Int), .int .u32 ((after s W).g.toNat : Int), .int .u32 ((after s W).h.toNat : Int)]) ∧ Below w.heap.size w w' := by
  have HX : Hid (X = (V W).toArray) := hX
  have HK : Hid (KT w) := hk
  clear hX hk
  go_enter Tryd.func52, Tryd.ntmps52
  go_wp2_with fail
  generalize hW0 : ((w.alloc (Obj.cells #[Value.int IntKind.u32 (s.a.toNat : Int), Value.int IntKind.u32 (s.b.toNat : Int), Value.int IntKind.u32 (s.c.toNat : Int), Value.int IntKind.u32 (s.d.toNat : Int), Value.int IntKind.u32 (s.e.toNat : Int), Value.int IntKind.u32 (s.f.toNat : Int), Value.int IntKind.u32 (s.g.toNat : Int), Value.int IntKind.u32 (s.h.toNat : Int)] 85)).alloc (Obj.cells X 90)).alloc (Obj.cells #[Value.int IntKind.u32 0, Value.int IntKind.u32 0, Value.int IntKind.u32 0, Value.int IntKind.u32 0, Value.int IntKind.u32 0, Value.int IntKind.u32 0, Value.int IntKind.u32 0, Value.int IntKind.u32 0] 85) = W0
  obtain ⟨hA, hB, hC, hbw⟩ := three _ _ _ _ _ hW0
  have HBW : Hid (Below w.heap.size w W0) := hbw
  have HKW : Hid (KT W0) := HK.out.below hbw
  have HC1 : Hid (∀ t, t < 64 → W0.cell? ⟨w.heap.size + 1, t, none⟩ = some (.int .u32 ((W.getD t 0).toNat : Int))) := by
    intro t ht
    refine cell_at hB ?_
    rw [HX.out, List.getElem?_toArray]
    exact V_get W t (by omega)
  have a0 : W0.cell? ⟨w.heap.size, 0, none⟩ = some (.int .u32 (s.a.toNat : Int)) := cell_at hA rfl
  have a1 : W0.cell? ⟨w.heap.size, 1, none⟩ = some (.int .u32 (s.b.toNat : Int)) := cell_at hA rfl
  have a2 : W0.cell? ⟨w.heap.size, 2, none⟩ = some (.int .u32 (s.c.toNat : Int)) := cell_at hA rfl
  have a3 : W0.cell? ⟨w.heap.size, 3, none⟩ = some (.int .u32 (s.d.toNat : Int)) := cell_at hA rfl
  have a4 : W0.cell? ⟨w.heap.size, 4, none⟩ = some (.int .u32 (s.e.toNat : Int)) := cell_at hA rfl
  have a5 : W0.cell? ⟨w.heap.size, 5, none⟩ = some (.int .u32 (s.f.toNat : Int)) := cell_at hA rfl
  have a6 : W0.cell? ⟨w.heap.size, 6, none⟩ = some (.int .u32 (s.g.toNat : Int)) := cell_at hA rfl
  have a7 : W0.cell? ⟨w.heap.size, 7, none⟩ = some (.int .u32 (s.h.toNat : Int)) := cell_at hA rfl
  have HBLK : Hid (W0.heap[w.heap.size + 1 + 1]? = some (.cells #[.int .u32 0, .int .u32 0, .int .u32 0, .int .u32 0, .int .u32 0, .int .u32 0, .int .u32 0, .int .u32 0] 85 (0, 0))) := hC
  clear hA hB hC hbw
  clear hW0
  go_quiet (fail)
  go_wp2_with fail
  go_loopw [5, 6, 7, 8, 9, 10, 11, 12, 32] (fun va vb vc vd ve vf vg vh i wr => ∃ (t nn : Nat) (r : St), i = .int .i64 t ∧ t ≤ 64 ∧ wr = W0.drewN nn ∧ va = .int .u32 (r.a.toNat : Int) ∧ vb = .int .u32 (r.b.toNat : Int) ∧ vc = .int .u32 (r.c.toNat : Int) ∧ vd = .int .u32 (r.d.toNat : Int) ∧ ve = .int .u32 (r.e.toNat : Int) ∧ vf = .int .u32 (r.f.toNat : Int) ∧ vg = .int .u32 (r.g.toNat : Int) ∧ vh = .int .u32 (r.h.toNat : Int) ∧ Hid (r = rounds s W t))
    (fun _ _ _ _ _ _ _ _ i _ => 64 - (intOf i).toNat)
  case atStart => exact ⟨0, _, s, rfl, by omega, rfl, rfl, rfl, rfl, rfl, rfl, rfl, rfl, rfl, rfl⟩
  case round =>
    obtain ⟨t, nn, r, rfl, ht, rfl, rfl, rfl, rfl, rfl, rfl, rfl, rfl, rfl, hr⟩ := hrel
    by_cases hlt : t = 64
    · have q1 : (64 : Int) ≤ (t : Int) := by omega
      clear hlt
      have z0 := cell_at (i := 0) HBLK.out rfl
      have z1 := cell_at (i := 1) HBLK.out rfl
      have z2 := cell_at (i := 2) HBLK.out rfl
      have z3 := cell_at (i := 3) HBLK.out rfl
      have z4 := cell_at (i := 4) HBLK.out rfl
      have z5 := cell_at (i := 5) HBLK.out rfl
      have z6 := cell_at (i := 6) HBLK.out rfl
      have z7 := cell_at (i := 7) HBLK.out rfl
      have f0 := free_at 0 HBLK.out
      have f1 := free_at 1 HBLK.out
      have f2 := free_at 2 HBLK.out
      have f3 := free_at 3 HBLK.out
      have f4 := free_at 4 HBLK.out
      have f5 := free_at 5 HBLK.out
      have f6 := free_at 6 HBLK.out
      have f7 := free_at 7 HBLK.out
      go_wp2_with fail
      have HR : Hid (r = rounds s W 64) := by have e : t = 64 := by omega
                                              rw [← e]; exact hr.out
      have hs : after s W = s.plus r := by unfold after; rw [HR.out]
      rw [hs]
      refine bodyPost_ret (v := .agg #[.int .u32 ((s.plus r).a.toNat : Int), .int .u32 ((s.plus r).b.toNat : Int), .int .u32 ((s.plus r).c.toNat : Int), .int .u32 ((s.plus r).d.toNat : Int), .int .u32 ((s.plus r).e.toNat : Int), .int .u32 ((s.plus r).f.toNat : Int), .int .u32 ((s.plus r).g.toNat : Int), .int .u32 ((s.plus r).h.toNat : Int)]) ?_ rfl ⟨rfl, ?_⟩
      · simp only [St.plus, ← addm]
        simp [results, Tryd.results52, go_sem, z0, z1, z2, z3, z4, z5, z6, z7]
      · have hbig : w.heap.size ≤ w.heap.size + 1 + 1 := by omega
        exact ((((((((below_drewN HBW.out nn).setCell hbig _).setCell hbig _).setCell hbig _).setCell hbig _).setCell hbig _).setCell hbig _).setCell hbig _).setCell hbig _
    · clear a0 a1 a2 a3 a4 a5 a6 a7
      have q1 : (t : Int) < 64 := by omega
      obtain ⟨kt, hkt⟩ : ∃ kt, kt = kTab.getD t 0 := ⟨_, rfl⟩
      obtain ⟨wt, hwt⟩ : ∃ wt, wt = W.getD t 0 := ⟨_, rfl⟩
      have hc1 : W0.cell? ⟨1, t, none⟩ = some (.int .u32 (kt.toNat : Int)) := by rw [hkt]; exact HKW.out.2 t (by omega)
      have hc2 : W0.cell? ⟨w.heap.size + 1, t, none⟩ = some (.int .u32 (wt.toNat : Int)) := by rw [hwt]; exact HC1.out t (by omega)
      have HE : Hid (rounds s W (t + 1) = rnd r kt wt) := by show _ = _; rw [rounds, ← hr.out, hkt, hwt]
      clear hlt hkt hwt hr
      go_wp2_with fail
      go_region_held (fun w' => w'.cell? ⟨1, t, none⟩ = some (.int .u32 (kt.toNat : Int)) ∧ w'.cell? ⟨w.heap.size + 1, t, none⟩ = some (.int .u32 (wt.toNat : Int))) (simp [*])
        (first
        | (go_at_call 73; refine (turns_is r.e 6 11 25 _ (by omega) (by omega) (by omega) (by omega) (by omega) (by omega)).mono ?_; rintro e w1 ⟨rfl, rfl⟩))
      clear hc1 hc2
      go_wp2_with fail
      refine (turns_is r.a 2 13 22 _ (by omega) (by omega) (by omega) (by omega) (by omega) (by omega)).mono ?_
      rintro e w1 ⟨rfl, rfl⟩
      go_wp2
      go_roundw
      case rel =>
        refine ⟨t + 1, _, rnd r kt wt, by go_num, by omega, rfl, ?_, rfl, rfl, rfl, ?_, rfl, rfl, rfl, HE.out.symm⟩
        · simp only [addm, xor_eq, and_eq, not_eq]; rfl
        · simp only [addm, xor_eq, and_eq, not_eq]; rfl
      case measure => simp [intOf]; omega

end Go.Proofs.YtgdecjacbkicmaaDoor.Hsh

/- Blocks of memory told as lists of cells: what stores, loads and whole arrays do to them. Of no program. -/
namespace Go.Proofs.YtgdecjacbkicmaaDoor.Hsh
open Go.RowKit

/-- block b holds just the cells L, none of them frozen -/
def Blk (w : World) (b : Nat) (t : TypeId) (L : List Value) : Prop := w.heap[b]? = some (.cells L.toArray t (0, 0))

section
variable {w w' : World} {b : Nat} {t : TypeId} {L : List Value}
theorem Blk.lt (h : Blk w b t L) : b < w.heap.size := lt_of_block h
theorem Blk.cell (h : Blk w b t L) {i : Nat} {v : Value} (hv : L[i]? = some v) : w.cell? ⟨b, i, none⟩ = some v := by
  rw [cell_of_row w b i _ t (0, 0) h, List.getElem?_toArray]; exact hv
theorem Blk.free (h : Blk w b t L) (i : Nat) : w.frozen? ⟨b, i, none⟩ = false := frozen_of_row w b i _ t h
theorem Blk.drewN (h : Blk w b t L) (n : Nat) : Blk (w.drewN n) b t L := h
theorem Blk.drew (h : Blk w b t L) : Blk w.drew b t L := h
theorem Blk.set (h : Blk w b t L) (i : Nat) (v : Value) : Blk (w.setCell ⟨b, i, none⟩ v) b t (L.set i v) := by
  have := heap_setCell_same w b i _ t v h
  unfold Blk
  rw [this]
  simp
theorem Blk.other (h : Blk w b t L) {a : Addr} (hne : b ≠ a.block) (v : Value) : Blk (w.setCell a v) b t L := by
  unfold Blk; rw [heap_setCell_other w a b v hne]; exact h
theorem Blk.below {B : Nat} (h : Blk w b t L) (hb : Below B w w') (hB : b < B) : Blk w' b t L := (hb.block b hB).trans h
theorem Blk.kept {row : Option Nat} (h : Blk w b t L) (hg : w.grownBy w' row) (hne : some b ≠ row) : Blk w' b t L := (hg.block b h.lt hne).trans h
theorem Blk.new (w : World) (C : Array Value) (t : TypeId) : Blk (w.alloc (.cells C t)) w.heap.size t C.toList := by
  unfold Blk; rw [heap_alloc_new]
theorem Blk.alloc (h : Blk w b t L) (o : Obj) : Blk (w.alloc o) b t L := (Below.heap_alloc w o b h.lt).trans h
theorem Blk.range (h : Blk w b t L) (o n : Nat) : w.rangeAt b o ((L.drop o).take n) := by
  intro j v hj
  rw [List.getElem?_take] at hj
  split at hj
  · rw [List.getElem?_drop] at hj
    exact h.cell hj
  · cases hj
theorem Blk.there (h : Blk w b t L) (o n : Nat) (hn : o + n ≤ L.length) : w.there b o n := by
  intro j hj
  exact ⟨by rw [h.cell (List.getElem?_eq_getElem (by omega))]; rfl, h.free _⟩
end

theorem grown_setCell (w : World) (b i : Nat) (v : Value) : w.grownBy (w.setCell ⟨b, i, none⟩ v) (some b) :=
  ⟨rfl, rfl, rfl, by simp, fun k _ hne => heap_setCell_other w ⟨b, i, none⟩ k v (fun e => hne (by rw [e]))⟩
theorem grown_tr {w w1 w2 : World} {row : Option Nat} (h : w.grownBy w1 row) (k : w1.grownBy w2 row) : w.grownBy w2 row :=
  ⟨k.os.trans h.os, k.tape.trans h.tape, k.output.trans h.output, Nat.le_trans h.size k.size, fun b hb hne => (k.block b (Nat.lt_of_lt_of_le hb h.size) hne).trans (h.block b hb hne)⟩
theorem grown_drewN (w : World) (n : Nat) (row : Option Nat) : w.grownBy (w.drewN n) row := ⟨rfl, rfl, rfl, Nat.le_refl _, fun _ _ _ => rfl⟩

/-- several cells written one behind the other -/
theorem Blk.setCells {b : Nat} {t : TypeId} : ∀ (vs : List Value) (o : Nat) (w : World) (L : List Value), Blk w b t L → o + vs.length ≤ L.length →
    Blk (w.setCells b o vs) b t (L.take o ++ vs ++ L.drop (o + vs.length)) ∧ w.grownBy (w.setCells b o vs) (some b)
  | [], o, w, L, h, _ => by
    refine ⟨?_, World.grownBy.refl _ _⟩
    simpa [World.setCells] using h
  | v :: vs, o, w, L, h, hl => by
    have ih := Blk.setCells vs (o + 1) (w.setCell ⟨b, o, none⟩ v) (L.set o v) (h.set o v) (by simp at *; omega)
    simp only [World.setCells]
    refine ⟨?_, grown_tr (grown_setCell w b o v) ih.2⟩
    have e : (L.set o v).take (o + 1) ++ vs ++ (L.set o v).drop (o + 1 + vs.length) = L.take o ++ (v :: vs) ++ L.drop (o + (v :: vs).length) := by
      have hlt : o < L.length := by simp at hl; omega
      have e0 : L.set o v = L.take o ++ v :: L.drop (o + 1) := by rw [List.set_eq_take_append_cons_drop, if_pos hlt]
      have e1 : (L.set o v).take (o + 1) = L.take o ++ [v] := by
        rw [e0, List.take_append, List.length_take, Nat.min_eq_left (by omega), show o + 1 - o = 1 by omega, List.take_of_length_le (by simp; omega)]; rfl
      rw [e1, List.drop_set_of_lt (by omega), show o + 1 + vs.length = o + (v :: vs).length by simp; omega]
      simp
    rw [← e]
    exact ih.1

/-- a whole array stored into a block -/
theorem wpList_store_blk {P : Program} {ops : Array Oper} {rest : List Oper} {op : Oper} {a : Act} {w : World} {Q : Exit → Act → World → Prop} (hgd : op.guard = none) (ty : TypeId) (x y : Operand) (ho : op.op = .store ty x y)
    (b o : Nat) (t : TypeId) (L : List Value) (cells : List Value) (hx : a.eval x = .pointer (some ⟨b, o, none⟩)) (hy : a.eval y = .agg cells.toArray)
    (hb : Blk w b t L) (hl : o + cells.length ≤ L.length) (hi : (P.info? ty).map (·.size) = some cells.length) (h1 : ∀ v ∈ cells, v.oneCell' = true)
    (h : ∀ w', Hid (Blk w' b t (L.take o ++ cells ++ L.drop (o + cells.length))) → Hid (w.grownBy w' (some b)) → wpList P ops Q rest (a.put op.dst undef) w') : wpList P ops Q (op :: rest) a w := by
  refine wpList_store_mid hgd ty x y ho b o cells.toArray hx hy (by simpa using hb.there o cells.length hl) (by simpa using hi) (all_oneCell_toArray h1) ?_
  have e := Blk.setCells cells o w L hb hl
  exact h _ e.1 e.2

end Go.Proofs.YtgdecjacbkicmaaDoor.Hsh

/- Layer 2 (hash): the words of a block. -/
namespace Go.Proofs.YtgdecjacbkicmaaDoor.Hsh
open Go.RowKit Sha

/-- so many words 0 -/
def zw (n : Nat) : List Value := List.replicate n (Value.int .u32 0)
theorem zw_length (n : Nat) : (zw n).length = n := by simp [zw]
theorem app_set (L : List UInt32) (n t : Nat) (x : UInt32) (ht : t = L.length) (hn : n + 1 = 64 - t) : (V L ++ zw (64 - t)).set t (.int .u32 (x.toNat : Int)) = V (L ++ [x]) ++ zw (64 - (t + 1)) := by
  subst ht
  rw [← hn, show 64 - (L.length + 1) = n by omega, List.set_append_right _ _ (by rw [V_length]; exact Nat.le_refl _), V_length, Nat.sub_self]
  simp [V, zw, List.replicate_succ]

theorem word_eq {x0 x1 x2 x3 : Nat} (h0 : x0 < 256) (h1 : x1 < 256) (h2 : x2 < 256) (h3 : x3 < 256) :
    bits BinOp.or IntKind.u32 (bits BinOp.or IntKind.u32 (bits BinOp.or IntKind.u32 ((x0 : Int) * 16777216) ((x1 : Int) * 65536)) ((x2 : Int) * 256)) (x3 : Int) = ((UInt32.ofNat (x0 * 16777216 + x1 * 65536 + x2 * 256 + x3)).toNat : Int) := by
  have e0 : (x0 : Int) * 16777216 = ((x0 * 16777216 : Nat) : Int) := by omega
  have e1 : (x1 : Int) * 65536 = ((x1 * 65536 : Nat) : Int) := by omega
  have e2 : (x2 : Int) * 256 = ((x2 * 256 : Nat) : Int) := by omega
  have o1 : x0 * 16777216 ||| x1 * 65536 = x0 * 16777216 + x1 * 65536 := by
    have := Nat.two_pow_add_eq_or_of_lt (i := 24) (b := x1 * 65536) (by omega) x0
    rw [Nat.mul_comm] at this; exact this.symm
  have o2 : (x0 * 16777216 + x1 * 65536) ||| x2 * 256 = x0 * 16777216 + x1 * 65536 + x2 * 256 := by
    have := Nat.two_pow_add_eq_or_of_lt (i := 16) (b := x2 * 256) (by omega) (x0 * 256 + x1)
    rw [show 2 ^ 16 * (x0 * 256 + x1) = x0 * 16777216 + x1 * 65536 by omega] at this; exact this.symm
  have o3 : (x0 * 16777216 + x1 * 65536 + x2 * 256) ||| x3 = x0 * 16777216 + x1 * 65536 + x2 * 256 + x3 := by
    have := Nat.two_pow_add_eq_or_of_lt (i := 8) (b := x3) (by omega) (x0 * 65536 + x1 * 256 + x2)
    rw [show 2 ^ 8 * (x0 * 65536 + x1 * 256 + x2) = x0 * 16777216 + x1 * 65536 + x2 * 256 by omega] at this; exact this.symm
  rw [e0, e1, e2, u32_or_nat _ _ (by omega) (by omega), o1, u32_or_nat _ _ (by omega) (by omega), o2, u32_or_nat _ _ (by omega) (by omega), o3, toNat32 (by omega)]

/-- what the loops keep: the block's bytes, the result's place, the words so far -/
def WInv (w : World) (bs : List UInt8) (L : List Value) (wr : World) : Prop := Blk wr w.heap.size 86 (U bs) ∧ Blk wr (w.heap.size + 1) 90 (zw 64) ∧ Blk wr (w.heap.size + 1 + 1) 90 L ∧ Below w.heap.size w wr
theorem WInv.store {w wr : World} {bs : List UInt8} {L : List Value} (h : WInv w bs L wr) (t : Nat) (v : Value) : WInv w bs (L.set t v) (wr.setCell ⟨w.heap.size + 1 + 1, t, none⟩ v) :=
  ⟨h.1.other (by simp; omega) v, h.2.1.other (by simp) v, h.2.2.1.set t v, h.2.2.2.setCell (by simp; omega) v⟩
theorem WInv.draw {w wr : World} {bs : List UInt8} {L : List Value} (h : WInv w bs L wr) : WInv w bs L wr.drew := ⟨h.1, h.2.1, h.2.2.1, h.2.2.2.drew⟩
theorem WInv.drawN {w wr : World} {bs : List UInt8} {L : List Value} (h : WInv w bs L wr) (n : Nat) : WInv w bs L (wr.drewN n) := ⟨h.1, h.2.1, h.2.2.1, below_drewN h.2.2.2 n⟩

set_option maxHeartbeats 1000000 in
set_option maxRecDepth 100000 in
theorem wordsOf_is (bs : List UInt8) (Y : Array Value) (hb : bs.length = 64) (hY : Y = (U bs).toArray) (w : World) :
    Calls Tryd.prog 53 #[.agg Y] w fun e w' => e = .returned (.agg (V (wordsOf bs)).toArray) ∧ Below w.heap.size w w' := by
  have HY : Hid (Y = (U bs).toArray) := hY
  have HLB : Hid (bs.length = 64) := hb
  clear hY hb
  go_enter Tryd.func53, Tryd.ntmps53
  go_wp2_with fail
  go_loopw [6] (fun i wr => ∃ t : Nat, i = .int .i64 t ∧ t ≤ 16 ∧ Hid (WInv w bs (V (firstTo bs t) ++ zw (64 - t)) wr)) (fun i _ => 16 - (intOf i).toNat)
  case atStart =>
    obtain ⟨hA, hB, hC, hbw⟩ := three w _ _ _ _ rfl
    exact ⟨0, rfl, by omega, hA.trans (by rw [HY.out]), hB, hC, hbw⟩
  case round =>
    obtain ⟨t, rfl, ht, hr⟩ := hrel
    by_cases hlt : t = 16
    · have q1 : (16 : Int) ≤ (t : Int) := by omega
      subst hlt
      clear ht
      go_wp2_with fail
      go_loopw [5] (fun i wr => ∃ u : Nat, i = .int .i64 ((u : Int) + 16) ∧ u ≤ 48 ∧ Hid (WInv w bs (V (moreTo bs u) ++ zw (64 - (u + 16))) wr)) (fun i _ => 64 - (intOf i).toNat)
      case atStart => exact ⟨0, rfl, by omega, hr.out⟩
      case round =>
        clear hr
        obtain ⟨u, rfl, hu, hr⟩ := hrel
        by_cases hlt : u = 48
        · have q2 : (48 : Int) ≤ (u : Int) := by omega
          subst hlt
          have hsz : (Tryd.prog.info? 90).map (·.size) = some 64 := by kernel_rfl
          have HL : Hid ((V (moreTo bs 48)).length = 64) := by show _ = _; rw [V_length, moreTo_length]
          have HB2 : Hid (wr.heap[w.heap.size + 1 + 1]? = some (.cells (V (moreTo bs 48)).toArray 90 (0, 0))) := by
            have e := hr.out.2.2.1
            have ez : zw (64 - (48 + 16)) = [] := rfl
            rw [ez, List.append_nil] at e
            exact e
          clear q2
          go_wp2_with (first
            | (refine wpList_load_row rfl 90 (.tmp 3) rfl (w.heap.size + 1 + 1) rfl 90 (V (moreTo bs 48)).toArray (0, 0) _ HB2.out Tryd.underlying90 rfl (by rw [hsz, List.size_toArray, HL.out]) ?_)
            | (refine wpList_store_blk rfl 90 (.tmp 2) (.tmp 68) rfl (w.heap.size + 1) 0 90 (zw 64) (V (moreTo bs 48)) rfl rfl hr.out.2.1 (by rw [HL.out, zw_length]; omega) (by rw [hsz, HL.out]) ?_ ?_))
          · intro v hv
            simp only [V, List.mem_map] at hv
            obtain ⟨x, _, rfl⟩ := hv
            rfl
          · intro w9 hB9 hG9
            have HR : Hid (w9.heap[w.heap.size + 1]? = some (.cells (V (moreTo bs 48)).toArray 90 (0, 0))) := by
              have e := hB9.out
              rw [List.drop_eq_nil_of_le (by rw [zw_length, HL.out]; omega), List.append_nil] at e
              exact e
            go_wp2
            refine bodyPost_ret (v := .agg (V (moreTo bs 48)).toArray) (results_cell_row rfl _ _ (w.heap.size + 1) 90 _ (0, 0) _ rfl HR.out Tryd.underlying90 rfl (by rw [hsz, List.size_toArray, HL.out])) rfl ⟨rfl, ?_⟩
            exact hr.out.2.2.2.grown hG9.out hr.out.2.2.2.size (by intro k hk; simp at hk; omega)
        · have q2 : (u : Int) < 48 := by omega
          have HL : Hid ((moreTo bs u).length = u + 16) := by show _ = _; rw [moreTo_length]; omega
          obtain ⟨y0, h0⟩ : ∃ y, y = (moreTo bs u).getD (u + 14) 0 := ⟨_, rfl⟩
          obtain ⟨y1, h1⟩ : ∃ y, y = (moreTo bs u).getD (u + 9) 0 := ⟨_, rfl⟩
          obtain ⟨y2, h2⟩ : ∃ y, y = (moreTo bs u).getD (u + 1) 0 := ⟨_, rfl⟩
          obtain ⟨y3, h3⟩ : ∃ y, y = (moreTo bs u).getD u 0 := ⟨_, rfl⟩
          have gb : ∀ i, i < u + 16 → wr.cell? ⟨w.heap.size + 1 + 1, i, none⟩ = some (.int .u32 (((moreTo bs u).getD i 0).toNat : Int)) := by
            intro i hi
            refine hr.out.2.2.1.cell ?_
            rw [List.getElem?_append_left (by rw [V_length, HL.out]; exact hi)]
            exact V_get _ i (by rw [HL.out]; exact hi)
          have c0 : wr.cell? ⟨w.heap.size + 1 + 1, u + 14, none⟩ = some (.int .u32 (y0.toNat : Int)) := by rw [h0]; exact gb _ (by omega)
          have c1 : wr.cell? ⟨w.heap.size + 1 + 1, u + 9, none⟩ = some (.int .u32 (y1.toNat : Int)) := by rw [h1]; exact gb _ (by omega)
          have c2 : wr.cell? ⟨w.heap.size + 1 + 1, u + 1, none⟩ = some (.int .u32 (y2.toNat : Int)) := by rw [h2]; exact gb _ (by omega)
          have c3 : wr.cell? ⟨w.heap.size + 1 + 1, u, none⟩ = some (.int .u32 (y3.toNat : Int)) := by rw [h3]; exact gb _ (by omega)
          have c4 : wr.cell? ⟨w.heap.size + 1 + 1, u + 16, none⟩ = some (.int .u32 0) := by
            refine hr.out.2.2.1.cell ?_
            rw [List.getElem?_append_right (by rw [V_length, HL.out]; exact Nat.le_refl _), V_length, HL.out, Nat.sub_self, zw, List.getElem?_replicate, if_pos (by omega)]
          have c5 : wr.frozen? ⟨w.heap.size + 1 + 1, u + 16, none⟩ = false := hr.out.2.2.1.free _
          have HN : Hid (next (moreTo bs u) = spread y0 17 19 10 + y1 + spread y2 7 18 3 + y3) := by
            show _ = _; unfold next; rw [HL.out, show u + 16 - 2 = u + 14 by omega, show u + 16 - 7 = u + 9 by omega, show u + 16 - 15 = u + 1 by omega, show u + 16 - 16 = u by omega, h0, h1, h2, h3]
          have k2 : IntKind.i64.wrap ((u : Int) + 16 - 2) = (u : Int) + 14 := by rw [IntKind.wrap_i64]; omega
          have r2 : (0 : Int) ≤ (u : Int) + 14 := by omega
          have s2 : (u : Int) + 14 < 64 := by omega
          have v2 : ((u : Int) + 14).toNat = u + 14 := by omega
          have k7 : IntKind.i64.wrap ((u : Int) + 16 - 7) = (u : Int) + 9 := by rw [IntKind.wrap_i64]; omega
          have r7 : (0 : Int) ≤ (u : Int) + 9 := by omega
          have s7 : (u : Int) + 9 < 64 := by omega
          have v7 : ((u : Int) + 9).toNat = u + 9 := by omega
          have k15 : IntKind.i64.wrap ((u : Int) + 16 - 15) = (u : Int) + 1 := by rw [IntKind.wrap_i64]; omega
          have r15 : (0 : Int) ≤ (u : Int) + 1 := by omega
          have s15 : (u : Int) + 1 < 64 := by omega
          have v15 : ((u : Int) + 1).toNat = u + 1 := by omega
          have k16 : IntKind.i64.wrap (u : Int) = (u : Int) := by rw [IntKind.wrap_i64]; omega
          have s16 : (u : Int) < 64 := by omega
          have s0 : (u : Int) + 16 < 64 := by omega
          have p0 : (0 : Int) ≤ (u : Int) + 16 := by omega
          have v0 : ((u : Int) + 16).toNat = u + 16 := by omega
          clear gb h0 h1 h2 h3 hlt
          go_wp2_with fail
          go_region_held (fun w' => w'.cell? ⟨w.heap.size + 1 + 1, u + 14, none⟩ = some (.int .u32 (y0.toNat : Int)) ∧ w'.cell? ⟨w.heap.size + 1 + 1, u + 9, none⟩ = some (.int .u32 (y1.toNat : Int)) ∧ w'.cell? ⟨w.heap.size + 1 + 1, u + 1, none⟩ = some (.int .u32 (y2.toNat : Int)) ∧ w'.cell? ⟨w.heap.size + 1 + 1, u, none⟩ = some (.int .u32 (y3.toNat : Int))) (first | (simp [*]; done) | (refine ⟨?_, ?_, ?_, ?_⟩ <;> (rw [World.cell?_setCell_other _ _ _ _ (by simp)]; simp [*])))
            (first
            | (go_at_call_of 74 (Value.int IntKind.i64 17); refine (spread_is y0 17 19 10 _ (by omega) (by omega) (by omega) (by omega) (by omega) (by omega)).mono ?_; rintro e w1 ⟨rfl, n1, rfl⟩)
            | (go_at_call_of 74 (Value.int IntKind.i64 7); refine (spread_is y2 7 18 3 _ (by omega) (by omega) (by omega) (by omega) (by omega) (by omega)).mono ?_; rintro e w1 ⟨rfl, n1, rfl⟩))
          go_wp2
          go_roundw
          case rel =>
            rw [addm, addm, addm, ← HN.out]
            have st := fun n => (hr.out.drawN n).store (u + 16) (.int .u32 ((next (moreTo bs u)).toNat : Int))
            have ap := app_set (moreTo bs u) (63 - (u + 16)) (u + 16) (next (moreTo bs u)) HL.out.symm (by omega)
            rw [ap, show u + 16 + 1 = u + 1 + 16 by omega] at st
            (repeat apply Exists.intro)
            exact ⟨⟨u + 1, by go_num, by omega, st _⟩, rfl⟩
          case measure => simp [intOf]; omega
    · have q1 : (t : Int) < 16 := by omega
      have HT : Hid (t < 16) := by show t < 16; omega
      obtain ⟨x0, h0⟩ : ∃ x, x = (bs.getD (4 * t) 0).toNat := ⟨_, rfl⟩
      obtain ⟨x1, h1⟩ : ∃ x, x = (bs.getD (4 * t + 1) 0).toNat := ⟨_, rfl⟩
      obtain ⟨x2, h2⟩ : ∃ x, x = (bs.getD (4 * t + 2) 0).toNat := ⟨_, rfl⟩
      obtain ⟨x3, h3⟩ : ∃ x, x = (bs.getD (4 * t + 3) 0).toNat := ⟨_, rfl⟩
      have gb : ∀ i, i < 64 → wr.cell? ⟨w.heap.size, i, none⟩ = some (.int .u8 ((bs.getD i 0).toNat : Int)) := by
        intro i hi
        refine hr.out.1.cell ?_
        rw [U_get bs i (by have := HLB.out; omega)]
        simp [List.getD, show i < bs.length by have := HLB.out; omega]
      have c0 : wr.cell? ⟨w.heap.size, 4 * t, none⟩ = some (.int .u8 (x0 : Int)) := by rw [h0]; exact gb _ (by omega)
      have c1 : wr.cell? ⟨w.heap.size, 4 * t + 1, none⟩ = some (.int .u8 (x1 : Int)) := by rw [h1]; exact gb _ (by omega)
      have c2 : wr.cell? ⟨w.heap.size, 4 * t + 2, none⟩ = some (.int .u8 (x2 : Int)) := by rw [h2]; exact gb _ (by omega)
      have c3 : wr.cell? ⟨w.heap.size, 4 * t + 3, none⟩ = some (.int .u8 (x3 : Int)) := by rw [h3]; exact gb _ (by omega)
      have c4 : wr.cell? ⟨w.heap.size + 1 + 1, t, none⟩ = some (.int .u32 0) := by
        refine hr.out.2.2.1.cell ?_
        rw [List.getElem?_append_right (by rw [V_length, firstTo_length]; omega), V_length, firstTo_length, Nat.sub_self]
        rw [zw, List.getElem?_replicate, if_pos (by omega)]
      have c5 : wr.frozen? ⟨w.heap.size + 1 + 1, t, none⟩ = false := hr.out.2.2.1.free _
      have b0 : x0 < 256 := by rw [h0]; exact UInt8.toNat_lt _
      have b1 : x1 < 256 := by rw [h1]; exact UInt8.toNat_lt _
      have b2 : x2 < 256 := by rw [h2]; exact UInt8.toNat_lt _
      have b3 : x3 < 256 := by rw [h3]; exact UInt8.toNat_lt _
      have HWD : Hid (word bs t = UInt32.ofNat (x0 * 16777216 + x1 * 65536 + x2 * 256 + x3)) := by show _ = _; unfold word; rw [h0, h1, h2, h3]
      have q2 : (0 : Int) ≤ 4 * (t : Int) := by omega
      have q3 : 4 * (t : Int) < 64 := by omega
      have q4 : 4 * (t : Int) + 1 < 64 := by omega
      have q5 : 4 * (t : Int) + 2 < 64 := by omega
      have q6 : 4 * (t : Int) + 3 < 64 := by omega
      clear gb h0 h1 h2 h3 hlt
      go_wp2_with fail
      go_region
      go_wp2
      go_roundw
      case rel =>
        rw [word_eq b0 b1 b2 b3, ← HWD.out]
        refine ⟨t + 1, by go_num, by omega, ?_⟩
        have st := (hr.out.store t (.int .u32 ((word bs t).toNat : Int))).draw
        rw [app_set (firstTo bs t) (63 - t) t (word bs t) (firstTo_length bs t).symm (by omega)] at st
        exact st
      case measure => simp [intOf]; omega

end Go.Proofs.YtgdecjacbkicmaaDoor.Hsh

/- Layer 2 (hash): a state's bytes. -/
namespace Go.Proofs.YtgdecjacbkicmaaDoor.Hsh
open Go.RowKit Sha

def zb (n : Nat) : List Value := List.replicate n (Value.int .u8 0)
theorem zb_length (n : Nat) : (zb n).length = n := by simp [zb]
def bytesTo (s : St) (t : Nat) : List UInt8 := (List.range t).map (byteAt s)
theorem bytesTo_length (s : St) (t : Nat) : (bytesTo s t).length = t := by simp [bytesTo]
theorem bytesTo_succ (s : St) (t : Nat) : bytesTo s (t + 1) = bytesTo s t ++ [byteAt s t] := by simp [bytesTo, List.range_succ]
theorem byte_set (L : List UInt8) (n t : Nat) (x : UInt8) (ht : t = L.length) (hn : n + 1 = 32 - t) : (U L ++ zb (32 - t)).set t (.int .u8 (x.toNat : Int)) = U (L ++ [x]) ++ zb (32 - (t + 1)) := by
  subst ht
  rw [← hn, show 32 - (L.length + 1) = n by omega, List.set_append_right _ _ (by rw [U_length]; exact Nat.le_refl _), U_length, Nat.sub_self]
  simp [U, zb, List.replicate_succ]
def BInv (w : World) (S : List Value) (L : List Value) (wr : World) : Prop := Blk wr w.heap.size 85 S ∧ Blk wr (w.heap.size + 1) 36 (zb 32) ∧ Blk wr (w.heap.size + 1 + 1) 36 L ∧ Below w.heap.size w wr

set_option maxHeartbeats 1000000 in
set_option maxRecDepth 100000 in
theorem bytes_is (s : St) (w : World) :
    Calls Tryd.prog 55 #[.agg #[.int .u32 (s.a.toNat : Int), .int .u32 (s.b.toNat : Int), .int .u32 (s.c.toNat : Int), .int .u32 (s.d.toNat : Int), .int .u32 (s.e.toNat : Int), .int .u32 (s.f.toNat : Int), .int .u32 (s.g.toNat : Int), .int .u32 (s.h.toNat : Int)]] w
      fun e w' => e = .returned (.agg (U (digest s)).toArray) ∧ Below w.heap.size w w' := by
  go_enter Tryd.func55, Tryd.ntmps55
  go_wp2_with fail
  go_loopw [5] (fun i wr => ∃ t : Nat, i = .int .i64 t ∧ t ≤ 32 ∧ Hid (BInv w (V s.words) (U (bytesTo s t) ++ zb (32 - t)) wr)) (fun i _ => 32 - (intOf i).toNat)
  case atStart =>
    obtain ⟨hA, hB, hC, hbw⟩ := three w _ _ _ _ rfl
    exact ⟨0, rfl, by omega, hA, hB, hC, hbw⟩
  case round =>
    obtain ⟨t, rfl, ht, hr⟩ := hrel
    by_cases hlt : t = 32
    · have q1 : (32 : Int) ≤ (t : Int) := by omega
      subst hlt
      have hsz : (Tryd.prog.info? 36).map (·.size) = some 32 := by kernel_rfl
      have HL : Hid ((U (bytesTo s 32)).length = 32) := by show _ = _; rw [U_length, bytesTo_length]
      have HB2 : Hid (wr.heap[w.heap.size + 1 + 1]? = some (.cells (U (bytesTo s 32)).toArray 36 (0, 0))) := by
        have e := hr.out.2.2.1
        have ez : zb (32 - 32) = [] := rfl
        rw [ez, List.append_nil] at e
        exact e
      go_wp2_with (first
        | (refine wpList_load_row rfl 36 (.tmp 3) rfl (w.heap.size + 1 + 1) rfl 36 (U (bytesTo s 32)).toArray (0, 0) _ HB2.out Tryd.underlying36 rfl (by rw [hsz, List.size_toArray, HL.out]) ?_)
        | (refine wpList_store_blk rfl 36 (.tmp 2) (.tmp 21) rfl (w.heap.size + 1) 0 36 (zb 32) (U (bytesTo s 32)) rfl rfl hr.out.2.1 (by rw [HL.out, zb_length]; omega) (by rw [hsz, HL.out]) (U_one _) ?_))
      intro w9 hB9 hG9
      have HR : Hid (w9.heap[w.heap.size + 1]? = some (.cells (U (bytesTo s 32)).toArray 36 (0, 0))) := by
        have e := hB9.out
        rw [List.drop_eq_nil_of_le (by rw [zb_length, HL.out]; omega), List.append_nil] at e
        exact e
      go_wp2
      refine bodyPost_ret (v := .agg (U (bytesTo s 32)).toArray) (results_cell_row rfl _ _ (w.heap.size + 1) 36 _ (0, 0) _ rfl HR.out Tryd.underlying36 rfl (by rw [hsz, List.size_toArray, HL.out])) rfl ⟨rfl, ?_⟩
      exact hr.out.2.2.2.grown hG9.out hr.out.2.2.2.size (by intro k hk; simp at hk; omega)
    · have q1 : (t : Int) < 32 := by omega
      obtain ⟨x, hx⟩ : ∃ x, x = s.words.getD (t / 4) 0 := ⟨_, rfl⟩
      have c0 : wr.cell? ⟨w.heap.size, t / 4, none⟩ = some (.int .u32 (x.toNat : Int)) := by
        rw [hx]; exact hr.out.1.cell (V_get s.words (t / 4) (by show t / 4 < 8; omega))
      have c4 : wr.cell? ⟨w.heap.size + 1 + 1, t, none⟩ = some (.int .u8 0) := by
        refine hr.out.2.2.1.cell ?_
        rw [List.getElem?_append_right (by rw [U_length, bytesTo_length]; exact Nat.le_refl _), U_length, bytesTo_length, Nat.sub_self, zb, List.getElem?_replicate, if_pos (by omega)]
      have c5 : wr.frozen? ⟨w.heap.size + 1 + 1, t, none⟩ = false := hr.out.2.2.1.free _
      have q2 : (t : Int) / 4 < 8 := by omega
      have q3 : (0 : Int) ≤ (t : Int) / 4 := by omega
      have q4 : (0 : Int) ≤ 24 - 8 * ((t : Int) % 4) := by omega
      have HX : Hid (x = s.words.getD (t / 4) 0) := hx
      clear hlt hx
      have HV : Hid ((x.toNat : Int) / 2 ^ (24 - 8 * (t % 4)) % 256 = ((byteAt s t).toNat : Int)) := by
        show _ = _
        unfold byteAt
        rw [← HX.out, UInt8.toNat_ofNat']
        simp
      go_wp2_with fail
      go_roundw
      case rel =>
        rw [HV.out]
        refine ⟨t + 1, by go_num, by omega, ?_⟩
        have st : BInv w (V s.words) ((U (bytesTo s t) ++ zb (32 - t)).set t (.int .u8 ((byteAt s t).toNat : Int))) (wr.setCell ⟨w.heap.size + 1 + 1, t, none⟩ (.int .u8 ((byteAt s t).toNat : Int))) :=
          ⟨hr.out.1.other (by simp; omega) _, hr.out.2.1.other (by simp) _, hr.out.2.2.1.set t _, hr.out.2.2.2.setCell (by simp; omega) _⟩
        rw [byte_set (bytesTo s t) (31 - t) t (byteAt s t) (bytesTo_length s t).symm (by omega), ← bytesTo_succ] at st
        exact st
      case measure => simp [intOf]; omega


end Go.Proofs.YtgdecjacbkicmaaDoor.Hsh

/- Layer 2 (hash): what follows a message. -/
namespace Go.Proofs.YtgdecjacbkicmaaDoor.Hsh
open Go.RowKit Sha

/-- the cells behind so many bytes of the length -/
def endTo (n p i : Nat) : List Value := .int .u8 128 :: (noughts (p + (8 - i)) ++ U ((lenBytes n).drop (8 - i)))
theorem endTo_length (n p i : Nat) (h : i ≤ 8) : (endTo n p i).length = p + 9 := by
  simp [endTo, noughts, U, lenBytes]; omega
theorem endTo_last (n : Nat) : endTo n ((119 - n % 64) % 64) 8 = U (ending n) := by
  simp [endTo, ending, noughts, U]
theorem len_next (n i : Nat) (h : i < 8) : (lenBytes n).drop (8 - (i + 1)) = UInt8.ofNat (n * 8 / 2 ^ (8 * i)) :: (lenBytes n).drop (8 - i) := by
  match i, h with
  | 0, _ => simp [lenBytes]
  | 1, _ => simp [lenBytes]
  | 2, _ => simp [lenBytes]
  | 3, _ => simp [lenBytes]
  | 4, _ => simp [lenBytes]
  | 5, _ => simp [lenBytes]
  | 6, _ => simp [lenBytes]
  | 7, _ => simp [lenBytes]
theorem endTo_step (n p i : Nat) (h : i < 8) (v : Int) (hv : v = ((UInt8.ofNat (n * 8 / 2 ^ (8 * i))).toNat : Int)) : (endTo n p i).set (p + 8 - i) (.int .u8 v) = endTo n p (i + 1) := by
  unfold endTo
  rw [len_next n i h, hv, show p + 8 - i = (p + 7 - i) + 1 by omega, List.set_cons_succ, show p + (8 - i) = (p + 7 - i) + 1 by omega, show p + (8 - (i + 1)) = p + 7 - i by omega]
  congr 1
  rw [noughts, List.replicate_succ', List.append_assoc, List.set_append_right _ _ (by simp)]
  simp [U, noughts]
theorem endTo_zero (n p : Nat) : endTo n p 0 = (noughts (p + 9)).set 0 (.int .u8 128) := by
  simp [endTo, noughts, U, lenBytes, List.replicate_succ]
theorem endTo_cell (n p i : Nat) (h : i < 8) : (endTo n p i)[p + 8 - i]? = some (.int .u8 0) := by
  unfold endTo
  rw [show p + 8 - i = (p + 7 - i) + 1 by omega, List.getElem?_cons_succ, List.getElem?_append_left (by simp [noughts]; omega), noughts, List.getElem?_replicate, if_pos (by omega)]

theorem info5 : (Tryd.prog.info? 5).map (fun i => (i.zero, i.size, i.bytes)) = some (some (.int .u8 0), 1, 1) := by kernel_rfl
theorem size5 : (Tryd.prog.info? 5).map (·.size) = some 1 := by kernel_rfl

set_option maxHeartbeats 1000000 in
set_option maxRecDepth 100000 in
theorem ending_is (n : Nat) (hn : n < 1000000000000) (w : World) :
    Calls Tryd.prog 54 #[.int .u64 (n : Int)] w
      fun e w' => e = .returned (.slice (some ⟨w.heap.size, 0, none⟩) (ending n).length (ending n).length) ∧ Blk w' w.heap.size 5 (U (ending n)) ∧ Below w.heap.size w w' := by
  obtain ⟨p, hp⟩ : ∃ p, p = (119 - n % 64) % 64 := ⟨_, rfl⟩
  obtain ⟨m, hm⟩ : ∃ m, m = p + 9 := ⟨_, rfl⟩
  have HEL : Hid ((ending n).length = m) := by
    show _ = _
    rw [hm, hp]; simp [ending, lenBytes]
  have hp1 : (119 - (n : Int) % 64) % 64 = (p : Int) := by omega
  have hm1 : 1 + (p : Int) + 8 = (m : Int) := by omega
  have hm2 : m < 100 := by omega
  have hm3 : 9 ≤ m := by omega
  have HP : Hid (p = (119 - n % 64) % 64) := hp
  have HM : Hid (m = p + 9) := hm
  clear hp hm
  obtain ⟨i0, hi, hz0, hz1, hz2⟩ := info_parts info5
  go_enter Tryd.func54, Tryd.ntmps54
  go_wp2_with (at_make; refine wpList_make_two _ rfl _ _ 28 rfl 5 i0 Tryd.underlying28 hi hz0 hz1 hz2 _ _ _ _ m m rfl rfl (by omega) (by omega) (by omega) (by omega) ?_)
  intro w1 hrow1 _hsz1 hb1
  have HB1 : Hid (Blk w1 w.heap.size 5 (noughts m)) := hrow1.out
  have HW1 : Hid (Below w.heap.size w w1) := hb1
  have c0 : w1.cell? ⟨w.heap.size, 0, none⟩ = some (.int .u8 0) := by
    refine HB1.out.cell ?_
    rw [noughts, List.getElem?_replicate, if_pos (by omega)]
  have c1 : w1.frozen? ⟨w.heap.size, 0, none⟩ = false := HB1.out.free _
  clear hrow1 hb1 hp1 hm1
  go_wp2_with fail
  go_loopw [16] (fun i wr => ∃ t : Nat, i = .int .i64 t ∧ t ≤ 8 ∧ Hid (Blk wr w.heap.size 5 (endTo n p t)) ∧ Hid (Below w.heap.size w wr)) (fun i _ => 8 - (intOf i).toNat)
  case atStart =>
    refine ⟨0, rfl, by omega, ?_, ?_⟩
    · have e := HB1.out.set 0 (.int .u8 128)
      rw [HM.out, ← endTo_zero n p] at e
      exact e
    · exact HW1.out.setCell (by simp) _
  case round =>
    clear c0 c1
    obtain ⟨t, rfl, ht, hr, hbr⟩ := hrel
    by_cases hlt : t = 8
    · have q1 : (8 : Int) ≤ (t : Int) := by omega
      subst hlt
      go_wp2
      go_ret
      rw [HEL.out]
      refine ⟨rfl, ?_, hbr.out⟩
      have e := hr.out
      rw [HP.out, endTo_last] at e
      exact e
    · have q1 : (t : Int) < 8 := by omega
      have HT : Hid (t < 8) := by show t < 8; omega
      have c4 : wr.cell? ⟨w.heap.size, p + 8 - t, none⟩ = some (.int .u8 0) := hr.out.cell (endTo_cell n p t HT.out)
      have c5 : wr.frozen? ⟨w.heap.size, p + 8 - t, none⟩ = false := hr.out.free _
      have q2 : (0 : Int) ≤ (m : Int) - 1 - (t : Int) := by omega
      have q3 : (m : Int) - 1 - (t : Int) < (m : Int) := by omega
      have q4 : ((m : Int) - 1 - (t : Int)).toNat = p + 8 - t := by have := HM.out; omega
      have HV : Hid ((n : Int) * 8 / 2 ^ (8 * t) % 256 = ((UInt8.ofNat (n * 8 / 2 ^ (8 * t))).toNat : Int)) := by
        show _ = _
        rw [UInt8.toNat_ofNat']
        simp
      clear hlt
      go_wp2_with fail
      go_roundw
      case rel =>
        refine ⟨t + 1, by go_num, by omega, ?_, ?_⟩
        · have e := hr.out.set (p + 8 - t) (.int .u8 ((n : Int) * 8 / 2 ^ (8 * t) % 256))
          rw [endTo_step n p t HT.out _ HV.out] at e
          exact e
        · exact hbr.out.setCell (by simp) _
      case measure => simp [intOf]; omega

end Go.Proofs.YtgdecjacbkicmaaDoor.Hsh

/- Layer 2 (hash): a digest's block, and what writing does to it; 'isMade'. -/
namespace Go.Proofs.YtgdecjacbkicmaaDoor.Hsh
open Go.RowKit Sha

/-- the cells of a digest -/
def cellsOf (s : St) (tail : List UInt8) (N : Nat) : List Value := .bool true :: (V s.words ++ (U tail ++ [.int .u64 (N : Int)]))
section
variable {s : St} {tail : List UInt8} {N : Nat} (ht : tail.length = 64)
include ht
theorem cellsOf_length : (cellsOf s tail N).length = 74 := by simp [cellsOf, V, U, ht, St.words]
theorem cellsOf_73 : (cellsOf s tail N)[73]? = some (.int .u64 (N : Int)) := by
  unfold cellsOf
  rw [List.getElem?_cons_succ, List.getElem?_append_right (by simp [V, St.words]), List.getElem?_append_right (by simp [V, U, St.words, ht])]
  simp [V, U, St.words, ht]
theorem cellsOf_set (N' : Nat) : (cellsOf s tail N).set 73 (.int .u64 (N' : Int)) = cellsOf s tail N' := by
  unfold cellsOf
  rw [List.set_cons_succ, List.set_append_right _ _ (by simp [V, St.words]), List.set_append_right _ _ (by simp [V, U, St.words, ht])]
  simp [V, U, St.words, ht]
theorem cellsOf_splice (r : Nat) (x : List UInt8) (h : r + x.length ≤ 64) : splice (cellsOf s tail N) (9 + r) (U x) = cellsOf s (splice tail r x) N := by
  have h8 : (V s.words).length = 8 := by simp [V, St.words]
  have hU : (U tail).length = 64 := by rw [U_length, ht]
  have e1 : (cellsOf s tail N).take (9 + r) = .bool true :: (V s.words ++ U (tail.take r)) := by
    unfold cellsOf
    rw [show 9 + r = (8 + r) + 1 by omega, List.take_succ_cons, List.take_append, h8, List.take_of_length_le (by omega), show 8 + r - 8 = r by omega, List.take_append_of_le_length (by omega)]
    simp [U]
  have e2 : (cellsOf s tail N).drop (9 + r + (U x).length) = U (tail.drop (r + x.length)) ++ [.int .u64 (N : Int)] := by
    unfold cellsOf
    rw [U_length, show 9 + r + x.length = (8 + (r + x.length)) + 1 by omega, List.drop_succ_cons, List.drop_append, h8, List.drop_eq_nil_of_le (by omega), List.nil_append, show 8 + (r + x.length) - 8 = r + x.length by omega, List.drop_append_of_le_length (by omega)]
    simp [U]
  unfold splice
  rw [e1, e2]
  simp [cellsOf, U]
theorem cellsOf_tail : ((cellsOf s tail N).drop 9).take 64 = U tail := by
  unfold cellsOf
  rw [List.drop_succ_cons, List.drop_append, List.drop_eq_nil_of_le (by simp [V, St.words]), List.nil_append, show 8 - (V s.words).length = 0 by simp [V, St.words], List.drop_zero, List.take_append_of_le_length (by rw [U_length]; omega), List.take_of_length_le (by rw [U_length]; omega)]
end
theorem cellsOf_state (s : St) (tail : List UInt8) (N : Nat) : ((cellsOf s tail N).drop 1).take 8 = V s.words := by
  simp [cellsOf, V, St.words]
theorem cellsOf_after (s s' : St) (tail : List UInt8) (N : Nat) : (cellsOf s tail N).take 1 ++ V s'.words ++ (cellsOf s tail N).drop (1 + (V s'.words).length) = cellsOf s' tail N := by
  simp [cellsOf, V, St.words]

/-- the tail holds what stands behind the last whole block -/
def Tail (M tail : List UInt8) : Prop := tail.length = 64 ∧ tail.take (M.length % 64) = M.drop (M.length / 64 * 64)
/-- a digest of M -/
def Dig (w : World) (d : Nat) (M : List UInt8) : Prop := ∃ tail, Tail M tail ∧ Blk w d 88 (cellsOf (fold Sha.start M) tail M.length)

theorem splice_length {α : Type} (L cs : List α) (o : Nat) (h : o + cs.length ≤ L.length) : (splice L o cs).length = L.length := by
  simp [splice]; omega
/-- the tail is not yet full -/
theorem Tail.more {M tail x : List UInt8} (h : Tail M tail) (hx : M.length % 64 + x.length < 64) : Tail (M ++ x) (splice tail (M.length % 64) x) ∧ fold Sha.start (M ++ x) = fold Sha.start M := by
  refine ⟨⟨?_, ?_⟩, fold_more _ _ _ _ (Nat.le_refl _) hx⟩
  · rw [splice_length _ _ _ (by rw [h.1]; omega), h.1]
  · have e1 : (M ++ x).length % 64 = M.length % 64 + x.length := by rw [List.length_append]; omega
    have e2 : (M ++ x).length / 64 * 64 = M.length / 64 * 64 := by rw [List.length_append]; omega
    rw [e1, e2, List.drop_append_of_le_length (by omega), ← h.2]
    unfold splice
    rw [← List.append_assoc, List.take_append_of_le_length (by simp [h.1]; omega), List.take_of_length_le (by simp [h.1]; omega)]
/-- it is full -/
theorem Tail.full {M tail x : List UInt8} (h : Tail M tail) (hx : M.length % 64 + x.length = 64) : Tail (M ++ x) (splice tail (M.length % 64) x) ∧ fold Sha.start (M ++ x) = Sha.step (fold Sha.start M) (splice tail (M.length % 64) x) := by
  have e0 : splice tail (M.length % 64) x = M.drop (M.length / 64 * 64) ++ x := by
    unfold splice
    rw [hx, List.drop_eq_nil_of_le (by rw [h.1]; omega), List.append_nil, h.2]
  refine ⟨⟨?_, ?_⟩, ?_⟩
  · rw [splice_length _ _ _ (by rw [h.1]; omega), h.1]
  · have e1 : (M ++ x).length % 64 = 0 := by rw [List.length_append]; omega
    have e2 : (M ++ x).length / 64 * 64 = (M ++ x).length := by omega
    rw [e1, e2, List.drop_eq_nil_of_le (Nat.le_refl _), List.take_zero]
  · rw [e0]; exact fold_full _ _ _ _ (Nat.le_refl _) hx

/-- bytes that come in, not those of block d -/
def InX (d : Nat) (w : World) (a : Option Addr) (len cap : Nat) (l : List UInt8) : Prop := In w a len cap l ∧ (0 < len → ∀ x, a = some x → x.block ≠ d)
theorem InX.grown {d : Nat} {w w' : World} {a : Option Addr} {len cap : Nat} {l : List UInt8} (h : InX d w a len cap l) (hg : w.grownBy w' (some d)) : InX d w' a len cap l := by
  obtain ⟨⟨h1, h2, h3, h4, h5⟩, hx⟩ := h
  refine ⟨⟨h1, h2, h3, h4, fun hp => ?_⟩, hx⟩
  obtain ⟨b, off, e1, e2, e3⟩ := h5 hp
  have hb : b ≠ d := hx hp _ e1
  exact ⟨b, off, e1, Nat.lt_of_lt_of_le e2 hg.size, fun i c hc => hg.cell (e3 i c hc) (by simpa using hb)⟩

theorem elem22 : Tryd.prog.underlying 28 = some (.slice (Tryd.prog.elem 28)) := by kernel_rfl
theorem size22 : (Tryd.prog.info? (Tryd.prog.elem 28)).map (·.size) = some 1 := by kernel_rfl

/-- 'b[s:]' of bytes that came in -/
theorem slice_from {d : Nat} {w : World} {a : Option Addr} {m cp : Nat} {l : List UInt8} (hx : InX d w a m cp l) (s : Nat) (hs : s ≤ m) :
    ∃ a', (∀ W, (Instr.slice 28 (.slice a m cp) (some (.int .i64 (s : Int))) none none).run Tryd.prog W = .ok (.slice a' (m - s) (cp - s)) W) ∧ InX d w a' (m - s) (cp - s) (l.drop s) := by
  obtain ⟨hin, hd⟩ := hx
  obtain ⟨i, hi, hsz⟩ := Option.map_eq_some_iff.1 size22
  refine ⟨if cp = s then a else a.map (·.add s), fun W => ?_, ?_, ?_⟩
  · simp [Instr.slice, run_underlying elem22, Instr.sliceBounds, Instr.sliceBound, asIntOf, sizeOf, typeInfo, hi, hsz, hs]
  · have h1 := hin.1
    have h2 := hin.2.1
    refine ⟨by simp; omega, by omega, by have := hin.2.2.1; omega, ?_, fun hp => ?_⟩
    · intro e
      cases a with
      | none => have := hin.2.2.2.1 rfl; omega
      | some x => split at e <;> simp at e
    · obtain ⟨b, off, rfl, e2, e3⟩ := hin.2.2.2.2 (by omega)
      rw [if_neg (by omega)]
      refine ⟨b, off + s, by simp [Addr.add_lit], e2, fun i c hc => ?_⟩
      rw [List.getElem?_drop] at hc
      rw [Nat.add_assoc]
      exact e3 _ c hc
  · intro hp x e
    have hd := hd (by omega)
    split at e
    · exact hd x e
    · cases a with
      | none => simp at e
      | some y =>
        have := hd y rfl
        simp only [Option.map_some, Option.some.injEq] at e
        subst e
        unfold Addr.add
        split <;> exact this

theorem wpList_slice_from {ops : Array Oper} {rest : List Oper} {o : Oper} {a : Act} {Q : Exit → Act → World → Prop} {w : World} (hgd : o.guard = none) (x lo : Operand) (hop : o.op = Op.slice 28 x (some lo) none none)
    (v v' : Value) (s : Nat) (hx : a.eval x = v) (hlo : a.eval lo = .int .i64 (s : Int)) (hrun : ∀ W, (Instr.slice 28 v (some (.int .i64 (s : Int))) none none).run Tryd.prog W = .ok v' W)
    (h : wpList Tryd.prog ops Q rest (a.put o.dst v') w) : wpList Tryd.prog ops Q (o :: rest) a w := by
  refine wpList_plain hgd fun K hK => ?_
  unfold Oper.wp
  simp [execOp, hop, hx, hlo, run_sliceAt_slice _ 28 _ _ _ _ elem22, hrun, Result.andThen]
  exact hK _ _ h

theorem grown_setRow (w : World) (g : Nat) (cs : Array Value) : w.grownBy (w.setRow g cs) (some g) :=
  ⟨rfl, rfl, rfl, by simp [World.setRow], fun k _ hne => setRow_other w g k cs (fun e => hne (by rw [e]))⟩

/-- 'copy' into the midst of a block, as a step of a region that draws -/
theorem step_copy_blk {P : Program} {ops : Array Oper} {o : Oper} {a : Act} {w : World} {K : Act → World → Prop} {Q : Exit → Act → World → Prop} {E : Prop} (hgd : o.guard = none) (d s : Operand) (dT sT : TypeId)
    (ho : o.op = .call { callee := .builtin .copy, args := #[d, s], argTypes := #[dT, sT] }) (elem : TypeId) (hu : P.underlying dT = some (.slice elem)) (hsz : (P.info? elem).map (·.size) = some 1)
    (g off dLen dCap : Nat) (sp : Option Addr) (sLen sCap : Nat) (hd : a.eval d = .slice (some ⟨g, off, none⟩) dLen dCap) (hs : a.eval s = .slice sp sLen sCap)
    (cur : List Value) (t : TypeId) (hg : Blk w g t cur) (cs : List Value) (hn : cs.length = Nat.min sLen dLen)
    (hpos : ∃ ad, sp = some ad ∧ ∀ j v, cs[j]? = some v → w.cell? (ad.add j) = some v)
    (hfit : off + cs.length ≤ cur.length) (h1 : ∀ v ∈ cs, v.oneCell' = true)
    (h : ∀ w', Hid (Blk w' g t (splice cur off cs)) → Hid (w.grownBy w' (some g)) → K (a.put o.dst (goInt cs.length)) w') :
    if Region.wanted o (yielded ops a.tmps) = true then Oper.wp P o a w K Q else E := by
  have hw : Region.wanted o (yielded ops a.tmps) = true := by simp [Region.wanted, hgd]
  rw [if_pos hw]
  obtain ⟨ad, rfl, hsrc⟩ := hpos
  have hrun := run_copy_row (P := P) w dT sT o.type elem g off dLen dCap ad sLen sCap cur.toArray t cs hu hsz hg hn hsrc (by simpa using hfit) h1
  unfold Oper.wp
  simp [execOp, ho, resolve, invoke, builtin, hd, hs, hrun, Result.andThen]
  exact h _ (show _ = _ by simpa [splice] using setRow_heap w g _ _ t _ hg) (grown_setRow w g _)

set_option maxHeartbeats 400000 in
theorem isMade_is (d : Nat) (b : Bool) (w : World) (h : w.cell? ⟨d, 0, none⟩ = some (.bool b)) :
    Calls Tryd.prog 51 #[.pointer (some ⟨d, 0, none⟩)] w fun e w' => e = .returned (.bool b) ∧ w = w' := by
  go_enter Tryd.func51, Tryd.ntmps51
  go_wp2
  go_ret
  exact ⟨rfl, rfl⟩
theorem isMade_nil (w : World) : Calls Tryd.prog 51 #[.pointer none] w fun e w' => e = .returned (.bool false) ∧ w = w' := by
  go_enter Tryd.func51, Tryd.ntmps51
  go_wp2
  go_ret
  exact ⟨rfl, rfl⟩

end Go.Proofs.YtgdecjacbkicmaaDoor.Hsh
