/-
  Small laws on bytes in memory that the proofs of this seat share: what a slice of bytes that came in holds ('In'), what a slice of bytes of the call's own holds ('Own'), 'make' with a length and a capacity, 'copy' into it. Of no program.
-/
import Derived.WalkKit
import Derived.Laws.CopyOwn
import Derived.Lib.AppendStr
import Derived.Laws.IdiomStrings
namespace Go.Proofs.YtgdecjacbkicmaaDoor.Oct
open Go.RowKit
set_option maxRecDepth 100000

/-- bytes as cells -/
def U (l : List UInt8) : List Value := l.map fun b => Value.int .u8 (b.toNat : Int)
theorem U_length (l : List UInt8) : (U l).length = l.length := by simp [U]
theorem U_append (l r : List UInt8) : U (l ++ r) = U l ++ U r := by simp [U]
theorem U_one (l : List UInt8) : ∀ u ∈ U l, u.oneCell' = true := by
  intro u hu
  obtain ⟨_, _, rfl⟩ := List.mem_map.1 hu
  rfl
theorem U_get (l : List UInt8) (i : Nat) (h : i < l.length) : (U l)[i]? = some (.int .u8 (l[i].toNat : Int)) := by simp [U, h]
theorem U_str (s : ByteArray) : Lib.strCells s = U s.data.toList := rfl

/-- a slice of bytes that is read: its elements are l -/
def In (w : World) (a : Option Addr) (len cap : Nat) (l : List UInt8) : Prop :=
  l.length = len ∧ len ≤ cap ∧ len ≤ 140737488355328 ∧ (a = none → cap = 0) ∧
  (0 < len → ∃ b off, a = some ⟨b, off, none⟩ ∧ b < w.heap.size ∧ ∀ i c, l[i]? = some c → w.cell? ⟨b, off + i, none⟩ = some (.int .u8 (c.toNat : Int)))

theorem In.below {w w' : World} {a : Option Addr} {len cap : Nat} {l : List UInt8} (h : In w a len cap l) (hb : Below w.heap.size w w') : In w' a len cap l := by
  obtain ⟨h1, h2, h3, h4, h5⟩ := h
  refine ⟨h1, h2, h3, h4, fun hp => ?_⟩
  obtain ⟨b, off, e1, e2, e3⟩ := h5 hp
  exact ⟨b, off, e1, Nat.lt_of_lt_of_le e2 hb.size, fun i c hc => (hb.cell (p := ⟨b, off + i, none⟩) e2).trans (e3 i c hc)⟩
theorem In.nil (w : World) : In w none 0 0 [] := ⟨rfl, Nat.le_refl _, by omega, fun _ => rfl, fun h => absurd h (by omega)⟩

/-- a slice of bytes of the call's own (blocks from B on), its elements l -/
def Own (e : TypeId) (B : Nat) (w : World) (v : Value) (l : List UInt8) : Prop := w.ownsRow B e 1 v l.length (U l)

theorem Own.mono {e : TypeId} {B B' : Nat} {w : World} {v : Value} {l : List UInt8} (h : Own e B w v l) (hB : B' ≤ B) : Own e B' w v l := by
  obtain ⟨h1, h2⟩ := h
  refine ⟨h1, ?_⟩
  rcases h2 with h2 | ⟨g, cap, cur, e1, e2, r⟩
  · exact .inl h2
  · exact .inr ⟨g, cap, cur, e1, by omega, r⟩

/-- what lies below a bound that the own row lies below, too, stays owned -/
theorem Own.below {e : TypeId} {B B' : Nat} {w w' : World} {v : Value} {l : List UInt8} (h : Own e B w v l) (hb : Below B' w w') (hB : w.heap.size ≤ B') : Own e B w' v l := by
  obtain ⟨h1, h2⟩ := h
  refine ⟨h1, ?_⟩
  rcases h2 with h2 | ⟨g, cap, cur, e1, e2, hg, r⟩
  · exact .inl h2
  · refine .inr ⟨g, cap, cur, e1, e2, ?_, r⟩
    rw [hb.block g (Nat.lt_of_lt_of_le (lt_of_block hg) hB)]; exact hg

theorem Own.toIn {e : TypeId} {B : Nat} {w : World} {g cap : Nat} {l : List UInt8} (h : Own e B w (.slice (some ⟨g, 0, none⟩) l.length cap) l) (hc : l.length ≤ 140737488355328) : In w (some ⟨g, 0, none⟩) l.length cap l := by
  have hh := h
  obtain ⟨h1, h2⟩ := h
  rcases h2 with h2 | ⟨g', cap', cur, e1, e2, hg, e3, _⟩
  · simp at h2
  · simp only [Value.slice.injEq, Option.some.injEq, Addr.mk.injEq] at e1
    obtain ⟨⟨rfl, _⟩, _, rfl⟩ := e1
    refine ⟨rfl, e3, hc, by simp, fun _ => ⟨g, 0, rfl, lt_of_block hg, fun i c hi => ?_⟩⟩
    have hlt : i < l.length := (List.getElem?_eq_some_iff.1 hi).1
    have := World.ownsRow.cellAt hh i (by omega)
    rw [Nat.zero_add, this]
    have e : l[i] = c := by have := (List.getElem?_eq_some_iff.1 hi).2; exact this
    rw [U_get l i hlt, e]

/-- the shape of what owns a byte at the least -/
theorem Own.shape {e : TypeId} {B : Nat} {w : World} {v : Value} {l : List UInt8} (h : Own e B w v l) (hp : 0 < l.length) :
    ∃ g cap, v = .slice (some ⟨g, 0, none⟩) l.length cap ∧ B ≤ g ∧ g < w.heap.size ∧ l.length ≤ cap ∧ cap ≤ maxLen := by
  rcases h.2 with ⟨_, h2⟩ | ⟨g, cap, cur, e1, e2, hg, e3, e4, _⟩
  · omega
  · exact ⟨g, cap, e1, e2, lt_of_block hg, e3, e4⟩

/-- so many noughts -/
def noughts (m : Nat) : List Value := List.replicate m (Value.int .u8 0)
theorem noughts_length (m : Nat) : (noughts m).length = m := by simp [noughts]

/-- 'make([]byte, n, m)' -/
theorem wpList_make_two {P : Program} (w : World) {ops : Array Oper} {rest : List Oper} {o : Oper} {a : Act} {Q : Exit → Act → World → Prop}
    (hg : o.guard = none) (l c : Operand) (t : TypeId) (hop : o.op = Op.makeSlice t l c)
    (e : TypeId) (i : TypeInfo) (h1 : P.underlying t = some (.slice e)) (h2 : P.info? e = some i) (h3 : i.zero = some (.int .u8 0)) (h4 : i.size = 1) (h5 : i.bytes = 1)
    (kl kc : IntKind) (L C : Int) (n m : Nat) (hl : a.eval l = .int kl L) (hc : a.eval c = .int kc C) (hL : L = (n : Int)) (hC : C = (m : Int)) (b1 : n ≤ m) (b2 : m ≤ 281474976710656)
    (hK : ∀ w', Hid (w'.heap[w.heap.size]? = some (.cells (noughts m).toArray e (0, 0))) → Hid (w'.heap.size = w.heap.size + 1) → Below w.heap.size w w' → wpList P ops Q rest (a.put o.dst (.slice (some ⟨w.heap.size, 0, none⟩) n m)) w') :
    wpList P ops Q (o :: rest) a w := by
  refine wpList_plain hg fun K hK' => ?_
  subst hL hC
  have hrun := run_make (P := P) w t e i (.int .u8 0) h1 h2 h3 kl kc (n : Int) (m : Int) (by omega) (by omega) (by rw [h5]; omega) (by omega)
  have hz : (Value.int IntKind.u8 0).cells = #[Value.int .u8 0] := rfl
  simp only [Int.toNat_natCast, h4, Nat.mul_one, hz] at hrun
  have hcells : madeCells #[Value.int IntKind.u8 0] m = (noughts m).toArray := by
    unfold noughts; rw [← toList_madeCells_one _ m, Array.toArray_toList]
  rw [hcells] at hrun
  unfold Oper.wp
  simp [execOp, hop, hl, hc, hrun, Result.andThen]
  refine hK' _ _ (hK _ ?_ ?_ ?_)
  · exact heap_alloc_new w _
  · show (w.alloc _).heap.size = _; simp
  · exact (Below.refl _ _).alloc (Nat.le_refl _) _

theorem splice_zero (m : Nat) (l : List Value) : splice (noughts m) 0 l = l ++ noughts (m - l.length) := by
  simp [splice, noughts]

/-- behind a copy into a new row -/
theorem own_of_splice {e : TypeId} {B : Nat} {w : World} {g m : Nat} {l : List UInt8} (hB : B ≤ g) (hm : m ≤ maxLen) (hl : l.length ≤ m) (h : w.heap[g]? = some (.cells (splice (noughts m) 0 (U l)).toArray e (0, 0))) :
    Own e B w (.slice (some ⟨g, 0, none⟩) l.length m) l := by
  have hs := splice_zero m (U l)
  refine ⟨by simp [U_length], .inr ⟨g, m, _, rfl, hB, h, hl, hm, ?_, ?_⟩⟩
  · rw [hs]; simp [U_length, noughts_length]; omega
  · rw [hs]; simp [U_length]

theorem cells_of_in {w : World} {a : Option Addr} {len cap : Nat} {l : List UInt8} (h : In w a len cap l) (hp : 0 < (U l).length) : ∃ ad, a = some ad ∧ ∀ j v, (U l)[j]? = some v → w.cell? (ad.add j) = some v := by
  obtain ⟨h1, _, _, _, h5⟩ := h
  obtain ⟨b, off, e1, _, e3⟩ := h5 (by rw [U_length] at hp; omega)
  refine ⟨_, e1, fun j v hj => ?_⟩
  have hlt : j < l.length := by have := (List.getElem?_eq_some_iff.1 hj).1; rwa [U_length] at this
  rw [U_get l j hlt] at hj
  rw [Addr.add_lit, e3 j l[j] (by simp [hlt])]
  exact hj

/-- 'string(b)' of what is owned -/
theorem string_own {P : Program} {e t9 t22 : TypeId} (h22 : P.underlying t22 = some (.slice e)) (h5 : P.underlying e = some (.int .u8)) (h9 : P.underlying t9 = some .string)
    {B : Nat} {w : World} {g cap : Nat} {l : List UInt8} (h : Own e B w (.slice (some ⟨g, 0, none⟩) l.length cap) l) :
    (convert t22 t9 (.slice (some ⟨g, 0, none⟩) l.length cap)).run P w = .ok (.string ⟨l.toArray⟩) w := by
  refine run_convert_bytes_back w t22 t9 e ⟨g, 0, none⟩ cap l h22 h5 h9 fun j hj => ?_
  have := World.ownsRow.cellAt h j (by omega)
  rw [Addr.add_lit, Nat.zero_add, this, U_get l j hj]

end Go.Proofs.YtgdecjacbkicmaaDoor.Oct
