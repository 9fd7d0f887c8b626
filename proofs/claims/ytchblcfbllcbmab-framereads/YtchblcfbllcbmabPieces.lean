/-
  A slice of slices of bytes among a law's arguments, as the walks take it.
-/
import Derived.Test.YtchblcfbllcbmabArgs
import Derived.Deep.Matrix
namespace Go.Proofs.Ytchblcfbllcbmab.Oct
open Go.RowKit Go.ChangeShapes Go.WideShapes Go.ChangeAt Go.Deep

theorem Arg.below {w w' : World} {a : Option Addr} {len cap : Nat} {l : List UInt8} (h : Arg w a len cap l) (hb : Below w.heap.size w w') : Arg w' a len cap l := by
  obtain ⟨h1, h2, h3, h4, h5⟩ := h
  refine ⟨h1, h2, h3, h4, fun hp => ?_⟩
  obtain ⟨b, off, e1, e2, e3⟩ := h5 hp
  exact ⟨b, off, e1, Nat.lt_of_lt_of_le e2 hb.size, fun i c hc => (hb.cell (p := ⟨b, off + i, none⟩) e2).trans (e3 i c hc)⟩

/-- a slice of slices of bytes that came in: its elements are ls -/
def ArgL (w : World) (a : Option Addr) (len cap : Nat) (ls : List (List UInt8)) : Prop :=
  ls.length = len ∧ len ≤ cap ∧ cap ≤ maxLen ∧ (a = none → cap = 0) ∧
  (0 < len → ∃ b off, a = some ⟨b, off, none⟩ ∧ b < w.heap.size ∧ ∀ i l, ls[i]? = some l → ∃ A L C, w.cell? ⟨b, off + i, none⟩ = some (.slice A L C) ∧ Arg w A L C l)

theorem ArgL.nil (w : World) : ArgL w none 0 0 [] := ⟨rfl, Nat.le_refl _, by unfold maxLen; omega, fun _ => rfl, fun h => absurd h (by omega)⟩

theorem ArgL.below {w w' : World} {a : Option Addr} {len cap : Nat} {ls : List (List UInt8)} (h : ArgL w a len cap ls) (hb : Below w.heap.size w w') : ArgL w' a len cap ls := by
  obtain ⟨h1, h2, h3, h4, h5⟩ := h
  refine ⟨h1, h2, h3, h4, fun hp => ?_⟩
  obtain ⟨b, off, e1, e2, e3⟩ := h5 hp
  refine ⟨b, off, e1, Nat.lt_of_lt_of_le e2 hb.size, fun i l hl => ?_⟩
  obtain ⟨A, L, C, q1, q2⟩ := e3 i l hl
  exact ⟨A, L, C, (hb.cell (p := ⟨b, off + i, none⟩) e2).trans q1, q2.below hb⟩

/-- one row of it, at its place -/
theorem ArgL.row {w : World} {a : Option Addr} {len cap : Nat} {ls : List (List UInt8)} (h : ArgL w a len cap ls) (i : Nat) (hi : i < len) :
    ∃ b off A L C l, a = some ⟨b, off, none⟩ ∧ ls[i]? = some l ∧ w.cell? ⟨b, off + i, none⟩ = some (.slice A L C) ∧ Arg w A L C l := by
  obtain ⟨h1, -, -, -, h5⟩ := h
  obtain ⟨b, off, e1, -, e3⟩ := h5 (by omega)
  have hl : ls[i]? = some (ls[i]'(by omega)) := List.getElem?_eq_getElem _
  obtain ⟨A, L, C, q1, q2⟩ := e3 i _ hl
  exact ⟨b, off, A, L, C, _, e1, hl, q1, q2⟩

/-- a slice of slices of bytes that was read: what the walks are told of it -/
theorem view_rows {H : Type} {enc : TypeId × Value → H} {P : Program} {w : World} {t e q : TypeId} {fuel : Nat} {a : Option Addr} {len cap : Nat} {x : DataW H × List MemPlace}
    (ht : P.underlying t = some (.slice e)) (he : P.underlying e = some (.slice q)) (hq : P.underlying q = some (.int .u8)) (ce : P.cellsOf e = 1) (cq : P.cellsOf q = 1)
    (h : DataW.trod enc P w 0 (fun _ => true) true fuel t (Value.slice a len cap).cells.toList = some x) : ∃ ls, ArgL w a len cap ls := by
  rcases open_int_rows ht he hq ce cq h with ⟨hcs, _⟩ | ⟨ad, l, c, A, L, C, Z, hcs, _, hl, hm, _, hr⟩
  · simp [Value.cells] at hcs
    obtain ⟨rfl, rfl, rfl⟩ := hcs
    exact ⟨[], ArgL.nil w⟩
  · simp [Value.cells] at hcs
    obtain ⟨rfl, rfl, rfl⟩ := hcs
    have each : ∀ r, r < len → ∃ l, Arg w (A r) (L r) (C r) l := by
      intro r hlt
      obtain ⟨_, r1, r2, r3, r4, r5, r6⟩ := hr r (by omega)
      cases hA : A r with
      | none =>
        have h0 := r5 hA
        have : L r = 0 := by omega
        rw [this, h0]
        exact ⟨[], Arg.nil w⟩
      | some x =>
        exact arg_of_ints x (L r) (C r) (Z r) r1 r2 r3 (fun i hi => (r6 x hA).2 i (by omega)) r4
    obtain ⟨G, hG⟩ := choose_lt each
    refine ⟨(List.range len).map G, by simp, hl, hm, by simp, fun hp => ?_⟩
    obtain ⟨b, off, spot⟩ := ad
    have h0 := (hr 0 (by omega)).1
    have hspot : spot = none := by simpa [Addr.add] using World.cell?_spot h0
    subst hspot
    refine ⟨b, off, rfl, ?_, fun i l hi => ?_⟩
    · have := World.block_lt_of_cell? w _ h0
      simpa [Addr.add] using this
    · have hlt : i < len := by
        have := (List.getElem?_eq_some_iff.1 hi).1
        simpa using this
      have e : G i = l := by simpa [List.getElem?_map, List.getElem?_range hlt] using hi
      subst e
      have hc := (hr i (by omega)).1
      rw [Addr.add_lit] at hc
      exact ⟨_, _, _, hc, hG i hlt⟩
#print axioms view_rows
#print axioms ArgL.row
end Go.Proofs.Ytchblcfbllcbmab.Oct
