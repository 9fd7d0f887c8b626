/-
  A slice of slices of bytes among a law's arguments: none of its rows is longer than memory reaches.
-/
import Derived.Test.YtchblcfbllcbmabPieces
namespace Go.Proofs.Ytchblcfbllcbmab.Oct
open Go.RowKit Go.ChangeShapes Go.WideShapes Go.ChangeAt Go.Deep

theorem mem_weightsAll {H : Type} {P : Program} {e : TypeId} {d : DataW H} {n : Nat} (hn : n ∈ d.weights P e) : ∀ {ds : List (DataW H)}, d ∈ ds → n ∈ DataW.weightsAll P e ds
  | [], h => by cases h
  | d0 :: r, h => by
    simp only [DataW.weightsAll, List.mem_append]
    rcases List.mem_cons.1 h with rfl | h
    · exact .inl hn
    · exact .inr (mem_weightsAll hn h)

/-- a slice of slices of bytes that was read: what the walks are told of it -/
theorem view_rows_sized {H : Type} {enc : TypeId × Value → H} {P : Program} {w : World} {t e q : TypeId} {fuel : Nat} {a : Option Addr} {len cap : Nat} {x : DataW H × List MemPlace}
    (ht : P.underlying t = some (.slice e)) (he : P.underlying e = some (.slice q)) (hq : P.underlying q = some (.int .u8)) (ce : P.cellsOf e = 1) (cq : P.cellsOf q = 1) (hby : P.bytesOf q = 1)
    (h : DataW.trod enc P w 0 (fun _ => true) true fuel t (Value.slice a len cap).cells.toList = some x) (hx : ∀ n ∈ x.1.weights P t, n ≤ reachBytes) : ∃ ls, ArgL w a len cap ls ∧ ∀ l ∈ ls, l.length ≤ 140737488355328 := by
  rcases open_int_rows ht he hq ce cq h with ⟨hcs, _⟩ | ⟨ad, l, c, A, L, C, Z, hcs, _, hl, hm, hd, hr⟩
  · simp [Value.cells] at hcs
    obtain ⟨rfl, rfl, rfl⟩ := hcs
    exact ⟨[], ArgL.nil w, by simp⟩
  · simp [Value.cells] at hcs
    obtain ⟨rfl, rfl, rfl⟩ := hcs
    have each : ∀ r, r < len → ∃ l, Arg w (A r) (L r) (C r) l ∧ l.length ≤ 140737488355328 := by
      intro r hlt
      obtain ⟨_, r1, r2, r3, r4, r5, r6⟩ := hr r (by omega)
      have hmem : intRow .u8 (A r) (L r) (Z r) ∈ (List.range len).map fun r => (intRow .u8 (A r) (L r) (Z r) : DataW H) := List.mem_map.2 ⟨r, List.mem_range.2 hlt, rfl⟩
      cases hA : A r with
      | none =>
        have h0 := r5 hA
        have : L r = 0 := by omega
        rw [this, h0]
        exact ⟨[], Arg.nil w, by simp⟩
      | some y =>
        obtain ⟨l, hl'⟩ := arg_of_ints y (L r) (C r) (Z r) r1 r2 r3 (fun i hi => (r6 y hA).2 i (by omega)) r4
        refine ⟨l, hl', ?_⟩
        have hwt : C r ∈ (intRow .u8 (A r) (L r) (Z r) : DataW H).weights P e := by
          rw [hA]
          simp only [intRow, DataW.weights, he, hby]
          refine List.mem_cons.2 (.inl ?_)
          simp [lits]
          omega
        have hin : C r ∈ x.1.weights P t := by
          rw [hd]
          simp only [DataW.weights, ht]
          exact List.mem_cons.2 (.inr (List.mem_append.2 (.inl (mem_weightsAll hwt hmem))))
        have := hx _ hin
        have e1 := hl'.1
        simp only [reachBytes] at this
        omega
    obtain ⟨G, hG⟩ := choose_lt each
    refine ⟨(List.range len).map G, ⟨by simp, hl, hm, by simp, fun hp => ?_⟩, fun l hl' => ?_⟩
    · obtain ⟨b, off, spot⟩ := ad
      have h0 := (hr 0 (by omega)).1
      have hspot : spot = none := by simpa [Addr.add] using World.cell?_spot h0
      subst hspot
      refine ⟨b, off, rfl, ?_, fun i l hi => ?_⟩
      · have := World.block_lt_of_cell? w _ h0
        simpa [Addr.add] using this
      · have hlt : i < len := by
          have := (List.getElem?_eq_some_iff.1 hi).1
          simpa using this
        have e : G i = l := by simpa [List.getElem?_map, List.getElem?_range hlt] using hi
        subst e
        have hc := (hr i (by omega)).1
        rw [Addr.add_lit] at hc
        exact ⟨_, _, _, hc, (hG i hlt).1⟩
    · obtain ⟨i, hi, rfl⟩ := List.mem_map.1 hl'
      exact (hG i (List.mem_range.1 hi)).2
#print axioms view_rows_sized
end Go.Proofs.Ytchblcfbllcbmab.Oct
