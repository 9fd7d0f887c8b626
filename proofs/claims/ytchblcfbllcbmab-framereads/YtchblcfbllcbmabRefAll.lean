/-
  Layer 4 (frame): the reference's 'All'.
-/
import Derived.Test.YtchblcfbllcbmabRefIs
import Derived.Test.YtchblcfbllcbmabKept
import Derived.Test.YtchblcfbllcbmabAll
namespace Go.Proofs.Ytchblcfbllcbmab.Oct
open Go.RowKit Go.Shelf
attribute [local go_sem] Oper.semAt_some

/-- where the frames stand, one behind the other -/
def ps (l : List UInt8) : Nat → Nat
  | 0 => 0
  | t + 1 => ps l t + num4 (l.drop (ps l t)) + 12
def lenOf : Value → Nat
  | .slice _ n _ => n
  | _ => 0
theorem cell_new_row (w : World) (t : TypeId) (v : Value) : ∀ j u, [v][j]? = some u → (w.alloc (.cells #[v] t)).cell? ((⟨w.heap.size, 0, none⟩ : Addr).add j) = some u := by
  intro j u hj
  have e := World.cell?_alloc_mark w #[v] t (0, 0) j
  rw [Addr.add_lit, Nat.zero_add, e]
  simpa using hj
theorem info22 : (Try.prog.info? 22).map (fun i => (i.zero, i.size, i.bytes)) = some (some (.slice none 0 0), 1, 24) := by kernel_rfl

structure RAll (w : World) (l : List UInt8) (n t s : Nat) (v : Value) (vs : List Value) (wr : World) : Prop where
  pos : s = ps l t
  le : s ≤ n
  few : 12 * t ≤ s
  good : ∀ i, i < t → errOf (l.drop (ps l i)) = 0
  row : wr.ownsRow w.heap.size 22 1 v t vs
  each : ∀ i, i < t → ∃ A m C, vs[i]? = some (.slice A m C) ∧ Own 5 w.heap.size wr (.slice A m C) (bodyOf (l.drop (ps l i)))
  below : Below w.heap.size w wr

theorem row_drew {e : TypeId} {B n : Nat} {w w' : World} {v : Value} {xs : List Value} (h : w.ownsRow B e 1 v n xs) (hb : Below w.heap.size w w') : w'.ownsRow B e 1 v n xs := by
  obtain ⟨h1, h2⟩ := h
  refine ⟨h1, ?_⟩
  rcases h2 with h2 | ⟨g, c, cur, rfl, e2, hg2, r⟩
  · exact .inl h2
  · exact .inr ⟨g, c, cur, rfl, e2, (hb.block g (lt_of_block hg2)).trans hg2, r⟩

theorem RAll.next {w : World} {l : List UInt8} {n t s m : Nat} {v v4 : Value} {vs : List Value} {wr w1 w4 : World} {a1 : Option Addr} {c1 : Nat} (h : RAll w l n t s v vs wr) (hll : l.length = n) (hgood : errOf (l.drop s) = 0) (hm : num4 (l.drop s) = m)
    (hb1 : Below wr.heap.size wr w1) (ho1 : Own 5 wr.heap.size w1 (.slice a1 m c1) (bodyOf (l.drop s)))
    (ho4 : w4.ownsRow w.heap.size 22 1 v4 (t + 1) (vs ++ [.slice a1 m c1])) (hg4 : (w1.alloc (.cells #[.slice a1 m c1] 22)).grownBy w4 v.ownBlock) :
    RAll w l n (t + 1) (s + m + 12) v4 (vs ++ [.slice a1 m c1]) w4 := by
  have hsz := h.below.size
  have hs1 := hb1.size
  have hs4 := hg4.size
  rw [World.size_alloc] at hs4
  have hrow1 := row_drew h.row hb1
  have hrow3 := World.ownsRow.alloc hrow1 (.cells #[.slice a1 m c1] 22)
  have hvl : vs.length = t := by have := h.row.1; simpa using this
  have keep : ∀ {x : Value} {k : List UInt8}, w1.ownsRow w.heap.size 5 1 x k.length (U k) → w4.ownsRow w.heap.size 5 1 x k.length (U k) := fun hx =>
    row_kept (World.ownsRow.alloc hx _) hg4 (fun g hg e => rows_apart (by decide) (World.ownsRow.alloc hx (.cells #[.slice a1 m c1] 22)) hrow3 g hg e)
  have ho1' : w1.ownsRow w.heap.size 5 1 (.slice a1 m c1) (bodyOf (l.drop s)).length (U (bodyOf (l.drop s))) := by
    obtain ⟨k1, k2⟩ := ho1
    refine ⟨k1, ?_⟩
    rcases k2 with k2 | ⟨g, c, cur, e1, e2, r⟩
    · exact .inl k2
    · exact .inr ⟨g, c, cur, e1, by omega, r⟩
  have hg := good_of hgood
  refine ⟨?_, ?_, ?_, ?_, ho4, ?_, ?_⟩
  · show _ = ps l t + num4 (l.drop (ps l t)) + 12
    rw [← h.pos, hm]
  · have := hg.2.2.2.1
    rw [List.length_drop] at this
    have := h.le
    omega
  · have := h.few
    omega
  · intro i hi
    by_cases e : i = t
    · subst e; rw [← h.pos]; exact hgood
    · exact h.good i (by omega)
  · intro i hi
    by_cases e : i = t
    · subst e
      refine ⟨a1, m, c1, by rw [List.getElem?_append_right (by omega), hvl]; simp, ?_⟩
      rw [← h.pos]
      exact keep ho1'
    · obtain ⟨A, m', C, e1, e2⟩ := h.each i (by omega)
      refine ⟨A, m', C, by rw [List.getElem?_append_left (by omega)]; exact e1, keep (row_drew e2 hb1)⟩
  · refine (h.below.trans (hb1.mono hsz)).trans ⟨?_, ?_, ?_, ?_, ?_⟩
    · exact hg4.os
    · exact hg4.tape
    · exact hg4.output
    · omega
    · intro b hb
      refine (hg4.block b (by rw [World.size_alloc]; omega) (fun e => by have := row_base hrow3 _ e.symm; omega)).trans (Below.heap_alloc _ _ _ (by omega))
end Go.Proofs.Ytchblcfbllcbmab.Oct
