/-
  Layer 4 (frame): what the first loop of the law on frames keeps.
-/
import Derived.Test.YtchblcfbllcbmabBegin
import Derived.Test.YtchblcfbllcbmabPieces
import Derived.Test.YtchblcfbllcbmabSlices
namespace Go.Proofs.Ytchblcfbllcbmab.Oct
open Go.RowKit

/-- where the frames end, as cells -/
def endsOf (ls : List (List UInt8)) (t : Nat) : List Value := (List.range t).map fun j => Value.int .i64 (E ls (j + 1) : Int)
theorem endsOf_length (ls : List (List UInt8)) (t : Nat) : (endsOf ls t).length = t := by simp [endsOf]
theorem endsOf_succ (ls : List (List UInt8)) (t : Nat) : endsOf ls (t + 1) = endsOf ls t ++ [.int .i64 (E ls (t + 1) : Int)] := by simp [endsOf, List.range_succ]

/-- what the first loop keeps -/
structure Kept (w : World) (ls : List (List UInt8)) (a : Option Addr) (len cap t : Nat) (ab : Option Addr) (nb cb : Nat) (ae : Option Addr) (ce : Nat) (wr : World) : Prop where
  le : t ≤ len
  few : t ≤ 51
  nb_eq : nb = E ls t
  nb_le : nb ≤ 20012
  own : Own 5 (w.heap.size + 3) wr (.slice ab nb cb) (bb (ls.take t))
  ends : wr.ownsRow (w.heap.size + 3) 3 1 (.slice ae t ce) t (endsOf ls t)
  box0 : wr.heap[w.heap.size]? = some (.cells #[.slice a len cap] 29)
  box1 : wr.heap[w.heap.size + 1]? = some (.cells #[.bool false] 4)
  box2 : wr.heap[w.heap.size + 2]? = some (.cells #[.slice ae t ce] 35)
  below : Below w.heap.size w wr
  size : w.heap.size + 3 ≤ wr.heap.size
  short : ∀ x ∈ ls.take t, x.length ≤ 20000

theorem info3 : (Try.prog.info? 3).map (fun i => (i.zero, i.size, i.bytes)) = some (some (.int .i64 0), 1, 8) := by kernel_rfl
theorem kept_start (w : World) (ls : List (List UInt8)) (a : Option Addr) (len cap : Nat) : Kept w ls a len cap 0 none 0 0 none 0 (((w.alloc (.cells #[.slice a len cap] 29)).alloc (.cells #[.bool false] 4)).alloc (.cells #[.slice none 0 0] 35)) := by
  refine ⟨Nat.zero_le _, by omega, rfl, by omega, World.ownsRow_nil _ _ _ _, World.ownsRow_nil _ _ _ _, ?_, ?_, ?_, ?_, by simp, by simp⟩
  · exact (Below.heap_alloc _ _ _ (by simp; omega)).trans ((Below.heap_alloc _ _ _ (by simp)).trans (heap_alloc_new w _))
  · have e := heap_alloc_new (w.alloc (.cells #[.slice a len cap] 29)) (.cells #[.bool false] 4)
    rw [World.size_alloc] at e
    exact (Below.heap_alloc _ _ _ (by simp)).trans e
  · have e := heap_alloc_new ((w.alloc (.cells #[.slice a len cap] 29)).alloc (.cells #[.bool false] 4)) (.cells #[.slice none 0 0] 35)
    rw [World.size_alloc, World.size_alloc] at e
    exact e
  · exact (((Below.refl _ w).alloc (Nat.le_refl _) _).alloc (by simp) _).alloc (by simp; omega) _

/-- an own row lies as it lay, where another block was turned -/
theorem row_kept {e : TypeId} {B n : Nat} {w w' : World} {v : Value} {xs : List Value} {row : Option Nat} (h : w.ownsRow B e 1 v n xs) (hg : w.grownBy w' row) (hne : ∀ g, v.ownBlock = some g → row ≠ some g) : w'.ownsRow B e 1 v n xs := by
  obtain ⟨h1, h2⟩ := h
  refine ⟨h1, ?_⟩
  rcases h2 with h2 | ⟨g, c, cur, rfl, e2, hg2, r⟩
  · exact .inl h2
  · exact .inr ⟨g, c, cur, rfl, e2, (hg.block g (lt_of_block hg2) (fun e => hne g rfl e.symm)).trans hg2, r⟩
/-- two own rows of unlike elements are two blocks -/
theorem rows_apart {e e' : TypeId} (hee : e ≠ e') {B n m : Nat} {w : World} {v u : Value} {xs ys : List Value} (h : w.ownsRow B e 1 v n xs) (k : w.ownsRow B e' 1 u m ys) : ∀ g, v.ownBlock = some g → u.ownBlock ≠ some g := by
  intro g hv hu
  rcases h.2 with ⟨rfl, _⟩ | ⟨g1, c1, cur1, rfl, _, hg1, _⟩
  · cases hv
  · rcases k.2 with ⟨rfl, _⟩ | ⟨g2, c2, cur2, rfl, _, hg2, _⟩
    · cases hu
    · simp only [Value.ownBlock, Option.some.injEq] at hv hu
      subst hv hu
      rw [hg1] at hg2
      simp only [Option.some.injEq, Obj.cells.injEq] at hg2
      exact hee hg2.2.1
theorem row_base {e : TypeId} {B n : Nat} {w : World} {v : Value} {xs : List Value} (h : w.ownsRow B e 1 v n xs) : ∀ g, v.ownBlock = some g → B ≤ g := by
  intro g hv
  exact (h.lt g hv).1

/-- behind the frame and the append of it -/
theorem Kept.mid {w : World} {ls : List (List UInt8)} {a : Option Addr} {len cap t : Nat} {ab : Option Addr} {nb cb : Nat} {ae : Option Addr} {ce : Nat} {wr w1 w2 : World} (h : Kept w ls a len cap t ab nb cb ae ce wr) (hb1 : Below wr.heap.size wr w1) (hg2 : w1.grownBy w2 (Value.slice ab nb cb).ownBlock) :
    w2.ownsRow (w.heap.size + 3) 3 1 (.slice ae t ce) t (endsOf ls t) ∧ w2.heap[w.heap.size + 2]? = some (.cells #[.slice ae t ce] 35) ∧ w.heap.size + 3 ≤ w2.heap.size := by
  have he1 : w1.ownsRow (w.heap.size + 3) 3 1 (.slice ae t ce) t (endsOf ls t) := by
    obtain ⟨k1, k2⟩ := h.ends
    refine ⟨k1, ?_⟩
    rcases k2 with k2 | ⟨g, c, cur, e1, e2, hgg, r⟩
    · exact .inl k2
    · exact .inr ⟨g, c, cur, e1, e2, (hb1.block g (lt_of_block hgg)).trans hgg, r⟩
  have hb5 : w1.ownsRow (w.heap.size + 3) 5 1 (.slice ab nb cb) (bb (ls.take t)).length (U (bb (ls.take t))) := Own.below h.own hb1 (Nat.le_refl _)
  have hs := h.size
  have hs1 := hb1.size
  have hs2 := hg2.size
  refine ⟨row_kept he1 hg2 (fun g hg e => rows_apart (by decide) he1 hb5 g hg e), ?_, by omega⟩
  exact (hg2.block _ (by omega) (fun e => by have := row_base hb5 _ e.symm; omega)).trans ((hb1.block _ (by omega)).trans h.box2)
theorem box_four {w w2 w4 : World} {ls : List (List UInt8)} {t : Nat} {ae : Option Addr} {ce : Nat} {o : Obj} (he : w2.ownsRow (w.heap.size + 3) 3 1 (.slice ae t ce) t (endsOf ls t)) (hb : w2.heap[w.heap.size + 2]? = some (.cells #[.slice ae t ce] 35)) (hg4 : (w2.alloc o).grownBy w4 (Value.slice ae t ce).ownBlock) :
    w4.heap[w.heap.size + 2]? = some (.cells #[.slice ae t ce] 35) := by
  have hlt := lt_of_block hb
  exact (hg4.block _ (by rw [World.size_alloc]; omega) (fun e => by have := row_base he _ e.symm; omega)).trans ((Below.heap_alloc _ _ _ hlt).trans hb)
theorem row_shape {e : TypeId} {B n : Nat} {w : World} {v : Value} {xs : List Value} (h : w.ownsRow B e 1 v n xs) (hn : 0 < n) : ∃ a c, v = .slice a n c := by
  rcases h.2 with ⟨_, h0⟩ | ⟨g, c, cur, rfl, _⟩
  · omega
  · exact ⟨_, _, rfl⟩
theorem cell_box {w : World} {b : Nat} {v : Value} {t : TypeId} (h : w.heap[b]? = some (.cells #[v] t)) : w.cell? ⟨b, 0, none⟩ = some v ∧ w.frozen? ⟨b, 0, none⟩ = false := by
  refine ⟨?_, frozen_of_row w b 0 _ t h⟩
  rw [cell_of_row w b 0 _ t (0, 0) h]
  rfl

theorem Kept.next {w : World} {ls : List (List UInt8)} {a : Option Addr} {len cap t : Nat} {ab : Option Addr} {nb cb : Nat} {ae : Option Addr} {ce : Nat} {wr : World} (h : Kept w ls a len cap t ab nb cb ae ce wr) (hlen : ls.length = len)
    (hlt : t < ls.length) (hx : nb + ls[t].length ≤ 20000) (ht : t ≤ 50) (nb' : Nat) (hnb : nb' = nb + (ls[t].length + 12)) {w1 w2 w4 : World} {v2 v4 : Value} (hb1 : Below wr.heap.size wr w1)
    (ho2 : w2.ownsRow (w.heap.size + 3) 5 1 v2 nb' (U (bb (ls.take t)) ++ U (frameOf ls[t]))) (hg2 : w1.grownBy w2 (Value.slice ab nb cb).ownBlock)
    (ho4 : w4.ownsRow (w.heap.size + 3) 3 1 v4 (t + 1) (endsOf ls t ++ [.int .i64 (nb' : Int)])) (hg4 : (w2.alloc (.cells #[.int .i64 (nb' : Int)] 3)).grownBy w4 (Value.slice ae t ce).ownBlock) :
    ∃ ab' cb' ae' ce', v2 = .slice ab' nb' cb' ∧ v4 = .slice ae' (t + 1) ce' ∧ Kept w ls a len cap (t + 1) ab' nb' cb' ae' ce' (w4.setCell ⟨w.heap.size + 2, 0, none⟩ v4) := by
  have hE : nb' = E ls (t + 1) := by rw [hnb, E_succ ls t hlt, ← h.nb_eq]; omega
  have hs1 := hb1.size
  have hs2 := hg2.size
  have hs4 := hg4.size
  have hsz := h.size
  rw [World.size_alloc] at hs4
  obtain ⟨ab', cb', rfl⟩ : ∃ ab' cb', v2 = .slice ab' nb' cb' := by
    rcases ho2.2 with ⟨rfl, h0⟩ | ⟨g, c, cur, rfl, _⟩
    · omega
    · exact ⟨_, _, rfl⟩
  obtain ⟨ae', ce', rfl⟩ : ∃ ae' ce', v4 = .slice ae' (t + 1) ce' := by
    rcases ho4.2 with ⟨_, h0⟩ | ⟨g, c, cur, rfl, _⟩
    · omega
    · exact ⟨_, _, rfl⟩
  refine ⟨ab', cb', ae', ce', rfl, rfl, ?_⟩
  -- the ends' row in w1, w2
  have he1 : w1.ownsRow (w.heap.size + 3) 3 1 (.slice ae t ce) t (endsOf ls t) := by
    obtain ⟨k1, k2⟩ := h.ends
    refine ⟨k1, ?_⟩
    rcases k2 with k2 | ⟨g, c, cur, e1, e2, hgg, r⟩
    · exact .inl k2
    · exact .inr ⟨g, c, cur, e1, e2, (hb1.block g (lt_of_block hgg)).trans hgg, r⟩
  have hb5 : w1.ownsRow (w.heap.size + 3) 5 1 (.slice ab nb cb) (bb (ls.take t)).length (U (bb (ls.take t))) := Own.below h.own hb1 (Nat.le_refl _)
  have he2 := row_kept he1 hg2 (fun g hg e => rows_apart (by decide) he1 hb5 g hg e)
  have ho3 := World.ownsRow.alloc ho2 (.cells #[.int .i64 (nb' : Int)] 3)
  have he3 := World.ownsRow.alloc he2 (.cells #[.int .i64 (nb' : Int)] 3)
  have hb4 := row_kept ho3 hg4 (fun g hg e => rows_apart (by decide) ho3 he3 g hg e)
  have box : ∀ k, k < 3 → w4.heap[w.heap.size + k]? = wr.heap[w.heap.size + k]? := by
    intro k hk
    refine (hg4.block _ (by rw [World.size_alloc]; omega) (fun e => ?_)).trans ((Below.heap_alloc _ _ _ (by omega)).trans ((hg2.block _ (by omega) (fun e => ?_)).trans (hb1.block _ (by omega))))
    · have := row_base he3 _ e.symm; omega
    · have := row_base hb5 _ e.symm; omega
  have hset : ∀ b, b ≠ w.heap.size + 2 → (w4.setCell ⟨w.heap.size + 2, 0, none⟩ (.slice ae' (t + 1) ce')).heap[b]? = w4.heap[b]? := fun b hb => heap_setCell_other w4 ⟨w.heap.size + 2, 0, none⟩ b _ hb
  have hgs : w4.grownBy (w4.setCell ⟨w.heap.size + 2, 0, none⟩ (.slice ae' (t + 1) ce')) (some (w.heap.size + 2)) := ⟨rfl, rfl, rfl, by simp, fun k _ hne => hset k (fun e => hne (by rw [e]))⟩
  have hfar : ∀ {e : TypeId} {n : Nat} {v : Value} {xs : List Value}, w4.ownsRow (w.heap.size + 3) e 1 v n xs → (w4.setCell ⟨w.heap.size + 2, 0, none⟩ (.slice ae' (t + 1) ce')).ownsRow (w.heap.size + 3) e 1 v n xs := fun hh =>
    row_kept hh hgs (fun g hg e => by have := row_base hh g hg; have := Option.some.inj e; omega)
  have hown : Own 5 (w.heap.size + 3) (w4.setCell ⟨w.heap.size + 2, 0, none⟩ (.slice ae' (t + 1) ce')) (.slice ab' nb' cb') (bb (ls.take (t + 1))) := by
    have e1 := hfar hb4
    rw [← U_append, ← bb_snoc ls t hlt] at e1
    show World.ownsRow _ _ _ _ _ (bb (ls.take (t + 1))).length _
    rw [show (bb (ls.take (t + 1))).length = nb' from hE.symm]
    exact e1
  refine ⟨by omega, by omega, hE, by omega, hown, ?_, ?_, ?_, ?_, ?_, ?_, ?_⟩
  · have e1 := hfar ho4
    rw [hE, ← endsOf_succ] at e1
    exact e1
  · exact (hset _ (by omega)).trans ((box 0 (by omega)).trans h.box0)
  · exact (hset _ (by omega)).trans ((box 1 (by omega)).trans h.box1)
  · have e1 := heap_setCell_same w4 (w.heap.size + 2) 0 #[.slice ae t ce] 35 (.slice ae' (t + 1) ce') ((box 2 (by omega)).trans h.box2)
    rw [e1]
    rfl
  · have e1 := (((h.below.trans (hb1.mono (by omega))).grown hg2 (by omega) (fun k hk => by have := row_base hb5 k hk; omega)).alloc (by omega) (.cells #[.int .i64 (nb' : Int)] 3)).grown hg4 (by rw [World.size_alloc]; omega) (fun k hk => by have := row_base he3 k hk; omega)
    exact e1.setCell (by simp) _
  · show _ ≤ _
    simp
    omega
  · intro x hxm
    rw [List.take_succ_eq_append_getElem hlt, List.mem_append] at hxm
    rcases hxm with hxm | hxm
    · exact h.short x hxm
    · rw [List.mem_singleton] at hxm
      rw [hxm]
      omega
#print axioms Kept.next
end Go.Proofs.Ytchblcfbllcbmab.Oct
