/-
  Blocks of memory told as lists of cells: what stores, loads and whole arrays do to them. Of no program.
-/
import Derived.WalkKit
import Derived.Below
import Derived.Deep.MidRow
import Derived.Deep.Draws
import Derived.Laws.CopyOwn
namespace Go.Proofs.Ytjcihaohpbmogaa.Oct
open Go.RowKit
set_option maxRecDepth 100000

/-- block b holds just the cells L, none of them frozen -/
def Blk (w : World) (b : Nat) (t : TypeId) (L : List Value) : Prop := w.heap[b]? = some (.cells L.toArray t (0, 0))

section
variable {w w' : World} {b : Nat} {t : TypeId} {L : List Value}
theorem Blk.lt (h : Blk w b t L) : b < w.heap.size := lt_of_block h
theorem Blk.cell (h : Blk w b t L) {i : Nat} {v : Value} (hv : L[i]? = some v) : w.cell? ⟨b, i, none⟩ = some v := by
  rw [cell_of_row w b i _ t (0, 0) h, List.getElem?_toArray]; exact hv
theorem Blk.free (h : Blk w b t L) (i : Nat) : w.frozen? ⟨b, i, none⟩ = false := frozen_of_row w b i _ t h
theorem Blk.drewN (h : Blk w b t L) (n : Nat) : Blk (w.drewN n) b t L := h
theorem Blk.drew (h : Blk w b t L) : Blk w.drew b t L := h
theorem Blk.set (h : Blk w b t L) (i : Nat) (v : Value) : Blk (w.setCell ⟨b, i, none⟩ v) b t (L.set i v) := by
  have := heap_setCell_same w b i _ t v h
  unfold Blk
  rw [this]
  simp
theorem Blk.other (h : Blk w b t L) {a : Addr} (hne : b ≠ a.block) (v : Value) : Blk (w.setCell a v) b t L := by
  unfold Blk; rw [heap_setCell_other w a b v hne]; exact h
theorem Blk.below {B : Nat} (h : Blk w b t L) (hb : Below B w w') (hB : b < B) : Blk w' b t L := (hb.block b hB).trans h
theorem Blk.kept {row : Option Nat} (h : Blk w b t L) (hg : w.grownBy w' row) (hne : some b ≠ row) : Blk w' b t L := (hg.block b h.lt hne).trans h
theorem Blk.new (w : World) (C : Array Value) (t : TypeId) : Blk (w.alloc (.cells C t)) w.heap.size t C.toList := by
  unfold Blk; rw [heap_alloc_new]
theorem Blk.alloc (h : Blk w b t L) (o : Obj) : Blk (w.alloc o) b t L := (Below.heap_alloc w o b h.lt).trans h
theorem Blk.range (h : Blk w b t L) (o n : Nat) : w.rangeAt b o ((L.drop o).take n) := by
  intro j v hj
  rw [List.getElem?_take] at hj
  split at hj
  · rw [List.getElem?_drop] at hj
    exact h.cell hj
  · cases hj
theorem Blk.there (h : Blk w b t L) (o n : Nat) (hn : o + n ≤ L.length) : w.there b o n := by
  intro j hj
  exact ⟨by rw [h.cell (List.getElem?_eq_getElem (by omega))]; rfl, h.free _⟩
end

/-- a row of cells of elements of a type -/
def RowT (w : World) (e : TypeId) (g : Nat) : Prop := ∃ cs fr, w.heap[g]? = some (.cells cs e fr)
theorem RowT.lt {w : World} {e : TypeId} {g : Nat} (h : RowT w e g) : g < w.heap.size := by
  obtain ⟨cs, fr, h⟩ := h
  exact (Array.getElem?_eq_some_iff.1 h).1
theorem RowT.same {w w' : World} {e : TypeId} {g : Nat} (h : RowT w e g) (hs : w'.heap[g]? = w.heap[g]?) : RowT w' e g := by
  obtain ⟨cs, fr, h⟩ := h
  exact ⟨cs, fr, hs.trans h⟩
theorem Blk.row {w : World} {b : Nat} {t : TypeId} {L : List Value} (h : Blk w b t L) : RowT w t b := ⟨_, _, h⟩
theorem grown_setCell (w : World) (b i : Nat) (v : Value) : w.grownBy (w.setCell ⟨b, i, none⟩ v) (some b) :=
  ⟨rfl, rfl, rfl, by simp, fun k _ hne => heap_setCell_other w ⟨b, i, none⟩ k v (fun e => hne (by rw [e]))⟩
theorem grown_tr {w w1 w2 : World} {row : Option Nat} (h : w.grownBy w1 row) (k : w1.grownBy w2 row) : w.grownBy w2 row :=
  ⟨k.os.trans h.os, k.tape.trans h.tape, k.output.trans h.output, Nat.le_trans h.size k.size, fun b hb hne => (k.block b (Nat.lt_of_lt_of_le hb h.size) hne).trans (h.block b hb hne)⟩
theorem grown_drewN (w : World) (n : Nat) (row : Option Nat) : w.grownBy (w.drewN n) row := ⟨rfl, rfl, rfl, Nat.le_refl _, fun _ _ _ => rfl⟩

/-- several cells written one behind the other -/
theorem Blk.setCells {b : Nat} {t : TypeId} : ∀ (vs : List Value) (o : Nat) (w : World) (L : List Value), Blk w b t L → o + vs.length ≤ L.length →
    Blk (w.setCells b o vs) b t (L.take o ++ vs ++ L.drop (o + vs.length)) ∧ w.grownBy (w.setCells b o vs) (some b)
  | [], o, w, L, h, _ => by
    refine ⟨?_, World.grownBy.refl _ _⟩
    simpa [World.setCells] using h
  | v :: vs, o, w, L, h, hl => by
    have ih := Blk.setCells vs (o + 1) (w.setCell ⟨b, o, none⟩ v) (L.set o v) (h.set o v) (by simp at *; omega)
    simp only [World.setCells]
    refine ⟨?_, grown_tr (grown_setCell w b o v) ih.2⟩
    have e : (L.set o v).take (o + 1) ++ vs ++ (L.set o v).drop (o + 1 + vs.length) = L.take o ++ (v :: vs) ++ L.drop (o + (v :: vs).length) := by
      have hlt : o < L.length := by simp at hl; omega
      have e0 : L.set o v = L.take o ++ v :: L.drop (o + 1) := by rw [List.set_eq_take_append_cons_drop, if_pos hlt]
      have e1 : (L.set o v).take (o + 1) = L.take o ++ [v] := by
        rw [e0, List.take_append, List.length_take, Nat.min_eq_left (by omega), show o + 1 - o = 1 by omega, List.take_of_length_le (by simp; omega)]; rfl
      rw [e1, List.drop_set_of_lt (by omega), show o + 1 + vs.length = o + (v :: vs).length by simp; omega]
      simp
    rw [← e]
    exact ih.1

/-- a whole array stored into a block -/
theorem wpList_store_blk {P : Program} {ops : Array Oper} {rest : List Oper} {op : Oper} {a : Act} {w : World} {Q : Exit → Act → World → Prop} (hgd : op.guard = none) (ty : TypeId) (x y : Operand) (ho : op.op = .store ty x y)
    (b o : Nat) (t : TypeId) (L : List Value) (cells : List Value) (hx : a.eval x = .pointer (some ⟨b, o, none⟩)) (hy : a.eval y = .agg cells.toArray)
    (hb : Blk w b t L) (hl : o + cells.length ≤ L.length) (hi : (P.info? ty).map (·.size) = some cells.length) (h1 : ∀ v ∈ cells, v.oneCell' = true)
    (h : ∀ w', Hid (Blk w' b t (L.take o ++ cells ++ L.drop (o + cells.length))) → Hid (w.grownBy w' (some b)) → wpList P ops Q rest (a.put op.dst undef) w') : wpList P ops Q (op :: rest) a w := by
  refine wpList_store_mid hgd ty x y ho b o cells.toArray hx hy (by simpa using hb.there o cells.length hl) (by simpa using hi) (all_oneCell_toArray h1) ?_
  have e := Blk.setCells cells o w L hb hl
  exact h _ e.1 e.2

#print axioms wpList_store_blk
end Go.Proofs.Ytjcihaohpbmogaa.Oct
