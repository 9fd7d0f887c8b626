/-
  What the law on pieces keeps from round to round: the digest, the bytes written so far, the bytes that came in.
-/
import Derived.Test.YtgpndgajmmbjhabDoorPieces
import Derived.Test.YtgpndgajmmbjhabDoorSum
import Derived.Test.YtgpndgajmmbjhabDoorSlices
namespace Go.Proofs.YtgpndgajmmbjhabDoor.Oct
open Go.RowKit Sha

theorem Dig.below {w w' : World} {d B : Nat} {M : List UInt8} (h : Dig w d M) (hb : Below B w w') (hB : d < B) : Dig w' d M := by
  obtain ⟨tail, h1, h2⟩ := h
  exact ⟨tail, h1, h2.below hb hB⟩
theorem Dig.kept {w w' : World} {d : Nat} {row : Option Nat} {M : List UInt8} (h : Dig w d M) (hg : w.grownBy w' row) (hne : some d ≠ row) : Dig w' d M := by
  obtain ⟨tail, h1, h2⟩ := h
  exact ⟨tail, h1, h2.kept hg hne⟩
theorem Dig.lt {w : World} {d : Nat} {M : List UInt8} (h : Dig w d M) : d < w.heap.size := by
  obtain ⟨tail, _, h2⟩ := h
  exact h2.lt

theorem Own.block {e : TypeId} {B : Nat} {w w' : World} {v : Value} {l : List UInt8} (h : Own e B w v l) (hk : ∀ g, B ≤ g → g < w.heap.size → w'.heap[g]? = w.heap[g]?) : Own e B w' v l := by
  obtain ⟨h1, h2⟩ := h
  refine ⟨h1, ?_⟩
  rcases h2 with h2 | ⟨g, cap, cur, e1, e2, hg, r⟩
  · exact .inl h2
  · refine .inr ⟨g, cap, cur, e1, e2, ?_, r⟩
    rw [hk g e2 (lt_of_block hg)]; exact hg

/-- one byte of an own slice is another one -/
theorem own_set {B : Nat} {w : World} {g n cc : Nat} {l : List UInt8} (h : Own 5 B w (.slice (some ⟨g, 0, none⟩) n cc) l) (hn : l.length = n) (t : Nat) (ht : t < l.length) :
    w.cell? ⟨g, t, none⟩ = some (.int .u8 (l[t].toNat : Int)) ∧ w.frozen? ⟨g, t, none⟩ = false ∧ B ≤ g ∧ ∀ x : UInt8, Own 5 B (w.setCell ⟨g, t, none⟩ (.int .u8 (x.toNat : Int))) (.slice (some ⟨g, 0, none⟩) n cc) (l.set t x) := by
  rcases h.2 with ⟨h1, h2⟩ | ⟨g', cap, cur, e1, e2, hg, e3, e4, e5, e6⟩
  · omega
  · simp only [Value.slice.injEq, Option.some.injEq, Addr.mk.injEq] at e1
    obtain ⟨⟨rfl, _⟩, _, rfl⟩ := e1
    have hc : ∀ i (hi : i < l.length), cur.toList[i]? = some (.int .u8 (l[i].toNat : Int)) := by
      intro i hi
      have e7 : (cur.toList.take (l.length * 1))[i]? = (U l)[i]? := by rw [e6]
      rw [U_get l i hi, List.getElem?_take, if_pos (by omega)] at e7
      exact e7
    have hcell : w.cell? ⟨g, t, none⟩ = some (.int .u8 (l[t].toNat : Int)) := by
      rw [cell_of_row w g t _ 5 (0, 0) hg, ← Array.getElem?_toList]; exact hc t ht
    refine ⟨hcell, frozen_of_row w g t _ 5 hg, e2, fun x => ?_⟩
    refine ⟨by simp [U], .inr ⟨g, cc, cur.setIfInBounds t (.int .u8 (x.toNat : Int)), by rw [List.length_set, hn], e2, heap_setCell_same w g t _ 5 _ hg, by rw [List.length_set]; exact e3, e4, by simpa using e5, ?_⟩⟩
    rw [Nat.mul_one] at e6 ⊢
    rw [List.length_set, Array.toList_setIfInBounds, List.take_set, e6]
    simp [U, List.map_set]

/-- the digest that lies at w's end has taken M, and v holds M, in memory behind it -/
def At (w : World) (v : Value) (M : List UInt8) (wr : World) : Prop := Dig wr w.heap.size M ∧ Own 5 (w.heap.size + 1) wr v M ∧ Below w.heap.size w wr

/-- behind a round's 'Write' and the turning of what was given -/
theorem At.wrote {w wr w1 w2 w3 : World} {v : Value} {M M' : List UInt8} (h : At w v M wr) (h1 : Below wr.heap.size wr w1) (h2 : Dig w2 w.heap.size M') (h3 : w1.grownBy w2 (some w.heap.size)) (h4 : Below wr.heap.size w2 w3) :
    Dig w3 w.heap.size M' ∧ Own 5 (w.heap.size + 1) w3 v M ∧ Below w.heap.size w w3 := by
  obtain ⟨a1, a2, a3⟩ := h
  have hd := a1.lt
  refine ⟨h2.below h4 hd, a2.block fun g e1 e2 => ?_, ?_⟩
  · rw [h4.block g e2, h3.block g (Nat.lt_of_lt_of_le e2 h1.size) (by simp; omega), h1.block g e2]
  · have k1 := a3.trans (h1.mono (Nat.le_of_lt hd))
    have k2 := k1.grown h3 (Nat.le_trans (Nat.le_of_lt hd) h1.size) (fun k hk => by have := Option.some.inj hk; omega)
    exact k2.trans (h4.mono (Nat.le_of_lt hd))

/-- behind the round's append -/
theorem At.appended {w w3 w4 : World} {v v' : Value} {M M' : List UInt8} (h2 : Dig w3 w.heap.size M') (ho : Own 5 (w.heap.size + 1) w3 v M) (hb : Below w.heap.size w w3) (ho' : Own 5 (w.heap.size + 1) w4 v' M') (hg : w3.grownBy w4 v.ownBlock) : At w v' M' w4 := by
  have hl := World.ownsRow.lt ho
  refine ⟨h2.kept hg (fun e => ?_), ho', hb.grown hg hb.size (fun k hk => ?_)⟩
  · have := (hl _ e.symm).1; omega
  · have := (hl k hk).1; omega

/-- what comes behind and turns nothing that was there -/
theorem At.below {w wr w' : World} {v : Value} {M : List UInt8} (h : At w v M wr) (hb : Below wr.heap.size wr w') : At w v M w' :=
  ⟨h.1.below hb h.1.lt, h.2.1.below hb (Nat.le_refl _), h.2.2.trans (hb.mono (Nat.le_of_lt h.1.lt))⟩

theorem wpList_append_want {P : Program} (w : World) {ops : Array Oper} {rest : List Oper} {o : Oper} {a : Act} {Q : Exit → Act → World → Prop} (hw : Region.wanted o (yielded ops a.tmps) = true) (s x : Operand) (t : TypeId)
    (ho : o.op = .call { callee := .builtin .append, args := #[s, x], argTypes := #[t, t] })
    (base : Nat) (e : TypeId) (i : TypeInfo) (ht : P.underlying t = some (.slice e)) (hi : P.info? e = some i) (hz : i.zero = some (.int .u8 0)) (hsize : i.size = 1) (hby : i.bytes = 1)
    (v : Value) (r : List UInt8) (n : Nat) (hn : r.length = n) (hs : a.eval s = v) (hown : w.ownsRow base e 1 v n (U r)) (ao : Option Addr) (m c : Nat) (l : List UInt8) (hx : a.eval x = .slice ao m c) (hin : In w ao m c l)
    (hbytes : n + m ≤ 140737488355328) (hbase : base ≤ w.heap.size)
    (h : ∀ v' w', Own e base w' v' (r ++ l) → w.grownBy w' v.ownBlock → wpList P ops Q rest (a.put o.dst v') w') : wpList P ops Q (o :: rest) a w :=
  Go.BigFrame.wpList_want hw fun _ hK => wp_append_in w s x t ho base e i ht hi hz hsize hby v r n hn hs hown ao m c l hx hin hbytes hbase fun v' w' h1 h2 => hK _ _ (h v' w' h1 h2)

theorem xor_85 (x : UInt8) : bits BinOp.xor IntKind.u8 (x.toNat : Int) 85 = ((x ^^^ 85).toNat : Int) := by
  rw [show (85 : Int) = ((85 : Nat) : Int) from rfl, u8_xor_nat _ _ x.toNat_lt (by omega), UInt8.toNat_xor]
  rfl
#print axioms At.wrote
#print axioms At.appended
#print axioms wpList_append_want
#print axioms own_set
end Go.Proofs.YtgpndgajmmbjhabDoor.Oct
