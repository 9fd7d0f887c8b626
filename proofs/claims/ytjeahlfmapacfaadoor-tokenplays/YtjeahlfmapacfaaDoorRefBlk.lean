/-
  Layer 2 (hash): the reference's block.
-/
import Derived.Test.YtjeahlfmapacfaaDoorRefRot
namespace Go.Proofs.YtjeahlfmapacfaaDoor.Oct
open Go.RowKit Sha

theorem zero44 : ∀ W, (zeroValue 94).run Tryd.prog W = .ok (.agg (zw 8).toArray) W := by
  intro W
  have h : (Tryd.prog.info? 94).bind (·.zero) = some (.agg (zw 8).toArray) := by kernel_rfl
  obtain ⟨i, hi, hz⟩ := Option.bind_eq_some_iff.1 h
  simp only [zeroValue, typeInfo]
  simp [hi, hz]
theorem size44 : (Tryd.prog.info? 94).map (·.size) = some 8 := by kernel_rfl
theorem built52z : Tryd.prog.built 95 [] = some (zw 64).toArray := by kernel_rfl

/-- the reference's blocks: the state, the table, the result's place, the words -/
def RInv (w : World) (s : St) (L : List Value) (wr : World) : Prop := Blk wr w.heap.size 94 (V s.words) ∧ Blk wr (w.heap.size + 1) 95 (V kTab) ∧ Blk wr (w.heap.size + 1 + 1) 94 (zw 8) ∧ Blk wr (w.heap.size + 1 + 1 + 1) 95 L ∧ Below w.heap.size w wr
theorem RInv.store {w wr : World} {s : St} {L : List Value} (h : RInv w s L wr) (t : Nat) (v : Value) : RInv w s (L.set t v) (wr.setCell ⟨w.heap.size + 1 + 1 + 1, t, none⟩ v) :=
  ⟨h.1.other (show w.heap.size ≠ w.heap.size + 1 + 1 + 1 by omega) v, h.2.1.other (show w.heap.size + 1 ≠ w.heap.size + 1 + 1 + 1 by omega) v, h.2.2.1.other (show w.heap.size + 1 + 1 ≠ w.heap.size + 1 + 1 + 1 by omega) v, h.2.2.2.1.set t v, h.2.2.2.2.setCell (show w.heap.size ≤ w.heap.size + 1 + 1 + 1 by omega) v⟩
theorem RInv.drawN {w wr : World} {s : St} {L : List Value} (h : RInv w s L wr) (n : Nat) : RInv w s L (wr.drewN n) := ⟨h.1, h.2.1, h.2.2.1, h.2.2.2.1, ⟨h.2.2.2.2.os, h.2.2.2.2.tape, h.2.2.2.2.output, h.2.2.2.2.size, h.2.2.2.2.block⟩⟩
theorem RInv.drew {w wr : World} {s : St} {L : List Value} (h : RInv w s L wr) : RInv w s L wr.drew := h.drawN 1
/-- four new blocks -/
theorem four_new (w : World) (A B C D : Array Value) (ta tb tc td : TypeId) :
    Blk ((((w.alloc (.cells A ta)).alloc (.cells B tb)).alloc (.cells C tc)).alloc (.cells D td)) w.heap.size ta A.toList ∧
    Blk ((((w.alloc (.cells A ta)).alloc (.cells B tb)).alloc (.cells C tc)).alloc (.cells D td)) (w.heap.size + 1) tb B.toList ∧
    Blk ((((w.alloc (.cells A ta)).alloc (.cells B tb)).alloc (.cells C tc)).alloc (.cells D td)) (w.heap.size + 1 + 1) tc C.toList ∧
    Blk ((((w.alloc (.cells A ta)).alloc (.cells B tb)).alloc (.cells C tc)).alloc (.cells D td)) (w.heap.size + 1 + 1 + 1) td D.toList ∧
    Below w.heap.size w ((((w.alloc (.cells A ta)).alloc (.cells B tb)).alloc (.cells C tc)).alloc (.cells D td)) := by
  have e1 : (w.alloc (.cells A ta)).heap.size = w.heap.size + 1 := by simp
  have e2 : ((w.alloc (.cells A ta)).alloc (.cells B tb)).heap.size = w.heap.size + 1 + 1 := by simp
  have e3 : (((w.alloc (.cells A ta)).alloc (.cells B tb)).alloc (.cells C tc)).heap.size = w.heap.size + 1 + 1 + 1 := by simp
  refine ⟨(((Blk.new w A ta).alloc _).alloc _).alloc _, ?_, ?_, ?_, ((((Below.refl _ w).alloc (Nat.le_refl _) _).alloc (by rw [e1]; omega) _).alloc (by rw [e2]; omega) _).alloc (by rw [e3]; omega) _⟩
  · have h := ((Blk.new (w.alloc (.cells A ta)) B tb).alloc (.cells C tc)).alloc (.cells D td)
    rw [e1] at h; exact h
  · have h := (Blk.new ((w.alloc (.cells A ta)).alloc (.cells B tb)) C tc).alloc (.cells D td)
    rw [e2] at h; exact h
  · have h := Blk.new (((w.alloc (.cells A ta)).alloc (.cells B tb)).alloc (.cells C tc)) D td
    rw [e3] at h; exact h

/-- the same behind the words: what is reckoned so far in block N4 -/
def R4 (w : World) (s : St) (bs : List UInt8) (N4 : Nat) (L : List UInt32) (wr : World) : Prop := Blk wr w.heap.size 94 (V s.words) ∧ Blk wr (w.heap.size + 1) 95 (V kTab) ∧ Blk wr (w.heap.size + 1 + 1) 94 (zw 8) ∧ Blk wr (w.heap.size + 1 + 1 + 1) 95 (V (wordsOf bs)) ∧ Blk wr N4 94 (V L) ∧ Below w.heap.size w wr ∧ w.heap.size + 1 + 1 + 1 < N4
def R3 (w : World) (s : St) (bs : List UInt8) (N4 : Nat) (r : St) (wr : World) : Prop := R4 w s bs N4 r.words wr
theorem R4.drawN {w wr : World} {s : St} {bs : List UInt8} {L : List UInt32} {N4 : Nat} (h : R4 w s bs N4 L wr) (n : Nat) : R4 w s bs N4 L (wr.drewN n) := ⟨h.1, h.2.1, h.2.2.1, h.2.2.2.1, h.2.2.2.2.1, ⟨h.2.2.2.2.2.1.os, h.2.2.2.2.2.1.tape, h.2.2.2.2.2.1.output, h.2.2.2.2.2.1.size, h.2.2.2.2.2.1.block⟩, h.2.2.2.2.2.2⟩
theorem R4.drew {w wr : World} {s : St} {bs : List UInt8} {L : List UInt32} {N4 : Nat} (h : R4 w s bs N4 L wr) : R4 w s bs N4 L wr.drew := h.drawN 1
theorem R3.drawN {w wr : World} {s r : St} {bs : List UInt8} {N4 : Nat} (h : R3 w s bs N4 r wr) (n : Nat) : R3 w s bs N4 r (wr.drewN n) := R4.drawN h n
theorem R4.stored {w wr w9 : World} {s : St} {bs : List UInt8} {L L' : List UInt32} {N4 : Nat} (h : R4 w s bs N4 L wr) (hB : Blk w9 N4 94 (V L')) (hG : wr.grownBy w9 (some N4)) : R4 w s bs N4 L' w9 := by
  have hN := h.2.2.2.2.2.2
  refine ⟨h.1.kept hG ?_, h.2.1.kept hG ?_, h.2.2.1.kept hG ?_, h.2.2.2.1.kept hG ?_, hB, h.2.2.2.2.2.1.grown hG h.2.2.2.2.2.1.size ?_, hN⟩
  all_goals intro e
  · have := Option.some.inj e; omega
  · have := Option.some.inj e; omega
  · have := Option.some.inj e; omega
  · have := Option.some.inj e; omega
  · intro e2; have := Option.some.inj e2; omega
theorem R3.stored {w wr w9 : World} {s r r' : St} {bs : List UInt8} {N4 : Nat} (h : R3 w s bs N4 r wr) (hB : Blk w9 N4 94 (V r'.words)) (hG : wr.grownBy w9 (some N4)) : R3 w s bs N4 r' w9 := R4.stored h hB hG
theorem R4.store {w wr : World} {s : St} {bs : List UInt8} {L : List UInt32} {N4 : Nat} (h : R4 w s bs N4 L wr) (k : Nat) (z : UInt32) : R4 w s bs N4 (L.set k z) (wr.setCell ⟨N4, k, none⟩ (.int .u32 (z.toNat : Int))) := by
  refine R4.stored h ?_ (grown_setCell wr N4 k _)
  have e := h.2.2.2.2.1.set k (.int .u32 (z.toNat : Int))
  have e2 : (V L).set k (.int .u32 (z.toNat : Int)) = V (L.set k z) := by simp [V, List.map_set]
  rw [e2] at e
  exact e
def plusTo (a b : List UInt32) (k : Nat) : List UInt32 := (List.zipWith (· + ·) a b).take k ++ a.drop k
theorem plusTo_all (r s : St) : plusTo r.words s.words 8 = (s.plus r).words := by
  simp [plusTo, St.words, St.plus, UInt32.add_comm]
theorem plusTo_get (a b : List UInt32) (k : Nat) (ha : a.length = 8) (hb : b.length = 8) (hk : k < 8) : (V (plusTo a b k))[k]? = some (.int .u32 ((a.getD k 0).toNat : Int)) := by
  have hl : ((List.zipWith (· + ·) a b).take k).length = k := by simp; omega
  unfold plusTo V
  rw [List.map_append, List.getElem?_append_right (by rw [List.length_map, hl]; exact Nat.le_refl _), List.length_map, hl, Nat.sub_self, List.getElem?_map, List.getElem?_drop, Nat.add_zero, List.getElem?_eq_getElem (by omega)]
  simp [List.getD, show k < a.length by omega]
theorem plusTo_next (a b : List UInt32) (k : Nat) (ha : a.length = 8) (hb : b.length = 8) (hk : k < 8) : plusTo a b (k + 1) = (plusTo a b k).set k (a.getD k 0 + b.getD k 0) := by
  have hl : ((List.zipWith (· + ·) a b).take k).length = k := by simp; omega
  unfold plusTo
  rw [List.set_append_right _ _ (by rw [hl]; exact Nat.le_refl _), hl, Nat.sub_self, List.take_succ_eq_append_getElem (by simp; omega), List.append_assoc]
  congr 1
  rw [List.drop_eq_getElem_cons (show k < a.length by omega), List.set_cons_zero]
  simp [List.getD, show k < a.length by omega, show k < b.length by omega]
theorem built44 (n0 n1 n2 n3 n4 n5 n6 n7 : Int) : Tryd.prog.built 94 [(0, .int .u32 n0), (1, .int .u32 n1), (2, .int .u32 n2), (3, .int .u32 n3), (4, .int .u32 n4), (5, .int .u32 n5), (6, .int .u32 n6), (7, .int .u32 n7)] = some [Value.int .u32 n0, .int .u32 n1, .int .u32 n2, .int .u32 n3, .int .u32 n4, .int .u32 n5, .int .u32 n6, .int .u32 n7].toArray := by kernel_rfl

theorem wpList_built8 {ops : Array Oper} {rest : List Oper} {o : Oper} {a : Act} {w : World} {Q : Exit → Act → World → Prop} (hg : o.guard = none) (p0 p1 p2 p3 p4 p5 p6 p7 : Operand)
    (ho : o.op = .build 94 #[(0, p0), (1, p1), (2, p2), (3, p3), (4, p4), (5, p5), (6, p6), (7, p7)]) (n0 n1 n2 n3 n4 n5 n6 n7 : Int)
    (e0 : a.eval p0 = .int .u32 n0) (e1 : a.eval p1 = .int .u32 n1) (e2 : a.eval p2 = .int .u32 n2) (e3 : a.eval p3 = .int .u32 n3) (e4 : a.eval p4 = .int .u32 n4) (e5 : a.eval p5 = .int .u32 n5) (e6 : a.eval p6 = .int .u32 n6) (e7 : a.eval p7 = .int .u32 n7)
    (h : wpList Tryd.prog ops Q rest (a.put o.dst (.agg [Value.int .u32 n0, .int .u32 n1, .int .u32 n2, .int .u32 n3, .int .u32 n4, .int .u32 n5, .int .u32 n6, .int .u32 n7].toArray)) w) : wpList Tryd.prog ops Q (o :: rest) a w := by
  refine wpList_built hg 94 _ ho _ ?_ h
  simp [e0, e1, e2, e3, e4, e5, e6, e7]
  exact built44 _ _ _ _ _ _ _ _

end Go.Proofs.YtjeahlfmapacfaaDoor.Oct
