/-
  Layer 2 (hash): 'd.state = d.state.after(wordsOf(d.tail))', in whatever order.
  Layer 2 (hash): 'd.state = d.state.after(wordsOf(d.tail))', in whatever order.
  Layer 2 (hash): 'Write'.
  Layer 2 (hash): 'Digest.Sum', 'Clone', 'New', 'Sum'.
-/
import Derived.Test.YtgdecjacbkicmaaDoorQkE
import Derived.Great.Ranges
/- Layer 2 (hash): 'd.state = d.state.after(wordsOf(d.tail))', in whatever order. -/
namespace Go.Proofs.YtgdecjacbkicmaaDoor.Hsh
open Go.RowKit Sha

theorem arr46 : Tryd.prog.underlying 86 = some (.array 64 5) := by kernel_rfl
theorem grown_of_below {w w' : World} (h : Below w.heap.size w w') (row : Option Nat) : w.grownBy w' row := ⟨h.os, h.tape, h.output, h.size, fun k hk _ => h.block k hk⟩

section
variable {P : Program} {ops : Array Oper} {Q : Exit → Act → World → Prop}
theorem op_wp {i : Nat} {o : Oper} {a : Act} {w : World} {K : Act → World → Prop} (hi : ops[i]? = some o) (hg : o.guard = none) (h : o.wp P a w K Q) : wpOp P ops Q i K a w := by
  unfold Go.wpOp
  simp only [hi]
  rw [if_pos (by simp [Region.wanted, hg])]
  exact .inl h
theorem op_call {i : Nat} {o : Oper} {a : Act} {w : World} {K : Act → World → Prop} (hi : ops[i]? = some o) (hg : o.guard = none) (f : Nat) (args : Array Value) (hr : (execOp a.eval o).run P w = .ok (.enter f args) w)
    (h : Calls P f args w fun e w' => ∃ v, e = .returned v ∧ K (a.put o.dst v) w') : wpOp P ops Q i K a w := by
  refine op_wp hi hg ?_
  unfold Oper.wp
  rw [hr]
  simp only [Oper.upon]
  refine h.mono ?_
  rintro e w' ⟨v, rfl, hK⟩
  exact hK
theorem one {i fuel : Nat} {listed : Array Bool} {a : Act} {w : World} (hr : Region.ready .any ops listed = [i]) (h : wpOp P ops Q i (wpAny P .any ops Q fuel (listed.setIfInBounds i true)) a w) : wpAny P .any ops Q (fuel + 1) listed a w := by
  refine wpAny_all hr (by simp) ?_
  intro j hj
  rw [List.mem_singleton.1 hj]
  exact h
theorem two {i k fuel : Nat} {listed : Array Bool} {a : Act} {w : World} (hr : Region.ready .any ops listed = [i, k]) (h : wpOp P ops Q i (wpAny P .any ops Q fuel (listed.setIfInBounds i true)) a w)
    (h2 : wpOp P ops Q k (wpAny P .any ops Q fuel (listed.setIfInBounds k true)) a w) : wpAny P .any ops Q (fuel + 1) listed a w := by
  refine wpAny_all hr (by simp) ?_
  intro j hj
  rcases List.mem_cons.1 hj with rfl | hj
  · exact h
  · rw [List.mem_singleton.1 hj]
    exact h2

theorem y_move {o : Oper} {a : Act} {x : Operand} {v : Value} (ho : o.op = .move x) (hx : a.eval x = v) (w : World) : (execOp a.eval o).run P w = .ok (.value v) w := by
  unfold execOp; simp [ho, hx]
theorem y_nil {o : Oper} {a : Act} {x : Operand} {p : Addr} (ho : o.op = .nilCheck x) (hx : a.eval x = .pointer (some p)) (w : World) : (execOp a.eval o).run P w = .ok (.value (.pointer (some p))) w := by
  unfold execOp; simp only [ho, hx]; go_simp
theorem y_field1 {o : Oper} {a : Act} {x : Operand} {d : Nat} (ho : o.op = .fieldAddr 88 x 1) (hx : a.eval x = .pointer (some ⟨d, 0, none⟩)) (w : World) : (execOp a.eval o).run Tryd.prog w = .ok (.value (.pointer (some ⟨d, 1, none⟩))) w := by
  unfold execOp; simp only [ho, hx]; go_simp
theorem y_field2 {o : Oper} {a : Act} {x : Operand} {d : Nat} (ho : o.op = .fieldAddr 88 x 2) (hx : a.eval x = .pointer (some ⟨d, 0, none⟩)) (w : World) : (execOp a.eval o).run Tryd.prog w = .ok (.value (.pointer (some ⟨d, 9, none⟩))) w := by
  unfold execOp; simp only [ho, hx]; go_simp
end
theorem ev_same (a : Act) (t : Nat) (v : Value) (h : t < a.tmps.size) : (a.put (some t) v).eval (.tmp t) = v := by
  simp [Act.put, Act.eval, h]
theorem ev_other (a : Act) (t u : Nat) (v : Value) (h : t ≠ u) : (a.put (some t) v).eval (.tmp u) = a.eval (.tmp u) := by
  simp [Act.put, Act.eval, h]
theorem put_size (a : Act) (t : Nat) (v : Value) : (a.put (some t) v).tmps.size = a.tmps.size := by
  simp [Act.put]

/-- the statement's operations -/
def o0 : Oper := { dst := some 41, op := Op.move (Operand.tmp 0), type := 67, pos := "hash.go:42", after := #[], guard := none }
def o1 : Oper := { dst := some 42, op := Op.move (Operand.tmp 0), type := 67, pos := "hash.go:42", after := #[], guard := none }
def o2 : Oper := { dst := some 43, op := Op.nilCheck (Operand.tmp 42), type := 0, pos := "hash.go:42", after := #[{ on := 1, ground := Ground.data }], guard := none }
def o3 : Oper := { dst := some 44, op := Op.fieldAddr 88 (Operand.tmp 43) 1, type := 0, pos := "hash.go:42", after := #[{ on := 2, ground := Ground.data }], guard := none }
def o4 : Oper := { dst := some 45, op := Op.load 85 (Operand.tmp 44), type := 85, pos := "hash.go:42", after := #[{ on := 3, ground := Ground.data }], guard := none }
def o5 : Oper := { dst := some 46, op := Op.move (Operand.tmp 0), type := 67, pos := "hash.go:42", after := #[], guard := none }
def o6 : Oper := { dst := some 47, op := Op.nilCheck (Operand.tmp 46), type := 0, pos := "hash.go:42", after := #[{ on := 5, ground := Ground.data }], guard := none }
def o7 : Oper := { dst := some 48, op := Op.fieldAddr 88 (Operand.tmp 47) 2, type := 0, pos := "hash.go:42", after := #[{ on := 6, ground := Ground.data }], guard := none }
def o8 : Oper := { dst := some 49, op := Op.load 86 (Operand.tmp 48), type := 86, pos := "hash.go:42", after := #[{ on := 7, ground := Ground.data }], guard := none }
def o9 : Oper := { dst := some 50, op := Op.call { callee := Callee.value (Operand.func 53), args := #[Operand.tmp 49], argTypes := #[86] }, type := 90, pos := "hash.go:42", after := #[{ on := 8, ground := Ground.data }], guard := none }
def o10 : Oper := { dst := some 51, op := Op.call { callee := Callee.value (Operand.func 52), args := #[Operand.tmp 45, Operand.tmp 50], argTypes := #[85, 90] }, type := 85, pos := "hash.go:42", after := #[{ on := 4, ground := Ground.data }, { on := 9, ground := Ground.data }, { on := 9, ground := Ground.chain }], guard := none }
def o11 : Oper := { dst := some 52, op := Op.nilCheck (Operand.tmp 41), type := 0, pos := "hash.go:42", after := #[{ on := 0, ground := Ground.data }, { on := 0, ground := Ground.phase }, { on := 1, ground := Ground.phase }, { on := 2, ground := Ground.phase }, { on := 3, ground := Ground.phase }, { on := 4, ground := Ground.phase }, { on := 5, ground := Ground.phase }, { on := 6, ground := Ground.phase }, { on := 7, ground := Ground.phase }, { on := 8, ground := Ground.phase }, { on := 9, ground := Ground.phase }, { on := 10, ground := Ground.phase }], guard := none }
def o12 : Oper := { dst := some 53, op := Op.fieldAddr 88 (Operand.tmp 52) 1, type := 0, pos := "hash.go:42", after := #[{ on := 11, ground := Ground.data }, { on := 0, ground := Ground.phase }, { on := 1, ground := Ground.phase }, { on := 2, ground := Ground.phase }, { on := 3, ground := Ground.phase }, { on := 4, ground := Ground.phase }, { on := 5, ground := Ground.phase }, { on := 6, ground := Ground.phase }, { on := 7, ground := Ground.phase }, { on := 8, ground := Ground.phase }, { on := 9, ground := Ground.phase }, { on := 10, ground := Ground.phase }], guard := none }
def o13 : Oper := { dst := none, op := Op.store 85 (Operand.tmp 53) (Operand.tmp 51), type := 0, pos := "hash.go:42", after := #[{ on := 12, ground := Ground.data }, { on := 10, ground := Ground.data }, { on := 10, ground := Ground.chain }, { on := 0, ground := Ground.phase }, { on := 1, ground := Ground.phase }, { on := 2, ground := Ground.phase }, { on := 3, ground := Ground.phase }, { on := 4, ground := Ground.phase }, { on := 5, ground := Ground.phase }, { on := 6, ground := Ground.phase }, { on := 7, ground := Ground.phase }, { on := 8, ground := Ground.phase }, { on := 9, ground := Ground.phase }, { on := 10, ground := Ground.phase }], guard := none }
def R8 : Array Oper := #[o0, o1, o2, o3, o4, o5, o6, o7, o8, o9, o10, o11, o12, o13]


theorem call_two {o : Oper} {a : Act} {ts : Array TypeId} (ho : o.op = .call { callee := .value (.func 52), args := #[.tmp 45, .tmp 50], argTypes := ts }) (w : World) : (execOp a.eval o).run Tryd.prog w = .ok (.enter 52 #[a.eval (.tmp 45), a.eval (.tmp 50)]) w := by
  unfold execOp; simp only [ho]; go_simp
theorem call_one {o : Oper} {a : Act} {ts : Array TypeId} (ho : o.op = .call { callee := .value (.func 53), args := #[.tmp 49], argTypes := ts }) (w : World) : (execOp a.eval o).run Tryd.prog w = .ok (.enter 53 #[a.eval (.tmp 49)]) w := by
  unfold execOp; simp only [ho]; go_simp

/-- the act behind the statement -/
def behind (a : Act) (d : Nat) (x45 x49 x50 x51 : Value) : Act :=
  ((((((((((((a.put (some 41) (.pointer (some ⟨d, 0, none⟩))).put (some 42) (.pointer (some ⟨d, 0, none⟩))).put (some 43) (.pointer (some ⟨d, 0, none⟩))).put (some 44) (.pointer (some ⟨d, 1, none⟩))).put (some 46) (.pointer (some ⟨d, 0, none⟩))).put (some 47) (.pointer (some ⟨d, 0, none⟩))).put (some 48) (.pointer (some ⟨d, 9, none⟩))).put (some 45) x45).put (some 49) x49).put (some 50) x50).put (some 51) x51).put (some 52) (.pointer (some ⟨d, 0, none⟩))).put (some 53) (.pointer (some ⟨d, 1, none⟩))

/-- the last call and the store -/
theorem tail8 (d N : Nat) (s : St) (tail : List UInt8) (ht : tail.length = 64) (w w6 : World) (hB : Blk w6 d 88 (cellsOf s tail N)) (hk : KT w6) (hg : w.grownBy w6 (some d)) (Q : Exit → Act → World → Prop)
    (L : Array Bool) (a : Act) (hs : a.tmps.size = 54) (e41 : a.eval (.tmp 41) = .pointer (some ⟨d, 0, none⟩)) (e45 : a.eval (.tmp 45) = .agg #[.int .u32 (s.a.toNat : Int), .int .u32 (s.b.toNat : Int), .int .u32 (s.c.toNat : Int), .int .u32 (s.d.toNat : Int), .int .u32 (s.e.toNat : Int), .int .u32 (s.f.toNat : Int), .int .u32 (s.g.toNat : Int), .int .u32 (s.h.toNat : Int)]) (e50 : a.eval (.tmp 50) = .agg (V (wordsOf tail)).toArray)
    (h10 : Region.ready .any R8 L = [10]) (h11 : Region.ready .any R8 (L.setIfInBounds 10 true) = [11]) (h12 : Region.ready .any R8 ((L.setIfInBounds 10 true).setIfInBounds 11 true) = [12]) (h13 : Region.ready .any R8 (((L.setIfInBounds 10 true).setIfInBounds 11 true).setIfInBounds 12 true) = [13])
    (h14 : Region.ready .any R8 ((((L.setIfInBounds 10 true).setIfInBounds 11 true).setIfInBounds 12 true).setIfInBounds 13 true) = [])
    (h : ∀ w8, Hid (Blk w8 d 88 (cellsOf (Sha.step s tail) tail N)) → Hid (w.grownBy w8 (some d)) → ∀ x51, Q .normal (((a.put (some 51) x51).put (some 52) (.pointer (some ⟨d, 0, none⟩))).put (some 53) (.pointer (some ⟨d, 1, none⟩))) w8) :
    wpAny Tryd.prog .any R8 Q 4 L a w6 := by
  refine one h10 (op_call (o := o10) rfl rfl 52 #[a.eval (.tmp 45), a.eval (.tmp 50)] ?_ ?_)
  · exact call_two rfl _
  rw [e45, e50]
  refine (after_is s (wordsOf tail) _ (moreTo_length tail 48) rfl _ hk).mono ?_
  rintro e w7 ⟨rfl, hb7⟩
  refine ⟨_, rfl, ?_⟩
  have hB7 := hB.below hb7 hB.lt
  generalize hx : Value.agg #[.int .u32 ((after s (wordsOf tail)).a.toNat : Int), .int .u32 ((after s (wordsOf tail)).b.toNat : Int), .int .u32 ((after s (wordsOf tail)).c.toNat : Int), .int .u32 ((after s (wordsOf tail)).d.toNat : Int), .int .u32 ((after s (wordsOf tail)).e.toNat : Int), .int .u32 ((after s (wordsOf tail)).f.toNat : Int), .int .u32 ((after s (wordsOf tail)).g.toNat : Int), .int .u32 ((after s (wordsOf tail)).h.toNat : Int)] = x51
  refine one h11 (op_wp (o := o11) rfl rfl ?_)
  unfold Oper.wp
  rw [y_nil (p := ⟨d, 0, none⟩) rfl (by rw [show o10.dst = some 51 from rfl, ev_other _ _ _ _ (by decide)]; exact e41)]
  simp only [Oper.upon]
  refine one h12 (op_wp (o := o12) rfl rfl ?_)
  unfold Oper.wp
  rw [y_field1 (d := d) rfl (by rw [show o11.dst = some 52 from rfl, ev_same _ _ _ (by rw [show o10.dst = some 51 from rfl, put_size, hs]; decide)])]
  simp only [Oper.upon]
  refine one h13 (op_wp (o := o13) rfl rfl ?_)
  have sz : (Tryd.prog.info? 85).map (·.size) = some (V (Sha.step s tail).words).toArray.size := by show _ = some 8; kernel_rfl
  refine wp_store_mid 85 (.tmp 53) (.tmp 51) rfl d 1 (V (Sha.step s tail).words).toArray ?_ ?_ ?_ sz (all_oneCell_toArray (by intro v hv; simp only [V, List.mem_map] at hv; obtain ⟨x, _, rfl⟩ := hv; rfl)) ?_
  · rw [show o12.dst = some 53 from rfl, ev_same _ _ _ (by rw [show o11.dst = some 52 from rfl, show o10.dst = some 51 from rfl, put_size, put_size, hs]; decide)]
  · rw [show o12.dst = some 53 from rfl, ev_other _ _ _ _ (by decide), show o11.dst = some 52 from rfl, ev_other _ _ _ _ (by decide), show o10.dst = some 51 from rfl, ev_same _ _ _ (by rw [hs]; decide), ← hx]
    rfl
  · exact hB7.there 1 8 (by rw [cellsOf_length ht]; omega)
  · have e := Blk.setCells (V (Sha.step s tail).words) 1 w7 _ hB7 (by rw [cellsOf_length ht, V_length]; show 1 + 8 ≤ 74; omega)
    rw [cellsOf_after] at e
    refine wpAny_done h14 ?_ _
    exact h _ e.1 (grown_tr hg (grown_tr (grown_of_below hb7 _) e.2)) x51


theorem wanted_plain {o : Oper} {y : Nat → Option Bool} (hg : o.guard = none) : Region.wanted o y = true := by simp [Region.wanted, hg]
end Go.Proofs.YtgdecjacbkicmaaDoor.Hsh

/- Layer 2 (hash): 'd.state = d.state.after(wordsOf(d.tail))', in whatever order. -/
namespace Go.Proofs.YtgdecjacbkicmaaDoor.Hsh
open Go.RowKit Sha

theorem g4 : R8[4]? = some o4 := by kernel_rfl
theorem g8 : R8[8]? = some o8 := by kernel_rfl
theorem g9 : R8[9]? = some o9 := by kernel_rfl
theorem d4 : o4.dst = some 45 := rfl
theorem d8 : o8.dst = some 49 := rfl
theorem d9 : o9.dst = some 50 := rfl
theorem s45 (s : St) : (Tryd.prog.info? 85).map (·.size) = some (V s.words).length := by show _ = some 8; kernel_rfl
theorem s46 (tail : List UInt8) (ht : tail.length = 64) : (Tryd.prog.info? 86).map (·.size) = some (U tail).length := by rw [U_length, ht]; kernel_rfl

section
variable (d N : Nat) (s : St) (tail : List UInt8) (Q : Exit → Act → World → Prop)
/-- the load of the state -/
theorem load8a (w : World) (hB : Blk w d 88 (cellsOf s tail N)) (K : Act → World → Prop) (b : Act) (e44 : b.eval (.tmp 44) = .pointer (some ⟨d, 1, none⟩)) (h : K (b.put (some 45) (.agg (V s.words).toArray)) w) : wpOp Tryd.prog R8 Q 4 K b w := by
  refine op_wp g4 rfl ?_
  have e := hB.range 1 8
  rw [cellsOf_state] at e
  exact wp_load_mid 85 (.tmp 44) rfl d 1 e44 (V s.words) _ e Tryd.underlying85 rfl (s45 s) h
/-- the load of the tail -/
theorem load8b (ht : tail.length = 64) (w : World) (hB : Blk w d 88 (cellsOf s tail N)) (K : Act → World → Prop) (b : Act) (e48 : b.eval (.tmp 48) = .pointer (some ⟨d, 9, none⟩)) (h : K (b.put (some 49) (.agg (U tail).toArray)) w) : wpOp Tryd.prog R8 Q 8 K b w := by
  refine op_wp g8 rfl ?_
  have e := hB.range 9 64
  rw [cellsOf_tail ht] at e
  exact wp_load_mid 86 (.tmp 48) rfl d 9 e48 (U tail) _ e arr46 rfl (s46 tail ht) h
/-- the words -/
theorem call8 (ht : tail.length = 64) (w w1 : World) (hB1 : Blk w1 d 88 (cellsOf s tail N)) (hk1 : KT w1) (hg1 : w.grownBy w1 (some d)) (K : Act → World → Prop) (b : Act) (e49 : b.eval (.tmp 49) = .agg (U tail).toArray)
    (hK : ∀ w6, Blk w6 d 88 (cellsOf s tail N) → KT w6 → w.grownBy w6 (some d) → K (b.put (some 50) (.agg (V (wordsOf tail)).toArray)) w6) : wpOp Tryd.prog R8 Q 9 K b w1 := by
  refine op_call g9 rfl 53 #[b.eval (.tmp 49)] (call_one rfl _) ?_
  rw [e49]
  refine (wordsOf_is tail _ ht rfl w1).mono ?_
  rintro e w6 ⟨rfl, hb6⟩
  exact ⟨_, rfl, hK w6 (hB1.below hb6 hB1.lt) (hk1.below hb6) (grown_tr hg1 (grown_of_below hb6 _))⟩
end

theorem stV (s : St) : (V s.words).toArray = #[.int .u32 (s.a.toNat : Int), .int .u32 (s.b.toNat : Int), .int .u32 (s.c.toNat : Int), .int .u32 (s.d.toNat : Int), .int .u32 (s.e.toNat : Int), .int .u32 (s.f.toNat : Int), .int .u32 (s.g.toNat : Int), .int .u32 (s.h.toNat : Int)] := rfl

/-- which of the operations have run -/
def L7 : Array Bool := #[true, true, true, true, false, true, true, true, false, false, false, false, false, false]
theorem r7 : Region.ready .any R8 L7 = [4, 8] := by kernel_rfl
def L4 : Array Bool := #[true, true, true, true, true, true, true, true, false, false, false, false, false, false]
def L8 : Array Bool := #[true, true, true, true, false, true, true, true, true, false, false, false, false, false]
def L48 : Array Bool := #[true, true, true, true, true, true, true, true, true, false, false, false, false, false]
def L89 : Array Bool := #[true, true, true, true, false, true, true, true, true, true, false, false, false, false]
def L489 : Array Bool := #[true, true, true, true, true, true, true, true, true, true, false, false, false, false]
theorem r4 : Region.ready .any R8 L4 = [8] := by kernel_rfl
theorem r8 : Region.ready .any R8 L8 = [4, 9] := by kernel_rfl
theorem r48 : Region.ready .any R8 L48 = [9] := by kernel_rfl
theorem r89 : Region.ready .any R8 L89 = [4] := by kernel_rfl
theorem m74 : L7.setIfInBounds 4 true = L4 := by decide
theorem m78 : L7.setIfInBounds 8 true = L8 := by decide
theorem m48 : L4.setIfInBounds 8 true = L48 := by decide
theorem m84 : L8.setIfInBounds 4 true = L48 := by decide
theorem m89 : L8.setIfInBounds 9 true = L89 := by decide
theorem m489 : L48.setIfInBounds 9 true = L489 := by decide
theorem m894 : L89.setIfInBounds 4 true = L489 := by decide

set_option maxHeartbeats 1000000 in
/-- behind the addresses -/
theorem mid8 (d N : Nat) (s : St) (tail : List UInt8) (ht : tail.length = 64) (w w1 : World) (hB1 : Blk w1 d 88 (cellsOf s tail N)) (hk1 : KT w1) (hg1 : w.grownBy w1 (some d)) (Q : Exit → Act → World → Prop)
    (b : Act) (hs : b.tmps.size = 54) (e41 : b.eval (.tmp 41) = .pointer (some ⟨d, 0, none⟩)) (e44 : b.eval (.tmp 44) = .pointer (some ⟨d, 1, none⟩)) (e48 : b.eval (.tmp 48) = .pointer (some ⟨d, 9, none⟩))
    (h : ∀ w8, Hid (Blk w8 d 88 (cellsOf (Sha.step s tail) tail N)) → Hid (w.grownBy w8 (some d)) → ∀ x51, Q .normal ((((((b.put (some 45) (.agg (V s.words).toArray)).put (some 49) (.agg (U tail).toArray)).put (some 50) (.agg (V (wordsOf tail)).toArray)).put (some 51) x51).put (some 52) (.pointer (some ⟨d, 0, none⟩))).put (some 53) (.pointer (some ⟨d, 1, none⟩))) w8) :
    wpAny Tryd.prog .any R8 Q 7 L7 b w1 := by
  have hlast : ∀ w6, Blk w6 d 88 (cellsOf s tail N) → KT w6 → w.grownBy w6 (some d) → wpAny Tryd.prog .any R8 Q 4 L489 (((b.put (some 45) (.agg (V s.words).toArray)).put (some 49) (.agg (U tail).toArray)).put (some 50) (.agg (V (wordsOf tail)).toArray)) w6 := by
    intro w6 hB6 hk6 hg6
    refine tail8 d N s tail ht w w6 hB6 hk6 hg6 Q L489 _ ?_ ?_ ?_ ?_ (by kernel_rfl) (by kernel_rfl) (by kernel_rfl) (by kernel_rfl) (by kernel_rfl) h
    · rw [put_size, put_size, put_size, hs]
    · rw [ev_other _ _ _ _ (by decide), ev_other _ _ _ _ (by decide), ev_other _ _ _ _ (by decide), e41]
    · rw [ev_other _ _ _ _ (by decide), ev_other _ _ _ _ (by decide), ev_same _ _ _ (by rw [hs]; decide)]; rfl
    · rw [ev_same _ _ _ (by rw [put_size, put_size, hs]; decide)]
  refine two r7 ?_ ?_
  · refine load8a d N s tail Q w1 hB1 _ b e44 ?_
    rw [m74]
    refine one r4 ?_
    refine load8b d N s tail Q ht w1 hB1 _ _ (by rw [ev_other _ _ _ _ (by decide), e48]) ?_
    rw [m48]
    refine one r48 ?_
    refine call8 d N s tail Q ht w w1 hB1 hk1 hg1 _ _ (by rw [ev_same _ _ _ (by rw [put_size, hs]; decide)]) ?_
    rw [m489]
    exact hlast
  · refine load8b d N s tail Q ht w1 hB1 _ b e48 ?_
    rw [m78]
    refine two r8 ?_ ?_
    · refine load8a d N s tail Q w1 hB1 _ _ (by rw [ev_other _ _ _ _ (by decide), e44]) ?_
      rw [m84, Act.put_comm _ (x := some 49) (y := some 45) _ _ (by simp)]
      refine one r48 ?_
      refine call8 d N s tail Q ht w w1 hB1 hk1 hg1 _ _ (by rw [ev_same _ _ _ (by rw [put_size, hs]; decide)]) ?_
      rw [m489]
      exact hlast
    · refine call8 d N s tail Q ht w w1 hB1 hk1 hg1 _ _ (by rw [ev_same _ _ _ (by rw [hs]; decide)]) ?_
      rw [m89]
      intro w6 hB6 hk6 hg6
      refine one r89 ?_
      refine load8a d N s tail Q w6 hB6 _ _ (by rw [ev_other _ _ _ _ (by decide), ev_other _ _ _ _ (by decide), e44]) ?_
      rw [m894, Act.put_comm _ (x := some 50) (y := some 45) _ _ (by simp), Act.put_comm _ (x := some 49) (y := some 45) _ _ (by simp)]
      exact hlast w6 hB6 hk6 hg6

set_option linter.unusedSimpArgs false in
set_option maxHeartbeats 2000000 in
theorem region8 (d N : Nat) (s : St) (tail : List UInt8) (ht : tail.length = 64) (w : World) (hB : Blk w d 88 (cellsOf s tail N)) (hk : KT w) (Q : Exit → Act → World → Prop) (hQ : ∀ c a (t : Nat) v w, Q (.panic c) (Act.put a (some t) v) w → Q (.panic c) a w)
    (a : Act) (hs : a.tmps.size = 54) (e0 : a.eval (.tmp 0) = .pointer (some ⟨d, 0, none⟩))
    (h : ∀ w8, Hid (Blk w8 d 88 (cellsOf (Sha.step s tail) tail N)) → Hid (w.grownBy w8 (some d)) → ∀ x45 x49 x50 x51, Q .normal (behind a d x45 x49 x50 x51) w8) :
    Code.wp Tryd.prog (Code.region 8 R8 true) Q a w := by
  refine wp_region_any (by kernel_rfl) ?_
  show wpAny Tryd.prog .any R8 Q 14 _ _ _
  have hB1 : Blk { w with drawn := w.drawn + 1 } d 88 (cellsOf s tail N) := hB
  have hk1 : KT { w with drawn := w.drawn + 1 } := hk
  have hg1 : w.grownBy { w with drawn := w.drawn + 1 } (some d) := ⟨rfl, rfl, rfl, Nat.le_refl _, fun _ _ _ => rfl⟩
  generalize ({ w with drawn := w.drawn + 1 } : World) = w1 at hB1 hk1 hg1 ⊢
  refine wpAny_take (i := 0) (oi := o0) (v := .pointer (some ⟨d, 0, none⟩)) rfl (by kernel_rfl) (by kernel_rfl) (by kernel_rfl) (fun c x y h => hQ c _ _ _ _ h) (Or.inl ⟨wanted_plain rfl, y_move rfl e0⟩) ?_
  refine wpAny_take (i := 1) (oi := o1) (v := .pointer (some ⟨d, 0, none⟩)) rfl (by kernel_rfl) (by kernel_rfl) (by kernel_rfl) (fun c x y h => hQ c _ _ _ _ h) (Or.inl ⟨wanted_plain rfl, y_move rfl (by simp only [o0, o1, o2, o3, o5, o6, o7, o4, o8, o9, ev_same, ev_other, put_size, hs, Nat.reduceLT, ne_eq, Nat.reduceEqDiff, not_false_eq_true, e0])⟩) ?_
  refine wpAny_take (i := 2) (oi := o2) (v := .pointer (some ⟨d, 0, none⟩)) rfl (by kernel_rfl) (by kernel_rfl) (by kernel_rfl) (fun c x y h => hQ c _ _ _ _ h) (Or.inl ⟨wanted_plain rfl, y_nil rfl (by simp only [o0, o1, o2, o3, o5, o6, o7, o4, o8, o9, ev_same, ev_other, put_size, hs, Nat.reduceLT, ne_eq, Nat.reduceEqDiff, not_false_eq_true, e0])⟩) ?_
  refine wpAny_take (i := 3) (oi := o3) (v := .pointer (some ⟨d, 1, none⟩)) rfl (by kernel_rfl) (by kernel_rfl) (by kernel_rfl) (fun c x y h => hQ c _ _ _ _ h) (Or.inl ⟨wanted_plain rfl, y_field1 rfl (by simp only [o0, o1, o2, o3, o5, o6, o7, o4, o8, o9, ev_same, ev_other, put_size, hs, Nat.reduceLT, ne_eq, Nat.reduceEqDiff, not_false_eq_true, e0])⟩) ?_
  refine wpAny_take (i := 5) (oi := o5) (v := .pointer (some ⟨d, 0, none⟩)) rfl (by kernel_rfl) (by kernel_rfl) (by kernel_rfl) (fun c x y h => hQ c _ _ _ _ h) (Or.inl ⟨wanted_plain rfl, y_move rfl (by simp only [o0, o1, o2, o3, o5, o6, o7, o4, o8, o9, ev_same, ev_other, put_size, hs, Nat.reduceLT, ne_eq, Nat.reduceEqDiff, not_false_eq_true, e0])⟩) ?_
  refine wpAny_take (i := 6) (oi := o6) (v := .pointer (some ⟨d, 0, none⟩)) rfl (by kernel_rfl) (by kernel_rfl) (by kernel_rfl) (fun c x y h => hQ c _ _ _ _ h) (Or.inl ⟨wanted_plain rfl, y_nil rfl (by simp only [o0, o1, o2, o3, o5, o6, o7, o4, o8, o9, ev_same, ev_other, put_size, hs, Nat.reduceLT, ne_eq, Nat.reduceEqDiff, not_false_eq_true, e0])⟩) ?_
  refine wpAny_take (i := 7) (oi := o7) (v := .pointer (some ⟨d, 9, none⟩)) rfl (by kernel_rfl) (by kernel_rfl) (by kernel_rfl) (fun c x y h => hQ c _ _ _ _ h) (Or.inl ⟨wanted_plain rfl, y_field2 rfl (by simp only [o0, o1, o2, o3, o5, o6, o7, o4, o8, o9, ev_same, ev_other, put_size, hs, Nat.reduceLT, ne_eq, Nat.reduceEqDiff, not_false_eq_true, e0])⟩) ?_
  refine mid8 d N s tail ht w w1 hB1 hk1 hg1 Q _ ?_ ?_ ?_ ?_ (fun w8 hb hg x51 => h w8 hb hg _ _ _ x51)
  · simp only [o0, o1, o2, o3, o5, o6, o7, put_size, hs]
  · simp only [o0, o1, o2, o3, o5, o6, o7, o4, o8, o9, ev_same, ev_other, put_size, hs, Nat.reduceLT, ne_eq, Nat.reduceEqDiff, not_false_eq_true, e0]
  · simp only [o0, o1, o2, o3, o5, o6, o7, o4, o8, o9, ev_same, ev_other, put_size, hs, Nat.reduceLT, ne_eq, Nat.reduceEqDiff, not_false_eq_true, e0]
  · simp only [o0, o1, o2, o3, o5, o6, o7, o4, o8, o9, ev_same, ev_other, put_size, hs, Nat.reduceLT, ne_eq, Nat.reduceEqDiff, not_false_eq_true, e0]

end Go.Proofs.YtgdecjacbkicmaaDoor.Hsh

/- Layer 2 (hash): 'Write'. -/
namespace Go.Proofs.YtgdecjacbkicmaaDoor.Hsh
open Go.RowKit Sha

theorem KT.grown {w w' : World} {d : Nat} (h : KT w) (hg : w.grownBy w' (some d)) (hd : 1 ≠ d) : KT w' :=
  ⟨Nat.lt_of_lt_of_le h.1 hg.size, fun t ht => hg.cell (h.2 t ht) (by simpa using hd)⟩
def slen : Value → Nat
  | .slice _ n _ => n
  | _ => 0
theorem slice46 (d r : Nat) (hr : r < 64) (W : World) : (Instr.sliceAt 86 (.pointer (some ⟨d, 9, none⟩)) (some (.int .u64 (r : Int))) none none).run Tryd.prog W = .ok (.slice (some ⟨d, 9 + r, none⟩) (64 - r) (64 - r)) W := by
  obtain ⟨i, hi, hsz⟩ := Option.map_eq_some_iff.1 size5
  simp [Instr.sliceAt, Instr.sureAddr, run_underlying arr46, Instr.sliceBounds, Instr.sliceBound, asIntOf, sizeOf, typeInfo, hi, hsz, Addr.add_lit, show r ≤ 64 by omega, show ¬ 64 = r by omega]

/-- what the loop keeps -/
def LoopW (w : World) (d : Nat) (M l : List UInt8) (k n c : Nat) (a' : Option Addr) (wr : World) : Prop := k + n = l.length ∧ InX d w a' n c (l.drop k) ∧ Dig wr d (M ++ l.take k) ∧ w.grownBy wr (some d)
theorem LoopW.next {w wr w5 : World} {d : Nat} {M l M1 x : List UInt8} {k n c nn r : Nat} {a' a2 : Option Addr} (h : LoopW w d M l k n c a' wr) (hM1 : M1 = M ++ l.take k) (hx : x = (l.drop k).take (64 - r)) (hxl : x.length = nn) (hnn : nn ≤ n)
    (hin : InX d w a2 (n - nn) (c - nn) ((l.drop k).drop nn)) (hd : Dig w5 d (M1 ++ x)) (hg : wr.grownBy w5 (some d)) : LoopW w d M l (k + nn) (n - nn) (c - nn) a2 w5 := by
  have h1 := h.1
  refine ⟨by omega, ?_, ?_, grown_tr h.2.2.2 hg⟩
  · rw [List.drop_drop] at hin; exact hin
  · have e : x = (l.drop k).take nn := by
      rw [hx]
      rw [hx, List.length_take] at hxl
      exact List.take_eq_take_iff.2 (by omega)
    rw [List.take_add, ← e, ← List.append_assoc, ← hM1]
    exact hd
theorem dig_more {w : World} {d N r nn : Nat} {M tail x : List UInt8} (hT : Tail M tail) (hN : N = M.length) (hr : r = N % 64) (hx : x.length = nn) (h : r + nn < 64) (hB : Blk w d 88 (cellsOf (fold Sha.start M) (splice tail r x) (N + nn))) : Dig w d (M ++ x) := by
  subst hN hr hx
  have e := hT.more h
  refine ⟨_, e.1, ?_⟩
  rw [e.2, List.length_append]; exact hB
theorem dig_full {w : World} {d N r nn : Nat} {M tail x : List UInt8} (hT : Tail M tail) (hN : N = M.length) (hr : r = N % 64) (hx : x.length = nn) (h : r + nn = 64) (hB : Blk w d 88 (cellsOf (Sha.step (fold Sha.start M) (splice tail r x)) (splice tail r x) (N + nn))) : Dig w d (M ++ x) := by
  subst hN hr hx
  have e := hT.full h
  refine ⟨_, e.1, ?_⟩
  rw [e.2, List.length_append]; exact hB

set_option maxHeartbeats 1000000 in
set_option maxRecDepth 100000 in
theorem write_is (d : Nat) (M l : List UInt8) (a : Option Addr) (len cap : Nat) (w : World) (hk : KT w) (hd1 : 1 ≠ d) (hD : Dig w d M) (hin : InX d w a len cap l) (hN : M.length + len < 1000000000000) :
    Calls Tryd.prog 31 #[.pointer (some ⟨d, 0, none⟩), .slice a len cap] w fun e w' => e = .returned (.int .i64 0) ∧ Dig w' d (M ++ l) ∧ w.grownBy w' (some d) := by
  have HK : Hid (KT w) := hk
  have HD : Hid (Dig w d M) := hD
  have HIN : Hid (InX d w a len cap l) := hin
  have HLL : Hid (l.length = len) := hin.1.1
  have HN : Hid (M.length + len < 1000000000000) := hN
  have HD1 : Hid (1 ≠ d) := hd1
  have c0 : w.cell? ⟨d, 0, none⟩ = some (.bool true) := by
    obtain ⟨tail, _, hb⟩ := hD
    exact hb.cell rfl
  clear hk hD hin hN hd1
  go_enter Tryd.func31, Tryd.ntmps31
  go_wp2_with (go_at_call 51; refine (isMade_is d true _ c0).mono ?_; rintro e w1 ⟨rfl, rfl⟩)
  go_loopw [1] (fun i wr => ∃ (k n c : Nat) (a' : Option Addr), i = .slice a' n c ∧ Hid (LoopW w d M l k n c a' wr)) (fun i _ => slen i)
  case atStart =>
    refine ⟨0, len, cap, a, rfl, ?_⟩
    refine ⟨by rw [HLL.out]; omega, HIN.out, ?_, World.grownBy.refl _ _⟩
    rw [List.take_zero, List.append_nil]; exact HD.out
  case round =>
    clear c0
    obtain ⟨k, n, c, a', rfl, hr⟩ := hrel
    by_cases hn : n = 0
    · subst hn
      go_wp2
      go_ret
      refine ⟨rfl, ?_, hr.out.2.2.2⟩
      have e := hr.out.2.2.1
      rw [List.take_of_length_le (by have := hr.out.1; omega)] at e
      exact e
    · have q0 : (0 : Int) < (n : Int) := by omega
      obtain ⟨M1, hM1⟩ : ∃ M1, M1 = M ++ l.take k := ⟨_, rfl⟩
      obtain ⟨tail, hT, hB⟩ := hr.out.2.2.1
      rw [← hM1] at hT hB
      obtain ⟨N, hN⟩ : ∃ N, N = M1.length := ⟨_, rfl⟩
      rw [← hN] at hB
      obtain ⟨r, hrr⟩ : ∃ r, r = N % 64 := ⟨_, rfl⟩
      have q1 : (N : Int) % 64 = (r : Int) := by omega
      have q1' : (N : Int).tmod 64 = (r : Int) := by rw [Int.tmod_eq_emod_of_nonneg (by omega)]; exact q1
      have q2 : r < 64 := by omega
      have q3 : (r : Int) ≤ 64 := by omega
      have q4 : (0 : Int) ≤ (r : Int) := by omega
      have c73 : wr.cell? ⟨d, 73, none⟩ = some (.int .u64 (N : Int)) := hB.cell (cellsOf_73 hT.1)
      have hsl := slice46 d r q2
      have HT : Hid (Tail M1 tail) := hT
      have HB : Hid (Blk wr d 88 (cellsOf (fold Sha.start M1) tail N)) := hB
      have HN1 : Hid (N = M1.length) := hN
      have HR : Hid (r = N % 64) := hrr
      have HM1 : Hid (M1 = M ++ l.take k) := hM1
      have HNP : Hid (n ≠ 0) := hn
      clear hT hB hN hrr hM1 hn
      obtain ⟨x, hx⟩ : ∃ x, x = (l.drop k).take (64 - r) := ⟨_, rfl⟩
      obtain ⟨nn, hnn⟩ : ∃ nn, nn = (U x).length := ⟨_, rfl⟩
      have HX : Hid (x = (l.drop k).take (64 - r)) := hx
      have HNN : Hid ((U x).length = nn) := hnn.symm
      have HNM : Hid (nn = Nat.min n (64 - r)) := by
        show _ = _
        rw [hnn, U_length, hx, List.length_take, List.length_drop]
        have := hr.out.1
        show min _ _ = min _ _
        omega
      clear hx hnn
      have HFIT : Hid (nn ≤ 64 - r ∧ nn ≤ n ∧ 0 < nn) := by
        have h1 : nn ≤ 64 - r := by rw [HNM.out]; exact Nat.min_le_right _ _
        have h2 : nn ≤ n := by rw [HNM.out]; exact Nat.min_le_left _ _
        have h3 : 0 < nn := by rw [HNM.out]; exact Nat.lt_min.2 ⟨by omega, by omega⟩
        exact ⟨h1, h2, h3⟩
      obtain ⟨a2, hsl2, hin2⟩ := slice_from hr.out.2.1 nn HFIT.out.2.1
      have HSL2 : Hid (∀ W, (Instr.slice 28 (.slice a' n c) (some (.int .i64 (nn : Int))) none none).run Tryd.prog W = .ok (.slice a2 (n - nn) (c - nn)) W) := hsl2
      have HIN2 : Hid (InX d w a2 (n - nn) (c - nn) ((l.drop k).drop nn)) := hin2
      have q5 : (0 : Int) ≤ (nn : Int) := by omega
      have q6 : (nn : Int) ≤ 64 := by have := HFIT.out.1; omega
      have q7 : (N : Int) ≤ 1000000000000 := by
        have h1 := HN1.out; have h2 := HN.out; have h3 := hr.out.1; have h4 := HLL.out
        rw [HM1.out, List.length_append, List.length_take] at h1
        omega
      clear hsl2 hin2
      have HSRC : Hid (∃ ad, a' = some ad ∧ ∀ j v, (U x)[j]? = some v → wr.drew.cell? (ad.add j) = some v) := by
        have hi := (hr.out.2.1.grown hr.out.2.2.2).1
        obtain ⟨ad, e1, e2⟩ := cells_of_in hi (by rw [U_length, List.length_drop]; have := hr.out.1; have := HNP.out; omega)
        refine ⟨ad, e1, fun j v hj => ?_⟩
        refine e2 j v ?_
        rw [HX.out] at hj
        simp only [U, List.map_take, List.getElem?_take] at hj
        split at hj
        · exact hj
        · cases hj
      go_wp2_with fail
      go_region_law ((refine step_copy_blk rfl (.tmp 20) (.tmp 21) 28 28 rfl 5 Tryd.underlying28 size5 d (9 + r) (64 - r) (64 - r) a' n c rfl rfl _ 88 HB.out.drew (U x) (by rw [HNN.out]; exact HNM.out) HSRC.out (by rw [cellsOf_length HT.out.1, HNN.out]; have := HFIT.out.1; omega) (U_one _) ?_; intro w4 hb4 hg4))
      rw [HNN.out]
      have HB4 : Hid (Blk w4 d 88 (cellsOf (fold Sha.start M1) (splice tail r x) N)) := by
        have e := hb4.out
        rw [cellsOf_splice HT.out.1 r x (by have := HNN.out; rw [U_length] at this; have := HFIT.out.1; omega)] at e
        exact e
      obtain ⟨t2, ht2⟩ : ∃ t2, t2 = splice tail r x := ⟨_, rfl⟩
      have HT2 : Hid (t2 = splice tail r x) := ht2
      rw [← ht2] at HB4
      have HTL : Hid (t2.length = 64) := by
        show _ = _
        rw [ht2, splice_length _ _ _ (by have h1 := HNN.out; rw [U_length] at h1; have := HFIT.out.1; have := HT.out.1; omega)]
        exact HT.out.1
      have HG4 : Hid (wr.grownBy w4 (some d)) := grown_tr (grown_drewN wr 1 _) hg4.out
      clear hb4 hg4 ht2 c73 hsl
      have c73 : w4.cell? ⟨d, 73, none⟩ = some (.int .u64 (N : Int)) := HB4.out.cell (cellsOf_73 HTL.out)
      have f73 : w4.frozen? ⟨d, 73, none⟩ = false := HB4.out.free _
      have HXL : Hid (x.length = nn) := by show _ = _; rw [← U_length]; exact HNN.out
      by_cases hfull : r + nn = 64
      · have q8 : ((N : Int) + (nn : Int)) % 64 = 0 := by have := HR.out; omega
        have HFULL : Hid (r + nn = 64) := hfull
        clear hfull
        go_wp2_with (refine wpList_slice_from rfl (.tmp 23) (.tmp 24) rfl _ _ nn rfl rfl HSL2.out ?_)
        obtain ⟨w5, hw5⟩ : ∃ w5, w5 = w4.setCell ⟨d, 73, none⟩ (.int .u64 ((N : Int) + (nn : Int))) := ⟨_, rfl⟩
        rw [← hw5]
        obtain ⟨s0, hs0⟩ : ∃ s0, s0 = fold Sha.start M1 := ⟨_, rfl⟩
        have HS0 : Hid (s0 = fold Sha.start M1) := hs0
        have HB5 : Hid (Blk w5 d 88 (cellsOf s0 t2 (N + nn))) := by
          have e := HB4.out.set 73 (.int .u64 ((N : Int) + (nn : Int)))
          rw [← Int.natCast_add, cellsOf_set HTL.out, ← hs0, Int.natCast_add, ← hw5] at e
          exact e
        have HG5 : Hid (wr.grownBy w5 (some d)) := by rw [hw5]; exact grown_tr HG4.out (grown_setCell w4 d 73 _)
        have HK5 : Hid (KT w5) := HK.out.grown (grown_tr hr.out.2.2.2 HG5.out) HD1.out
        clear hs0 hw5 c73 f73
        refine region8 d (N + nn) s0 t2 HTL.out w5 HB5.out HK5.out _ (fun _ _ _ _ _ h => h) _ rfl rfl ?_
        intro w8 hb8 hg8 x45 x49 x50 x51
        unfold behind
        go_simp
        go_wp2
        refine ⟨⟨k + nn, n - nn, c - nn, a2, rfl, ?_⟩, ?_⟩
        · refine hr.out.next HM1.out HX.out HXL.out HFIT.out.2.1 HIN2.out (dig_full HT.out HN1.out HR.out HXL.out HFULL.out ?_) (grown_tr HG5.out hg8.out)
          have e := hb8.out
          rw [HS0.out, HT2.out] at e
          exact e
        · have h1 := HFIT.out.2.1
          have h2 := HFIT.out.2.2
          show n - nn < n
          omega
      · have q8 : ((N : Int) + (nn : Int)) % 64 ≠ 0 := by have h1 := HR.out; have h2 := HFIT.out.1; have h3 := HFIT.out.2.2; omega
        have HFULL : Hid (r + nn < 64) := by have := HFIT.out.1; show r + nn < 64; omega
        clear hfull
        go_wp2_with (refine wpList_slice_from rfl (.tmp 23) (.tmp 24) rfl _ _ nn rfl rfl HSL2.out ?_)
        refine ⟨⟨k + nn, n - nn, c - nn, a2, rfl, ?_⟩, ?_⟩
        · refine hr.out.next HM1.out HX.out HXL.out HFIT.out.2.1 HIN2.out (dig_more HT.out HN1.out HR.out HXL.out HFULL.out ?_) (grown_tr HG4.out (grown_setCell w4 d 73 _))
          have e := HB4.out.set 73 (.int .u64 ((N : Int) + (nn : Int)))
          rw [← Int.natCast_add, cellsOf_set HTL.out, HT2.out] at e
          exact e
        · have h1 := HFIT.out.2.1
          have h2 := HFIT.out.2.2
          show n - nn < n
          omega

end Go.Proofs.YtgdecjacbkicmaaDoor.Hsh

/- Layer 2 (hash): 'Digest.Sum', 'Clone', 'New', 'Sum'. -/
namespace Go.Proofs.YtgdecjacbkicmaaDoor.Hsh
open Go.RowKit Sha

theorem sum_length (l : List UInt8) : (sum l).length = 32 := by simp [sum, digest]
theorem size49 : (Tryd.prog.info? 88).map (·.size) = some 74 := by kernel_rfl
theorem size45 : (Tryd.prog.info? 85).map (·.size) = some 8 := by kernel_rfl
theorem size25 : (Tryd.prog.info? 36).map (·.size) = some 32 := by kernel_rfl
theorem cellsOf_one (s : St) (tail : List UInt8) (N : Nat) : ∀ v ∈ cellsOf s tail N, v.oneCell' = true := by
  intro v hv
  simp only [cellsOf, V, U, List.mem_cons, List.mem_append, List.mem_map, List.not_mem_nil, or_false] at hv
  rcases hv with rfl | ⟨x, _, rfl⟩ | ⟨x, _, rfl⟩ | rfl <;> rfl

/-- the digest's block is copied -/
theorem copied {w : World} {b : Nat} {L cells : List Value} (hl : cells.length = 74) (hL : L.length = 74) (h : Blk w b 88 (L.take 0 ++ cells ++ L.drop (0 + cells.length))) : Blk w b 88 cells := by
  rw [List.drop_eq_nil_of_le (by omega)] at h
  simpa using h

theorem zero49 : ∃ Z : List Value, (∀ W, (zeroValue 88).run Tryd.prog W = .ok (.agg Z.toArray) W) ∧ Hid (Z.length = 74) := by
  refine ⟨.bool false :: (List.replicate 8 (.int .u32 0) ++ (List.replicate 64 (.int .u8 0) ++ [.int .u64 0])), fun W => ?_, show _ = _ by simp⟩
  have h : (Tryd.prog.info? 88).bind (·.zero) = some (.agg (Value.bool false :: (List.replicate 8 (.int .u32 0) ++ (List.replicate 64 (.int .u8 0) ++ [.int .u64 0]))).toArray) := by kernel_rfl
  obtain ⟨i, hi, hz⟩ := Option.bind_eq_some_iff.1 h
  simp only [zeroValue, typeInfo]
  simp [hi, hz]

theorem in_blk {w : World} {b : Nat} {t : TypeId} {l : List UInt8} (h : Blk w b t (U l)) (hl : l.length ≤ 140737488355328) : In w (some ⟨b, 0, none⟩) l.length l.length l := by
  refine ⟨rfl, Nat.le_refl _, hl, by simp, fun _ => ⟨b, 0, rfl, h.lt, fun i c hc => ?_⟩⟩
  rw [Nat.zero_add]
  exact h.cell (by simp [U, hc])

theorem kept_new {W w2 : World} {d i : Nat} {v : Value} {Z : Obj} (h : W.cell? ⟨d, i, none⟩ = some v) (hd : d < W.heap.size) (hg : (W.alloc Z).grownBy w2 (some W.heap.size)) : w2.cell? ⟨d, i, none⟩ = some v := by
  refine hg.cell ((((Below.refl _ W).alloc (Nat.le_refl _) Z).cell (p := ⟨d, i, none⟩) hd).trans h) ?_
  intro e
  have := Option.some.inj e
  simp at this
  omega

set_option maxHeartbeats 1000000 in
set_option maxRecDepth 100000 in
theorem dsum_is (d : Nat) (M : List UInt8) (w : World) (hk : KT w) (hD : Dig w d M) (hM : M.length < 900000000000) :
    Calls Tryd.prog 32 #[.pointer (some ⟨d, 0, none⟩)] w fun e w' => e = .returned (.agg (U (sum M)).toArray) ∧ Below w.heap.size w w' := by
  obtain ⟨tail, hT, hB⟩ := hD
  obtain ⟨Z, hz, hZ⟩ := zero49
  have c0 : w.cell? ⟨d, 0, none⟩ = some (.bool true) := hB.cell rfl
  obtain ⟨N, hN⟩ : ∃ N, N = M.length := ⟨_, rfl⟩
  rw [← hN] at hB
  have c73 : w.cell? ⟨d, 73, none⟩ = some (.int .u64 (N : Int)) := hB.cell (cellsOf_73 hT.1)
  have HK : Hid (KT w) := hk
  have HM : Hid (M.length < 900000000000) := hM
  have HN : Hid (N = M.length) := hN
  have HB : Hid (Blk w d 88 (cellsOf (fold Sha.start M) tail N)) := hB
  have HD : Hid (d < w.heap.size) := hB.lt
  have HT : Hid (Tail M tail) := hT
  have HL : Hid ((cellsOf (fold Sha.start M) tail N).length = 74) := cellsOf_length hT.1
  have H1 : Hid (∀ v ∈ cellsOf (fold Sha.start M) tail N, v.oneCell' = true) := cellsOf_one (fold Sha.start M) tail N
  generalize hC : cellsOf (fold Sha.start M) tail N = C at HB HL H1
  have HC : Hid (cellsOf (fold Sha.start M) tail N = C) := hC
  have hdl : d < w.heap.size := HB.out.lt
  clear hB hT hC hk hM hN
  go_enter Tryd.func32, Tryd.ntmps32
  go_wp2_with fail
  generalize hW1 : w.alloc _ = W1
  obtain ⟨HR1, HB1, HS1, HW1, k0, k73⟩ : Hid (Blk W1 w.heap.size 36 (zb 32)) ∧ Hid (Blk W1 d 88 C) ∧ Hid (W1.heap.size = w.heap.size + 1) ∧ Hid (Below w.heap.size w W1) ∧ W1.cell? ⟨d, 0, none⟩ = some (.bool true) ∧ W1.cell? ⟨d, 73, none⟩ = some (.int .u64 (N : Int)) := by
    subst hW1
    refine ⟨Blk.new w _ 36, HB.out.alloc _, show _ = _ by simp, (Below.refl _ w).alloc (Nat.le_refl _) _, ?_, ?_⟩
    · rw [((Below.refl _ w).alloc (Nat.le_refl _) _).cell (p := ⟨d, 0, none⟩) HD.out]; exact c0
    · rw [((Below.refl _ w).alloc (Nat.le_refl _) _).cell (p := ⟨d, 73, none⟩) HD.out]; exact c73
  clear hW1 c0 c73
  go_wp2_with (first
    | (go_at_call 51; refine (isMade_is d true _ k0).mono ?_; rintro e w1 ⟨rfl, rfl⟩)
    | (refine wpList_load_row rfl 88 (.tmp 9) rfl d rfl 88 C.toArray (0, 0) _ HB1.out Tryd.underlying88 rfl (by rw [size49, List.size_toArray, HL.out]) ?_)
    | (refine wpList_store_blk rfl 88 (.tmp 3) (.tmp 10) rfl W1.heap.size 0 88 Z C rfl rfl (Blk.new W1 Z.toArray 88) (by rw [HL.out, hZ.out]; omega) (by rw [size49, HL.out]) H1.out ?_; intro w2 hB2 hG2; have j73 : w2.cell? ⟨d, 73, none⟩ = some (.int .u64 (N : Int)) := kept_new k73 (by rw [HS1.out]; have := HD.out; omega) hG2.out)
    | (go_at_call 54; fail))
  have HD2 : Hid (Dig w2 W1.heap.size M) := by
    refine ⟨tail, HT.out, ?_⟩
    rw [← HN.out, HC.out]
    exact copied HL.out hZ.out hB2.out
  have HW2 : Hid (Below w.heap.size w w2) := by
    have e := HW1.out.alloc (by rw [HS1.out]; omega) (.cells Z.toArray 88)
    exact e.grown hG2.out (by simp; have := HS1.out; omega) (by intro k hk; have := Option.some.inj hk; have := HS1.out; omega)
  have HR2 : Hid (Blk w2 w.heap.size 36 (zb 32)) := by
    refine Blk.kept (HR1.out.alloc _) hG2.out ?_
    intro e; have := Option.some.inj e; have := HS1.out; omega
  have HSZ : Hid (W1.heap.size < w2.heap.size) := HD2.out.choose_spec.2.lt
  have HK2 : Hid (KT w2) := HK.out.below HW2.out
  have HS1' : Hid (1 < w.heap.size) := HK.out.1
  clear hB2 hG2 k0 k73 j73 hz hdl
  generalize W1.heap.size = d2 at *
  go_wp2_with (first
    | (go_at_call 54; refine (ending_is N (by rw [HN.out]; have := HM.out; omega) w2).mono ?_; rintro e w3 ⟨rfl, hb3, hw3⟩; have HB3 : Hid (Blk w3 w2.heap.size 5 (U (ending N))) := hb3; have HW3 : Hid (Below w2.heap.size w2 w3) := hw3; clear hb3 hw3)
    | (go_at_call 31; fail))
  have HDE : Hid (Dig w3 d2 M) := by
    obtain ⟨t, h1, h2⟩ := HD2.out
    exact ⟨t, h1, h2.below HW3.out HSZ.out⟩
  have HIN : Hid (InX d2 w3 (some ⟨w2.heap.size, 0, none⟩) (ending N).length (ending N).length (ending N)) := by
    refine ⟨in_blk HB3.out ?_, ?_⟩
    · simp [ending, lenBytes]; omega
    · rintro - x e; have := Option.some.inj e; subst this; have := HSZ.out; show w2.heap.size ≠ d2; omega
  have HEL : Hid ((ending N).length < 100) := by show _ < _; simp [ending, lenBytes]; omega
  generalize hE : (ending N).length = E at *
  go_wp2_with (first
    | (go_at_call 31; refine (write_is d2 M (ending N) _ E E w3 (HK2.out.below HW3.out) (by have := HS1.out; have := HS1'.out; omega) HDE.out HIN.out (by have := HM.out; have := HEL.out; omega)).mono ?_; rintro e w4 ⟨rfl, hd4, hg4⟩; have HD4 : Hid (Dig w4 d2 (M ++ ending N)) := hd4; have HG4 : Hid (w3.grownBy w4 (some d2)) := hg4; clear hd4 hg4; obtain ⟨t4, hT4, hB4⟩ := HD4.out; have HB4 : Hid (Blk w4 d2 88 (cellsOf (fold Sha.start (M ++ ending N)) t4 (M ++ ending N).length)) := hB4; clear hB4 hT4)
    | (refine wpList_load_mid rfl 85 (.tmp 17) rfl d2 1 rfl (V (fold Sha.start (M ++ ending N)).words) _ (by have e := HB4.out.range 1 8; rw [cellsOf_state] at e; exact e) Tryd.underlying85 rfl (s45 _) ?_)
    | (go_at_call 55; fail))
  have HR4 : Hid (Blk w4 w.heap.size 36 (zb 32)) := by
    refine Blk.kept (HR2.out.below HW3.out (by have := HSZ.out; have := HS1.out; omega)) HG4.out ?_
    intro e; have := Option.some.inj e; have := HS1.out; omega
  have HW4 : Hid (Below w.heap.size w w4) := by
    refine (HW2.out.trans (HW3.out.mono HW2.out.size)).grown HG4.out ?_ ?_
    · have h1 := HW2.out.size; have h2 := HW3.out.size; omega
    · intro k hk; have := Option.some.inj hk; have := HS1.out; omega
  have HL32 : Hid ((U (digest (fold Sha.start (M ++ ending N)))).length = 32) := by show _ = _; rw [U_length]; simp [digest]
  have HLT : Hid (w.heap.size < w4.heap.size) := HR4.out.lt
  have HSUM : Hid (digest (fold Sha.start (M ++ ending N)) = sum M) := by show _ = _; rw [HN.out]; rfl
  go_wp2_with (first
    | (go_at_call 55; refine (bytes_is (fold Sha.start (M ++ ending N)) w4).mono ?_; rintro e w5 ⟨rfl, hw5⟩; have HW5 : Hid (Below w4.heap.size w4 w5) := hw5; clear hw5)
    | (refine wpList_store_blk rfl 36 (.tmp 2) (.tmp 19) rfl w.heap.size 0 36 (zb 32) (U (digest (fold Sha.start (M ++ ending N)))) rfl rfl (HR4.out.below HW5.out HLT.out) (by rw [HL32.out, zb_length]; omega) (by rw [size25, HL32.out]) (U_one _) ?_; intro w6 hB6 hG6))
  have HR : Hid (w6.heap[w.heap.size]? = some (.cells (U (sum M)).toArray 36 (0, 0))) := by
    have e := hB6.out
    rw [List.drop_eq_nil_of_le (by rw [zb_length, HL32.out]; omega), List.append_nil, HSUM.out] at e
    exact e
  have HSL : Hid ((U (sum M)).length = 32) := by show _ = _; rw [← HSUM.out]; exact HL32.out
  refine bodyPost_ret (v := .agg (U (sum M)).toArray) (results_cell_row rfl _ _ w.heap.size 36 _ (0, 0) _ rfl HR.out Tryd.underlying36 rfl (by rw [size25, List.size_toArray, HSL.out])) rfl ⟨rfl, ?_⟩
  refine (HW4.out.trans (HW5.out.mono (by have := HLT.out; omega))).grown hG6.out ?_ ?_
  · have h1 := HW5.out.size; have h2 := HLT.out; omega
  · intro k hk; have := Option.some.inj hk; omega

/-- the package variable start lies in block 0 -/
def ST (w : World) : Prop := 0 < w.heap.size ∧ w.rangeAt 0 0 (V Sha.start.words)
theorem ST.below {w w' : World} (h : ST w) (hb : Below w.heap.size w w') : ST w' := ⟨Nat.lt_of_lt_of_le h.1 hb.size, fun j v hj => (hb.cell (p := ⟨0, 0 + j, none⟩) h.1).trans (h.2 j v hj)⟩
theorem ST.grown {w w' : World} {d : Nat} (h : ST w) (hg : w.grownBy w' (some d)) (hd : 0 ≠ d) : ST w' := ⟨Nat.lt_of_lt_of_le h.1 hg.size, fun j v hj => hg.cell (h.2 j v hj) (by simpa using hd)⟩

theorem built49 : Tryd.prog.built 88 [(0, .bool true), (1, .agg (V Sha.start.words).toArray)] = some (cellsOf Sha.start (List.replicate 64 0) 0).toArray := by kernel_rfl

theorem wpList_built {P : Program} {ops : Array Oper} {rest : List Oper} {o : Oper} {a : Act} {w : World} {Q : Exit → Act → World → Prop} (hg : o.guard = none) (t : TypeId) (parts : Array (Nat × Operand)) (ho : o.op = .build t parts)
    (cells : Array Value) (hb : P.built t (parts.map fun (i, x) => (i, a.eval x)).toList = some cells) (h : wpList P ops Q rest (a.put o.dst (.agg cells)) w) : wpList P ops Q (o :: rest) a w := by
  refine wpList_build hg t parts ho (by rw [hb]; rfl) ?_
  rw [hb]
  exact h

set_option maxHeartbeats 1000000 in
set_option maxRecDepth 100000 in
theorem new_is (w : World) (hs : ST w) :
    Calls Tryd.prog 30 #[] w fun e w' => e = .returned (.pointer (some ⟨w.heap.size, 0, none⟩)) ∧ Dig w' w.heap.size [] ∧ Below w.heap.size w w' := by
  have HS : Hid (ST w) := hs
  obtain ⟨C, hC⟩ : ∃ C, C = cellsOf Sha.start (List.replicate 64 0) 0 := ⟨_, rfl⟩
  have HC : Hid (C = cellsOf Sha.start (List.replicate 64 0) 0) := hC
  have hbt := built49
  rw [← hC] at hbt
  obtain ⟨Y, hY⟩ : ∃ Y, Y = (V Sha.start.words).toArray := ⟨_, rfl⟩
  have HY : Hid (Y = (V Sha.start.words).toArray) := hY
  rw [← hY] at hbt
  have HBT : Hid (Tryd.prog.built 88 [(0, .bool true), (1, .agg Y)] = some C.toArray) := hbt
  clear hs hC hY hbt
  go_enter Tryd.func30, Tryd.ntmps30
  go_wp2_with (first
    | (refine wpList_load_mid rfl 85 (.global 0) rfl 0 0 rfl (V Sha.start.words) _ HS.out.2 Tryd.underlying85 rfl (s45 _) ?_; rw [← HY.out])
    | (refine wpList_built rfl 88 _ rfl C.toArray (by simp [Act.eval]; exact HBT.out) ?_)
    | (refine Go.Great.wpList_boxTo rfl 88 (.tmp 2) rfl _ rfl w.heap.size rfl C.toArray rfl ?_))
  go_ret
  refine ⟨rfl, ⟨List.replicate 64 0, ⟨by simp, rfl⟩, ?_⟩, (Below.refl _ w).alloc (Nat.le_refl _) _⟩
  rw [show cellsOf (fold Sha.start []) (List.replicate 64 0) ([] : List UInt8).length = C from HC.out.symm]
  exact Blk.new w C.toArray 88


set_option maxHeartbeats 1000000 in
set_option maxRecDepth 100000 in
/-- 'Sum' -/
theorem sum_is (l : List UInt8) (a : Option Addr) (len cap : Nat) (w : World) (hk : KT w) (hs : ST w) (hin : In w a len cap l) (hl : len < 900000000000) :
    Calls Tryd.prog 15 #[.slice a len cap] w fun e w' => e = .returned (.agg (U (sum l)).toArray) ∧ Below w.heap.size w w' := by
  have HK : Hid (KT w) := hk
  have HS : Hid (ST w) := hs
  have HIN : Hid (In w a len cap l) := hin
  have HL : Hid (len < 900000000000) := hl
  clear hk hs hin hl
  go_enter Tryd.func15, Tryd.ntmps15
  go_wp2_with fail
  generalize hW1 : w.alloc _ = W1
  obtain ⟨HR1, HS1, HW1⟩ : Hid (Blk W1 w.heap.size 36 (zb 32)) ∧ Hid (W1.heap.size = w.heap.size + 1) ∧ Hid (Below w.heap.size w W1) := by
    subst hW1
    exact ⟨Blk.new w _ 36, show _ = _ by simp, (Below.refl _ w).alloc (Nat.le_refl _) _⟩
  clear hW1
  refine (new_is W1 (HS.out.below HW1.out)).mono ?_
  rintro e w2 ⟨rfl, hd2, hw2⟩
  have HD2 : Hid (Dig w2 W1.heap.size []) := hd2
  have HW2 : Hid (Below W1.heap.size W1 w2) := hw2
  have HIN2 : Hid (InX W1.heap.size w2 a len cap l) := by
    refine ⟨(HIN.out.below HW1.out).below HW2.out, fun hp x e => ?_⟩
    obtain ⟨b, off, e1, e2, -⟩ := HIN.out.2.2.2.2 hp
    rw [e1] at e
    have := Option.some.inj e
    subst this
    have := HS1.out
    show b ≠ _
    omega
  have HK2 : Hid (KT w2) := (HK.out.below HW1.out).below HW2.out
  have HLT : Hid (W1.heap.size < w2.heap.size) := HD2.out.choose_spec.2.lt
  clear hd2 hw2
  generalize W1.heap.size = d at *
  go_wp2_with (first
    | (go_at_call 31; refine (write_is d [] l a len cap w2 HK2.out (by have := HK.out.1; have := HS1.out; omega) HD2.out HIN2.out (by have := HL.out; simp; omega)).mono ?_; rintro e w3 ⟨rfl, hd3, hg3⟩; have HD3 : Hid (Dig w3 d l) := hd3; have HG3 : Hid (w2.grownBy w3 (some d)) := hg3; clear hd3 hg3)
    | (go_at_call 32; refine (dsum_is d l w3 (HK2.out.grown HG3.out (by have := HK.out.1; have := HS1.out; omega)) HD3.out (by have := HL.out; have := HIN.out.1; omega)).mono ?_; rintro e w4 ⟨rfl, hw4⟩; have HW4 : Hid (Below w3.heap.size w3 w4) := hw4; clear hw4; have HR4 : Hid (Blk w4 w.heap.size 36 (zb 32)) := (Blk.kept (HR1.out.below HW2.out (by have := HS1.out; omega)) HG3.out (by intro e; have := Option.some.inj e; have := HS1.out; omega)).below HW4.out (Nat.lt_of_lt_of_le (Nat.lt_of_lt_of_le (by have := HS1.out; omega) (Nat.le_of_lt HLT.out)) HG3.out.size))
    | (refine wpList_store_blk rfl 36 (.tmp 2) (.tmp 9) rfl w.heap.size 0 36 (zb 32) (U (sum l)) rfl rfl HR4.out (by rw [U_length, sum_length, zb_length]; omega) (by rw [size25, U_length, sum_length]) (U_one _) ?_; intro w6 hB6 hG6))
  have HR : Hid (w6.heap[w.heap.size]? = some (.cells (U (sum l)).toArray 36 (0, 0))) := by
    have e := hB6.out
    rw [List.drop_eq_nil_of_le (by rw [zb_length, U_length, sum_length]; omega), List.append_nil] at e
    exact e
  refine bodyPost_ret (v := .agg (U (sum l)).toArray) (results_cell_row rfl _ _ w.heap.size 36 _ (0, 0) _ rfl HR.out Tryd.underlying36 rfl (by rw [size25, List.size_toArray, U_length, sum_length])) rfl ⟨rfl, ?_⟩
  have h1 := HS1.out
  have h2 := HLT.out
  have h3 := HG3.out.size
  have h4 := HW4.out.size
  refine (((HW1.out.trans (HW2.out.mono (by omega))).grown HG3.out (by omega) ?_).trans (HW4.out.mono (by omega))).grown hG6.out (by omega) ?_
  · intro k hk; have := Option.some.inj hk; omega
  · intro k hk; have := Option.some.inj hk; omega

end Go.Proofs.YtgdecjacbkicmaaDoor.Hsh
