/-
  Layer 2 (hash): 'd.state = d.state.after(wordsOf(d.tail))', in whatever order.
-/
import Derived.Test.YtjeahlfmapacfaaDoorDig
namespace Go.Proofs.YtjeahlfmapacfaaDoor.Oct
open Go.RowKit Sha

theorem arr46 : Tryd.prog.underlying 85 = some (.array 64 5) := by kernel_rfl
theorem grown_of_below {w w' : World} (h : Below w.heap.size w w') (row : Option Nat) : w.grownBy w' row := ⟨h.os, h.tape, h.output, h.size, fun k hk _ => h.block k hk⟩

section
variable {P : Program} {ops : Array Oper} {Q : Exit → Act → World → Prop}
theorem op_wp {i : Nat} {o : Oper} {a : Act} {w : World} {K : Act → World → Prop} (hi : ops[i]? = some o) (hg : o.guard = none) (h : o.wp P a w K Q) : wpOp P ops Q i K a w := by
  unfold Go.wpOp
  simp only [hi]
  rw [if_pos (by simp [Region.wanted, hg])]
  exact .inl h
theorem op_call {i : Nat} {o : Oper} {a : Act} {w : World} {K : Act → World → Prop} (hi : ops[i]? = some o) (hg : o.guard = none) (f : Nat) (args : Array Value) (hr : (execOp a.eval o).run P w = .ok (.enter f args) w)
    (h : Calls P f args w fun e w' => ∃ v, e = .returned v ∧ K (a.put o.dst v) w') : wpOp P ops Q i K a w := by
  refine op_wp hi hg ?_
  unfold Oper.wp
  rw [hr]
  simp only [Oper.upon]
  refine h.mono ?_
  rintro e w' ⟨v, rfl, hK⟩
  exact hK
theorem one {i fuel : Nat} {listed : Array Bool} {a : Act} {w : World} (hr : Region.ready .any ops listed = [i]) (h : wpOp P ops Q i (wpAny P .any ops Q fuel (listed.setIfInBounds i true)) a w) : wpAny P .any ops Q (fuel + 1) listed a w := by
  refine wpAny_all hr (by simp) ?_
  intro j hj
  rw [List.mem_singleton.1 hj]
  exact h
theorem two {i k fuel : Nat} {listed : Array Bool} {a : Act} {w : World} (hr : Region.ready .any ops listed = [i, k]) (h : wpOp P ops Q i (wpAny P .any ops Q fuel (listed.setIfInBounds i true)) a w)
    (h2 : wpOp P ops Q k (wpAny P .any ops Q fuel (listed.setIfInBounds k true)) a w) : wpAny P .any ops Q (fuel + 1) listed a w := by
  refine wpAny_all hr (by simp) ?_
  intro j hj
  rcases List.mem_cons.1 hj with rfl | hj
  · exact h
  · rw [List.mem_singleton.1 hj]
    exact h2

theorem y_move {o : Oper} {a : Act} {x : Operand} {v : Value} (ho : o.op = .move x) (hx : a.eval x = v) (w : World) : (execOp a.eval o).run P w = .ok (.value v) w := by
  unfold execOp; simp [ho, hx]
theorem y_nil {o : Oper} {a : Act} {x : Operand} {p : Addr} (ho : o.op = .nilCheck x) (hx : a.eval x = .pointer (some p)) (w : World) : (execOp a.eval o).run P w = .ok (.value (.pointer (some p))) w := by
  unfold execOp; simp only [ho, hx]; go_simp
theorem y_field1 {o : Oper} {a : Act} {x : Operand} {d : Nat} (ho : o.op = .fieldAddr 106 x 1) (hx : a.eval x = .pointer (some ⟨d, 0, none⟩)) (w : World) : (execOp a.eval o).run Tryd.prog w = .ok (.value (.pointer (some ⟨d, 1, none⟩))) w := by
  unfold execOp; simp only [ho, hx]; go_simp
theorem y_field2 {o : Oper} {a : Act} {x : Operand} {d : Nat} (ho : o.op = .fieldAddr 106 x 2) (hx : a.eval x = .pointer (some ⟨d, 0, none⟩)) (w : World) : (execOp a.eval o).run Tryd.prog w = .ok (.value (.pointer (some ⟨d, 9, none⟩))) w := by
  unfold execOp; simp only [ho, hx]; go_simp
end
theorem ev_same (a : Act) (t : Nat) (v : Value) (h : t < a.tmps.size) : (a.put (some t) v).eval (.tmp t) = v := by
  simp [Act.put, Act.eval, h]
theorem ev_other (a : Act) (t u : Nat) (v : Value) (h : t ≠ u) : (a.put (some t) v).eval (.tmp u) = a.eval (.tmp u) := by
  simp [Act.put, Act.eval, h]
theorem put_size (a : Act) (t : Nat) (v : Value) : (a.put (some t) v).tmps.size = a.tmps.size := by
  simp [Act.put]

/-- the statement's operations -/
def o0 : Oper := { dst := some 41, op := Op.move (Operand.tmp 0), type := 87, pos := "hash.go:42", after := #[], guard := none }
def o1 : Oper := { dst := some 42, op := Op.move (Operand.tmp 0), type := 87, pos := "hash.go:42", after := #[], guard := none }
def o2 : Oper := { dst := some 43, op := Op.nilCheck (Operand.tmp 42), type := 0, pos := "hash.go:42", after := #[{ on := 1, ground := Ground.data }], guard := none }
def o3 : Oper := { dst := some 44, op := Op.fieldAddr 106 (Operand.tmp 43) 1, type := 0, pos := "hash.go:42", after := #[{ on := 2, ground := Ground.data }], guard := none }
def o4 : Oper := { dst := some 45, op := Op.load 104 (Operand.tmp 44), type := 104, pos := "hash.go:42", after := #[{ on := 3, ground := Ground.data }], guard := none }
def o5 : Oper := { dst := some 46, op := Op.move (Operand.tmp 0), type := 87, pos := "hash.go:42", after := #[], guard := none }
def o6 : Oper := { dst := some 47, op := Op.nilCheck (Operand.tmp 46), type := 0, pos := "hash.go:42", after := #[{ on := 5, ground := Ground.data }], guard := none }
def o7 : Oper := { dst := some 48, op := Op.fieldAddr 106 (Operand.tmp 47) 2, type := 0, pos := "hash.go:42", after := #[{ on := 6, ground := Ground.data }], guard := none }
def o8 : Oper := { dst := some 49, op := Op.load 85 (Operand.tmp 48), type := 85, pos := "hash.go:42", after := #[{ on := 7, ground := Ground.data }], guard := none }
def o9 : Oper := { dst := some 50, op := Op.call { callee := Callee.value (Operand.func 63), args := #[Operand.tmp 49], argTypes := #[85] }, type := 108, pos := "hash.go:42", after := #[{ on := 8, ground := Ground.data }], guard := none }
def o10 : Oper := { dst := some 51, op := Op.call { callee := Callee.value (Operand.func 62), args := #[Operand.tmp 45, Operand.tmp 50], argTypes := #[104, 108] }, type := 104, pos := "hash.go:42", after := #[{ on := 4, ground := Ground.data }, { on := 9, ground := Ground.data }, { on := 9, ground := Ground.chain }], guard := none }
def o11 : Oper := { dst := some 52, op := Op.nilCheck (Operand.tmp 41), type := 0, pos := "hash.go:42", after := #[{ on := 0, ground := Ground.data }, { on := 0, ground := Ground.phase }, { on := 1, ground := Ground.phase }, { on := 2, ground := Ground.phase }, { on := 3, ground := Ground.phase }, { on := 4, ground := Ground.phase }, { on := 5, ground := Ground.phase }, { on := 6, ground := Ground.phase }, { on := 7, ground := Ground.phase }, { on := 8, ground := Ground.phase }, { on := 9, ground := Ground.phase }, { on := 10, ground := Ground.phase }], guard := none }
def o12 : Oper := { dst := some 53, op := Op.fieldAddr 106 (Operand.tmp 52) 1, type := 0, pos := "hash.go:42", after := #[{ on := 11, ground := Ground.data }, { on := 0, ground := Ground.phase }, { on := 1, ground := Ground.phase }, { on := 2, ground := Ground.phase }, { on := 3, ground := Ground.phase }, { on := 4, ground := Ground.phase }, { on := 5, ground := Ground.phase }, { on := 6, ground := Ground.phase }, { on := 7, ground := Ground.phase }, { on := 8, ground := Ground.phase }, { on := 9, ground := Ground.phase }, { on := 10, ground := Ground.phase }], guard := none }
def o13 : Oper := { dst := none, op := Op.store 104 (Operand.tmp 53) (Operand.tmp 51), type := 0, pos := "hash.go:42", after := #[{ on := 12, ground := Ground.data }, { on := 10, ground := Ground.data }, { on := 10, ground := Ground.chain }, { on := 0, ground := Ground.phase }, { on := 1, ground := Ground.phase }, { on := 2, ground := Ground.phase }, { on := 3, ground := Ground.phase }, { on := 4, ground := Ground.phase }, { on := 5, ground := Ground.phase }, { on := 6, ground := Ground.phase }, { on := 7, ground := Ground.phase }, { on := 8, ground := Ground.phase }, { on := 9, ground := Ground.phase }, { on := 10, ground := Ground.phase }], guard := none }
def R8 : Array Oper := #[o0, o1, o2, o3, o4, o5, o6, o7, o8, o9, o10, o11, o12, o13]


theorem call_two {o : Oper} {a : Act} {ts : Array TypeId} (ho : o.op = .call { callee := .value (.func 62), args := #[.tmp 45, .tmp 50], argTypes := ts }) (w : World) : (execOp a.eval o).run Tryd.prog w = .ok (.enter 62 #[a.eval (.tmp 45), a.eval (.tmp 50)]) w := by
  unfold execOp; simp only [ho]; go_simp
theorem call_one {o : Oper} {a : Act} {ts : Array TypeId} (ho : o.op = .call { callee := .value (.func 63), args := #[.tmp 49], argTypes := ts }) (w : World) : (execOp a.eval o).run Tryd.prog w = .ok (.enter 63 #[a.eval (.tmp 49)]) w := by
  unfold execOp; simp only [ho]; go_simp

/-- the act behind the statement -/
def behind (a : Act) (d : Nat) (x45 x49 x50 x51 : Value) : Act :=
  ((((((((((((a.put (some 41) (.pointer (some ⟨d, 0, none⟩))).put (some 42) (.pointer (some ⟨d, 0, none⟩))).put (some 43) (.pointer (some ⟨d, 0, none⟩))).put (some 44) (.pointer (some ⟨d, 1, none⟩))).put (some 46) (.pointer (some ⟨d, 0, none⟩))).put (some 47) (.pointer (some ⟨d, 0, none⟩))).put (some 48) (.pointer (some ⟨d, 9, none⟩))).put (some 45) x45).put (some 49) x49).put (some 50) x50).put (some 51) x51).put (some 52) (.pointer (some ⟨d, 0, none⟩))).put (some 53) (.pointer (some ⟨d, 1, none⟩))

/-- the last call and the store -/
theorem tail8 (d N : Nat) (s : St) (tail : List UInt8) (ht : tail.length = 64) (w w6 : World) (hB : Blk w6 d 106 (cellsOf s tail N)) (hk : KT w6) (hg : w.grownBy w6 (some d)) (Q : Exit → Act → World → Prop)
    (L : Array Bool) (a : Act) (hs : a.tmps.size = 54) (e41 : a.eval (.tmp 41) = .pointer (some ⟨d, 0, none⟩)) (e45 : a.eval (.tmp 45) = .agg #[.int .u32 (s.a.toNat : Int), .int .u32 (s.b.toNat : Int), .int .u32 (s.c.toNat : Int), .int .u32 (s.d.toNat : Int), .int .u32 (s.e.toNat : Int), .int .u32 (s.f.toNat : Int), .int .u32 (s.g.toNat : Int), .int .u32 (s.h.toNat : Int)]) (e50 : a.eval (.tmp 50) = .agg (V (wordsOf tail)).toArray)
    (h10 : Region.ready .any R8 L = [10]) (h11 : Region.ready .any R8 (L.setIfInBounds 10 true) = [11]) (h12 : Region.ready .any R8 ((L.setIfInBounds 10 true).setIfInBounds 11 true) = [12]) (h13 : Region.ready .any R8 (((L.setIfInBounds 10 true).setIfInBounds 11 true).setIfInBounds 12 true) = [13])
    (h14 : Region.ready .any R8 ((((L.setIfInBounds 10 true).setIfInBounds 11 true).setIfInBounds 12 true).setIfInBounds 13 true) = [])
    (h : ∀ w8, Hid (Blk w8 d 106 (cellsOf (Sha.step s tail) tail N)) → Hid (w.grownBy w8 (some d)) → ∀ x51, Q .normal (((a.put (some 51) x51).put (some 52) (.pointer (some ⟨d, 0, none⟩))).put (some 53) (.pointer (some ⟨d, 1, none⟩))) w8) :
    wpAny Tryd.prog .any R8 Q 4 L a w6 := by
  refine one h10 (op_call (o := o10) rfl rfl 62 #[a.eval (.tmp 45), a.eval (.tmp 50)] ?_ ?_)
  · exact call_two rfl _
  rw [e45, e50]
  refine (after_is s (wordsOf tail) _ (moreTo_length tail 48) rfl _ hk).mono ?_
  rintro e w7 ⟨rfl, hb7⟩
  refine ⟨_, rfl, ?_⟩
  have hB7 := hB.below hb7 hB.lt
  generalize hx : Value.agg #[.int .u32 ((after s (wordsOf tail)).a.toNat : Int), .int .u32 ((after s (wordsOf tail)).b.toNat : Int), .int .u32 ((after s (wordsOf tail)).c.toNat : Int), .int .u32 ((after s (wordsOf tail)).d.toNat : Int), .int .u32 ((after s (wordsOf tail)).e.toNat : Int), .int .u32 ((after s (wordsOf tail)).f.toNat : Int), .int .u32 ((after s (wordsOf tail)).g.toNat : Int), .int .u32 ((after s (wordsOf tail)).h.toNat : Int)] = x51
  refine one h11 (op_wp (o := o11) rfl rfl ?_)
  unfold Oper.wp
  rw [y_nil (p := ⟨d, 0, none⟩) rfl (by rw [show o10.dst = some 51 from rfl, ev_other _ _ _ _ (by decide)]; exact e41)]
  simp only [Oper.upon]
  refine one h12 (op_wp (o := o12) rfl rfl ?_)
  unfold Oper.wp
  rw [y_field1 (d := d) rfl (by rw [show o11.dst = some 52 from rfl, ev_same _ _ _ (by rw [show o10.dst = some 51 from rfl, put_size, hs]; decide)])]
  simp only [Oper.upon]
  refine one h13 (op_wp (o := o13) rfl rfl ?_)
  have sz : (Tryd.prog.info? 104).map (·.size) = some (V (Sha.step s tail).words).toArray.size := by show _ = some 8; kernel_rfl
  refine wp_store_mid 104 (.tmp 53) (.tmp 51) rfl d 1 (V (Sha.step s tail).words).toArray ?_ ?_ ?_ sz (all_oneCell_toArray (by intro v hv; simp only [V, List.mem_map] at hv; obtain ⟨x, _, rfl⟩ := hv; rfl)) ?_
  · rw [show o12.dst = some 53 from rfl, ev_same _ _ _ (by rw [show o11.dst = some 52 from rfl, show o10.dst = some 51 from rfl, put_size, put_size, hs]; decide)]
  · rw [show o12.dst = some 53 from rfl, ev_other _ _ _ _ (by decide), show o11.dst = some 52 from rfl, ev_other _ _ _ _ (by decide), show o10.dst = some 51 from rfl, ev_same _ _ _ (by rw [hs]; decide), ← hx]
    rfl
  · exact hB7.there 1 8 (by rw [cellsOf_length ht]; omega)
  · have e := Blk.setCells (V (Sha.step s tail).words) 1 w7 _ hB7 (by rw [cellsOf_length ht, V_length]; show 1 + 8 ≤ 74; omega)
    rw [cellsOf_after] at e
    refine wpAny_done h14 ?_ _
    exact h _ e.1 (grown_tr hg (grown_tr (grown_of_below hb7 _) e.2)) x51

#print axioms tail8

theorem wanted_plain {o : Oper} {y : Nat → Option Bool} (hg : o.guard = none) : Region.wanted o y = true := by simp [Region.wanted, hg]
end Go.Proofs.YtjeahlfmapacfaaDoor.Oct
