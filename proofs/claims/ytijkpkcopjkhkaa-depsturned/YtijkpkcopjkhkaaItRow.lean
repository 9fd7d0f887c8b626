/-
  Layer 12 (deps): rows of items that are made.
-/
import Derived.Test.YtijkpkcopjkhkaaMirror
namespace Go.Proofs.Ytijkpkcopjkhkaa.Oct
open Go.RowKit

theorem uncons {α : Type} {n : Nat} {l : List α} (h : l.length = n + 1) : ∃ a t, l = a :: t ∧ t.length = n := by
  cases l with
  | nil => simp at h
  | cons a t => exact ⟨a, t, rfl, by simpa using h⟩
theorem run_build36 (nm : Hs) (hl : nm.length = 32) (ds : List Hs) (p : Option Addr) (n c : Nat) (W : World) : (Instr.build 36 #[(0, .agg (U nm).toArray), (1, .slice p n c)]).run Try.prog W = .ok (.agg (It.cells ⟨nm, ds, p, n, c⟩).toArray) W := by
  obtain ⟨a0, l0, rfl, h0⟩ := uncons hl
  obtain ⟨a1, l1, rfl, h1⟩ := uncons h0
  obtain ⟨a2, l2, rfl, h2⟩ := uncons h1
  obtain ⟨a3, l3, rfl, h3⟩ := uncons h2
  obtain ⟨a4, l4, rfl, h4⟩ := uncons h3
  obtain ⟨a5, l5, rfl, h5⟩ := uncons h4
  obtain ⟨a6, l6, rfl, h6⟩ := uncons h5
  obtain ⟨a7, l7, rfl, h7⟩ := uncons h6
  obtain ⟨a8, l8, rfl, h8⟩ := uncons h7
  obtain ⟨a9, l9, rfl, h9⟩ := uncons h8
  obtain ⟨a10, l10, rfl, h10⟩ := uncons h9
  obtain ⟨a11, l11, rfl, h11⟩ := uncons h10
  obtain ⟨a12, l12, rfl, h12⟩ := uncons h11
  obtain ⟨a13, l13, rfl, h13⟩ := uncons h12
  obtain ⟨a14, l14, rfl, h14⟩ := uncons h13
  obtain ⟨a15, l15, rfl, h15⟩ := uncons h14
  obtain ⟨a16, l16, rfl, h16⟩ := uncons h15
  obtain ⟨a17, l17, rfl, h17⟩ := uncons h16
  obtain ⟨a18, l18, rfl, h18⟩ := uncons h17
  obtain ⟨a19, l19, rfl, h19⟩ := uncons h18
  obtain ⟨a20, l20, rfl, h20⟩ := uncons h19
  obtain ⟨a21, l21, rfl, h21⟩ := uncons h20
  obtain ⟨a22, l22, rfl, h22⟩ := uncons h21
  obtain ⟨a23, l23, rfl, h23⟩ := uncons h22
  obtain ⟨a24, l24, rfl, h24⟩ := uncons h23
  obtain ⟨a25, l25, rfl, h25⟩ := uncons h24
  obtain ⟨a26, l26, rfl, h26⟩ := uncons h25
  obtain ⟨a27, l27, rfl, h27⟩ := uncons h26
  obtain ⟨a28, l28, rfl, h28⟩ := uncons h27
  obtain ⟨a29, l29, rfl, h29⟩ := uncons h28
  obtain ⟨a30, l30, rfl, h30⟩ := uncons h29
  obtain ⟨a31, l31, rfl, h31⟩ := uncons h30
  obtain rfl := List.eq_nil_of_length_eq_zero h31
  kernel_rfl
#print axioms run_build36
theorem info36' : ∃ i : TypeInfo, Try.prog.info? 36 = some i ∧ i.size = 33 ∧ i.bytes = 56 ∧ ∃ z, i.zero = some z ∧ z.cells.size = 33 := by
  obtain ⟨i, hi, he⟩ := Option.map_eq_some_iff.1 (show (Try.prog.info? 36).map (fun i => (i.size, i.bytes, i.zero.map (·.cells.size))) = some (33, 56, some 33) by kernel_rfl)
  simp only [Prod.mk.injEq] at he
  obtain ⟨z, hz, hz2⟩ := Option.map_eq_some_iff.1 he.2.2
  exact ⟨i, hi, he.1, he.2.1, z, hz, hz2⟩
theorem run_bslice36 (x : It) (hl : x.name.length = 32) (W : World) : (Instr.buildSlice 22 1 #[(0, .agg x.cells.toArray)]).run Try.prog W = .ok (.slice (some ⟨W.heap.size, 0, none⟩) 1 1) (W.alloc (.cells x.cells.toArray 36)) := by
  obtain ⟨i, hi, hs1, hby, z, hz, hzs⟩ := info36'
  have hx := x.cells_length hl
  have e : ∀ A : Array Value, A.size = 33 → List.foldl (fun cs (x : Value × Nat) => cs.setIfInBounds x.2 x.1) A x.cells.zipIdx = x.cells.toArray := by
    intro A hA
    apply Array.toList_inj.1
    rw [fold_set x.cells 0 A (by rw [hx, hA])]
    simp
  simp [Instr.buildSlice, run_underlying Try.underlying22, sizeOf, typeInfo, hi, hs1, zeroValue, hz, Instr.fill, Value.cells, hx, e]
  simp [newRow]
#print axioms run_bslice36
section
variable {ops : Array Oper} {rest : List Oper} {o : Oper} {a : Act} {w : World} {Q : Exit → Act → World → Prop}
theorem wpList_build36 (hg : o.guard = none) (x y : Operand) (hop : o.op = Op.build 36 #[(0, x), (1, y)]) (nm : Hs) (hl : nm.length = 32) (ds : List Hs) (p : Option Addr) (n c : Nat) (hx : a.eval x = .agg (U nm).toArray) (hy : a.eval y = .slice p n c)
    (hK : wpList Try.prog ops Q rest (a.put o.dst (.agg (It.cells ⟨nm, ds, p, n, c⟩).toArray)) w) : wpList Try.prog ops Q (o :: rest) a w :=
  wpList_b2 hg 36 x y hop _ _ _ hx hy (run_build36 nm hl ds p n c) hK
theorem wpList_bslice36 (hg : o.guard = none) (x : Operand) (hop : o.op = Op.buildSlice 22 1 #[(0, x)]) (y : It) (hl : y.name.length = 32) (hx : a.eval x = .agg y.cells.toArray)
    (hK : wpList Try.prog ops Q rest (a.put o.dst (.slice (some ⟨w.heap.size, 0, none⟩) 1 1)) (w.alloc (.cells y.cells.toArray 36))) : wpList Try.prog ops Q (o :: rest) a w := by
  refine wpList_plain hg fun K' hK' => ?_
  unfold Oper.wp execOp
  simp [hop, hx, run_bslice36 y hl, Result.andThen]
  exact hK' _ _ hK
theorem wpList_append_its (hg : o.guard = none) (s x : Operand) (hop : o.op = Op.call { callee := Callee.builtin Builtin.append, args := #[s, x], argTypes := #[22, 22] }) (B : Nat) (v : Value) (n : Nat) (cs : List Value) (oa : Option Addr) (m c : Nat) (qs : List Value) (hv : a.eval s = v) (hx : a.eval x = .slice oa m c)
    (hb : Bs 36 33 B w v n cs) (ho : Rd w 36 33 oa m qs) (hB : B ≤ w.heap.size) (hn : n + m ≤ 1000000)
    (hK : ∀ v' w', Bs 36 33 B w' v' (n + m) (cs ++ qs) → Below B w w' → wpList Try.prog ops Q rest (a.put o.dst v') w') : wpList Try.prog ops Q (o :: rest) a w := by
  obtain ⟨i, hi, hs1, hby, z, hz, hzs⟩ := info36'
  refine wpList_plain hg fun K' hK' => ?_
  obtain ⟨v', w', hrun, r1, r2⟩ := run_append_bs (P := Try.prog) w 22 o.type 36 i z 33 B Try.underlying22 hi hz hs1 (by omega) hzs (by omega) v n cs hb oa m c qs ho hB (by omega)
  unfold Oper.wp execOp
  simp only [hop, resolve, invoke, builtin, Sem.run_bind, Sem.run_pure, Result.andThen_ok, List.map_toArray, List.map_cons, List.map_nil, hv, hx, hrun]
  exact hK' _ _ (hK v' w' r1 r2)
end
def CC (ms : List It) : List Value := ms.flatMap It.cells
theorem CC_one (ms : List It) : ∀ v ∈ CC ms, v.oneCell' = true := by
  intro v hv
  obtain ⟨x, _, hx⟩ := List.mem_flatMap.1 hv
  exact cells_one x v hx
theorem CC_length {ms : List It} (h : ∀ x ∈ ms, x.name.length = 32) : (CC ms).length = ms.length * 33 := by
  induction ms with
  | nil => rfl
  | cons x ms ih =>
    unfold CC at *
    rw [List.flatMap_cons, List.length_append, ih (fun y hy => h y (by simp [hy])), x.cells_length (h x (by simp))]
    simp; omega
theorem rangeAt_CC {w : World} {g : Nat} : ∀ (ms : List It) (off : Nat), (∀ x ∈ ms, x.name.length = 32) → w.rangeAt g off (CC ms) → ∀ i x, ms[i]? = some x → w.rangeAt g (off + i * 33) x.cells
  | [], off, _, _, i, x, hi => by simp at hi
  | x :: ms, off, hl, h, i, y, hi => by
    have hx := x.cells_length (hl x (by simp))
    have e : CC (x :: ms) = x.cells ++ CC ms := by simp [CC]
    rw [e] at h
    cases i with
    | zero => simp at hi; subst hi; simpa using rangeAt_left h
    | succ i =>
      have h2 := rangeAt_right h
      rw [hx] at h2
      have := rangeAt_CC ms (off + 33) (fun y hy => hl y (by simp [hy])) h2 i y (by simpa using hi)
      rw [show off + (i + 1) * 33 = off + 33 + i * 33 by omega]
      exact this
/-- an item whose own hashes can be read -/
def ItOk (w : World) (x : It) : Prop := x.name.length = 32 ∧ HsR w x.a x.n x.deps ∧ x.n ≤ x.c ∧ x.n ≤ 140737488355328
theorem ItOk.below {w w' : World} {x : It} (h : ItOk w x) (hb : Below w.heap.size w w') : ItOk w' x := ⟨h.1, h.2.1.below hb, h.2.2⟩
/-- a row of items that was made -/
def MRow (w : World) (p : Option Addr) (n : Nat) (ms : List It) : Prop := ms.length = n ∧ Rd w 36 33 p n (CC ms) ∧ ∀ x ∈ ms, ItOk w x
theorem MRow.below {w w' : World} {p : Option Addr} {n : Nat} {ms : List It} (h : MRow w p n ms) (hb : Below w.heap.size w w') : MRow w' p n ms :=
  ⟨h.1, h.2.1.below hb (Nat.le_refl _), fun x hx => (h.2.2 x hx).below hb⟩
theorem MRow.nil (w : World) (p : Option Addr) : MRow w p 0 [] := ⟨rfl, Rd.nil _ _ _ _, by simp⟩
theorem MRow.its {w : World} {p : Option Addr} {n : Nat} {ms : List It} (h : MRow w p n ms) : Its w p n ms := by
  refine ⟨h.1, fun hp => ?_⟩
  obtain ⟨g, off, e, hr, hc⟩ := h.2.1.2.2 hp
  refine ⟨g, off, e, hr.lt, fun i x hi => ?_⟩
  have hk := h.2.2 x (List.mem_of_getElem? hi)
  exact ⟨hk.1, rangeAt_CC ms off (fun y hy => (h.2.2 y hy).1) (fun j v hj => hc j v hj) i x hi, hk.2⟩
/-- a new row of one item, full -/
theorem bs_new (w : World) (x : It) (hl : x.name.length = 32) (B : Nat) : Bs 36 33 B (w.alloc (.cells x.cells.toArray 36)) (.slice (some ⟨w.heap.size, 0, none⟩) 1 1) 1 x.cells := by
  refine .inl ⟨_, rfl, ⟨by rw [x.cells_length hl], cells_one x, fun _ => ⟨_, _, rfl, ?_, fun j u hj => ?_⟩⟩, .inr ⟨_, _, rfl⟩⟩
  · exact (Blk.new w x.cells.toArray 36).row
  · have := (Blk.new w x.cells.toArray 36).cell (i := 0 + j) (v := u) (by simpa using hj)
    exact this
#print axioms bs_new
#print axioms MRow.its
end Go.Proofs.Ytijkpkcopjkhkaa.Oct
