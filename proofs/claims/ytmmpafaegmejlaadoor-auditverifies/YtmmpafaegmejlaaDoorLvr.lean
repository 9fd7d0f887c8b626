/-
  Layer 19 (audit): the chapter's example: its drawn region.
-/
import Derived.Test.YtmmpafaegmejlaaDoorHld
namespace Go.Proofs.YtmmpafaegmejlaaDoor.Oct
open Go.RowKit Sha
set_option linter.unusedSimpArgs false
set_option linter.unusedVariables false

theorem fold_gen (o : Nat) : ∀ (ds : List Value) (k : Nat) (A : Array Value), o + k + ds.length ≤ A.size → (List.foldl (fun a (x : Value × Nat) => a.setIfInBounds (o + x.2) x.1) A (ds.zipIdx k)).toList = A.toList.take (o + k) ++ ds ++ A.toList.drop (o + k + ds.length)
  | [], k, A, h => by simp
  | c :: ds, k, A, h => by
    rw [List.zipIdx_cons, List.foldl_cons, fold_gen o ds (k + 1) _ (by simp at h ⊢; omega)]
    have hk : o + k < A.toList.length := by simp at h ⊢; omega
    simp only [Array.toList_setIfInBounds]
    rw [← Nat.add_assoc, List.take_succ_eq_append_getElem (by simpa using hk), List.take_set_of_le (Nat.le_refl _), List.drop_set_of_lt (by omega)]
    simp [Nat.add_assoc, Nat.add_comm 1]
theorem run_bs2 (cs ds : List Value) (hl : cs.length = 36) (hd : ds.length = 36) (W : World) :
    (Instr.buildSlice 27 2 #[(0, .agg cs.toArray), (1, .agg ds.toArray)]).run Tryd.prog W = .ok (.slice (some ⟨W.heap.size, 0, none⟩) 2 2) (W.alloc (.cells (cs ++ ds).toArray 37)) := by
  obtain ⟨i, z, hi, hz, hs1, hby, hzs⟩ := sized37
  have e1 : ∀ A : Array Value, A.size = 72 → (List.foldl (fun cs (x : Value × Nat) => cs.setIfInBounds x.2 x.1) A cs.zipIdx).toList = cs ++ A.toList.drop 36 := by
    intro A hA
    have := fold_gen 0 cs 0 A (by omega)
    simp only [Nat.zero_add, List.take_zero, List.nil_append, hl] at this
    exact this
  have e2 : ∀ A : Array Value, A.size = 72 → List.foldl (fun cs (x : Value × Nat) => cs.setIfInBounds (36 + x.2) x.1) (List.foldl (fun cs (x : Value × Nat) => cs.setIfInBounds x.2 x.1) A cs.zipIdx) ds.zipIdx = (cs ++ ds).toArray := by
    intro A hA
    apply Array.toList_inj.1
    have hs : (List.foldl (fun cs (x : Value × Nat) => cs.setIfInBounds x.2 x.1) A cs.zipIdx).size = 72 := by
      rw [← Array.length_toList, e1 A hA, List.length_append, List.length_drop, show A.toList.length = 72 from hA]; omega
    rw [fold_gen 36 ds 0 _ (by omega), e1 A hA]
    rw [List.take_left' hl, List.drop_of_length_le (by rw [List.length_append, List.length_drop, show A.toList.length = 72 from hA]; omega)]
    simp
  have e3 : ∀ A : Array Value, A.size = 72 → ¬ (List.foldl (fun cs (x : Value × Nat) => cs.setIfInBounds x.2 x.1) A cs.zipIdx).size < 72 := by
    intro A hA
    rw [← Array.length_toList, e1 A hA, List.length_append, List.length_drop, show A.toList.length = 72 from hA]; omega
  simp [Instr.buildSlice, run_underlying elem27, sizeOf, typeInfo, hi, hs1, zeroValue, hz, Instr.fill, Value.cells, hl, hd, hzs]
  rw [if_neg (e3 _ (by simp)), e2 _ (by simp)]
  simp [newRow]
def xA : En := ⟨1, 1, ⟨#[97, 110, 110]⟩, ⟨#[109, 97, 100, 101, 32, 111, 114, 103]⟩, List.replicate 32 0⟩
theorem run_buildX (W : World) : (Instr.build 37 #[(0, iv 1), (1, iv 1), (2, .string ⟨#[97, 110, 110]⟩), (3, .string ⟨#[109, 97, 100, 101, 32, 111, 114, 103]⟩)]).run Tryd.prog W = .ok (.agg xA.cells.toArray) W := by kernel_rfl
theorem xA_ok : xA.ok ∧ xA.sz := by
  refine ⟨⟨by simp [xA], by decide, by decide, by decide, by decide⟩, ?_⟩
  show (3 : Nat) + 8 ≤ 400000000
  decide
theorem nx1 : nxE [] 1 ⟨#[97, 110, 110]⟩ ⟨#[109, 97, 100, 101, 32, 111, 114, 103]⟩ = (xA, 0) := by
  unfold nxE
  rw [if_neg (by decide), if_neg (by decide)]
  rfl
def yA : En := ⟨2, 1, ⟨#[98, 111, 98]⟩, e0, dgE xA⟩
theorem yA_ok : yA.ok ∧ yA.sz := by
  refine ⟨⟨dgE_len xA, by show (2 : Int) ≤ _; decide, by show (1 : Int) ≤ _; decide, by show (3 : Nat) ≤ _; decide, by show (0 : Nat) ≤ _; decide⟩, ?_⟩
  show (3 : Nat) + 0 ≤ 400000000
  decide
theorem nx2 : nxE [xA] 1 ⟨#[98, 111, 98]⟩ e0 = (yA, 0) := by
  unfold nxE
  rw [if_neg (by show ¬ ((1 : Int) < 1 ∨ 1099511627776 < (1 : Int)); decide), if_neg (by show ¬ (16 < (⟨#[98, 111, 98]⟩ : BA).size ∨ 512 < e0.size ∨ 4096 ≤ 1); decide)]
  rfl
theorem vf1 : VfP [xA, yA] (-1) := by
  refine .inl ⟨rfl, fun i hi => ?_⟩
  match i, hi with
  | 0, _ => intro e he; cases he; exact nx1
  | 1, _ => intro e he; cases he; exact nx2
theorem vf2 : VfP [yA] 0 := by
  refine .inr ⟨0, rfl, by simp, fun h => ?_, fun j hj => absurd hj (by omega)⟩
  have := h yA rfl
  have h2 : (nxE [] yA.tick yA.who yA.what).1.seq = 1 := by
    show (nxE [] 1 ⟨#[98, 111, 98]⟩ e0).1.seq = 1
    unfold nxE
    rw [if_neg (by decide), if_neg (by decide)]
    rfl
  rw [show nxE ([yA].take 0) yA.tick yA.who yA.what = nxE [] yA.tick yA.who yA.what from rfl] at this
  rw [this] at h2
  exact absurd h2 (by show ¬ (2 : Int) = 1; decide)
#print axioms vf2
theorem step_bs2 {ops : Array Oper} {o : Oper} {a : Act} {w : World} {K : Act → World → Prop} {Q : Exit → Act → World → Prop} {E : Prop} (hw : Region.wanted o (yielded ops a.tmps) = true) (t : TypeId) (x y : Operand) (u u2 : Value) (hop : o.op = .buildSlice t 2 #[(0, x), (1, y)]) (hx : a.eval x = u) (hy : a.eval y = u2) {v : Value} {w' : World} (hrun : (Instr.buildSlice t 2 #[(0, u), (1, u2)]).run Tryd.prog w = .ok v w')
    (hk : K (a.put o.dst v) w') : if Region.wanted o (yielded ops a.tmps) = true then Oper.wp Tryd.prog o a w K Q else E := by
  rw [if_pos hw]
  unfold Oper.wp execOp
  simp [hop, hx, hy, hrun, Result.andThen]
  exact hk
theorem yl_eq37 {o : Oper} {a : Act} (V : World) (p q : Operand) (x y : Array Value) (E : Bool) (hop : o.op = .binOp .eql 37 p q 37) (hx : a.eval p = .agg x) (hy : a.eval q = .agg y) (h : ∀ W, (binOp .eql 37 (.agg x) (.agg y)).run Tryd.prog W = .ok (.bool E) W) : (execOp a.eval o).run Tryd.prog V = .ok (.value (.bool E)) V := by
  unfold execOp
  simp only [hop, hx, hy, Sem.run_bind, Sem.run_pure]
  have hg : (eqGuard BinOp.eql 37 p q (.agg x) (.agg y)).run Tryd.prog V = .ok () V := run_eqGuard_agg V .eql 37 p q x y (by kernel_rfl)
  rw [hg]
  simp only [Result.andThen_ok, h]
theorem yl_build4 {o : Oper} {a : Act} (V : World) (t : TypeId) (x0 x1 x2 x3 : Operand) (u0 u1 u2 u3 v : Value) (hop : o.op = .build t #[(0, x0), (1, x1), (2, x2), (3, x3)]) (h0 : a.eval x0 = u0) (h1 : a.eval x1 = u1) (h2 : a.eval x2 = u2) (h3 : a.eval x3 = u3)
    (hrun : ∀ W, (Instr.build t #[(0, u0), (1, u1), (2, u2), (3, u3)]).run Tryd.prog W = .ok v W) : (execOp a.eval o).run Tryd.prog V = .ok (.value v) V := by
  unfold execOp
  simp [hop, h0, h1, h2, h3, hrun, Result.andThen]
theorem esr_two {W : World} {b : Nat} {x y : En} (hx : x.ok) (hy : y.ok) (h : W.rangeAt b 0 (x.cells ++ y.cells)) (hb : b < W.heap.size) : EsR W (.slice (some ⟨b, 0, none⟩) 2 2) [x, y] := by
  have hok : ∀ e ∈ [x, y], e.ok := fun e he => by
    simp only [List.mem_cons, List.not_mem_nil, or_false] at he
    rcases he with rfl | rfl
    · exact hx
    · exact hy
  refine ⟨hok, some ⟨b, 0, none⟩, 2, rfl, Nat.le_refl _, by unfold maxLen; omega, fun _ => ⟨b, 0, rfl, hb, range_each hok ?_⟩⟩
  simpa [cellsE] using h
set_option maxRecDepth 100000 in
set_option maxHeartbeats 4000000 in
theorem lv4 {Q : Exit → Act → World → Prop} {x0 x1 x6 x7 x8 x9 x10 x11 x12 x13 x14 x15 x16 x17 x18 x19 x20 x21 x22 x23 x24 x25 x26 x27 x28 x29 x30 x31 x32 x33 x34 x35 x36 x37 x38 x39 x40 x41 x42 x43 x44 x45 x46 x47 x48 x49 x50 x51 : Value} {ds : List Deferred} {A : World} {p q : Nat} {x y : En} {D : List UInt8}
    (HP : Hid (Blk A p 37 x.cells ∧ Blk A q 37 y.cells)) (HX : Hid (x.ok ∧ y.ok ∧ D.length = 32 ∧ True)) (HRD : Hid (A.rangeAt q 4 (U D))) (HBX : Hid (∀ W, (Instr.build 37 #[(0, iv 1), (1, iv 1), (2, .string ⟨#[97, 110, 110]⟩), (3, .string ⟨#[109, 97, 100, 101, 32, 111, 114, 103]⟩)]).run Tryd.prog W = .ok (.agg x.cells.toArray) W)) (HEX : Hid (∀ W, (binOp .eql 37 (.agg x.cells.toArray) (.agg x.cells.toArray)).run Tryd.prog W = .ok (.bool true) W)) (HED : Hid (∀ W, (binOp .eql 35 (.agg (U D).toArray) (.agg (U D).toArray)).run Tryd.prog W = .ok (.bool true) W)) (HDG : Hid (∀ V, Below A.heap.size A V → Calls Tryd.prog 20 #[.agg x.cells.toArray] V fun e V2 => e = .returned (.agg (U D).toArray) ∧ Below V.heap.size V V2)) (HV1 : Hid (∀ V, Below A.heap.size A V → ∀ v, EsR V v [x, y] → Calls Tryd.prog 23 #[v] V fun e V2 => e = .returned (iv (-1)) ∧ Below V.heap.size V V2)) (HV2 : Hid (∀ V, Below A.heap.size A V → ∀ v, EsR V v [y] → Calls Tryd.prog 23 #[v] V fun e V2 => e = .returned (iv 0) ∧ Below V.heap.size V V2))
    (hQ : ∀ V1 n2 n1, Below A.heap.size A V1 → Q .normal { tmps := #[.bool true, x1, .pointer (some ⟨p, 0, none⟩), iv 0, .pointer (some ⟨q, 0, none⟩), iv 0, x6, x7, x8, x9, x10, x11, x12, x13, x14, x15, x16, iv 0, .bool true, .bool true, iv 0, .bool true, .bool true, .bool true, .agg x.cells.toArray, .agg x.cells.toArray, .bool true, .bool true, .bool true, .pointer (some ⟨q, 4, none⟩), .agg (U D).toArray, .agg x.cells.toArray, .agg (U D).toArray, .bool true, .bool true, .bool true, .agg x.cells.toArray, .agg y.cells.toArray, .slice (some ⟨n2, 0, none⟩) 2 2, iv (-1), .bool true, .bool true, .bool true, .agg y.cells.toArray, .slice (some ⟨n1, 0, none⟩) 1 1, iv 0, .bool true, .bool true, .bool true, .bool true, .bool true, .bool true], defers := ds } V1) :
    (Code.region 4 #[{ dst := some 17, op := Op.move (Operand.tmp 3), type := 30, pos := "law.go:15", after := #[], guard := none }, { dst := some 18, op := Op.binOp BinOp.eql 30 (Operand.tmp 17) (Operand.const (Value.int IntKind.i64 0)) 30, type := 4, pos := "law.go:15", after := #[{ on := 0, ground := Ground.data }], guard := none }, { dst := some 19, op := Op.move (Operand.tmp 18), type := 4, pos := "law.go:15", after := #[{ on := 1, ground := Ground.data }], guard := none }, { dst := some 20, op := Op.move (Operand.tmp 5), type := 30, pos := "law.go:15", after := #[{ on := 2, ground := Ground.guard }], guard := some (2, true) }, { dst := some 21, op := Op.binOp BinOp.eql 30 (Operand.tmp 20) (Operand.const (Value.int IntKind.i64 0)) 30, type := 4, pos := "law.go:15", after := #[{ on := 3, ground := Ground.data }, { on := 2, ground := Ground.guard }], guard := some (2, true) }, { dst := some 22, op := Op.pick (Operand.tmp 19) (Operand.tmp 21) (Operand.const (Value.bool false)), type := 4, pos := "law.go:15", after := #[{ on := 2, ground := Ground.data }, { on := 4, ground := Ground.data }], guard := none }, { dst := some 23, op := Op.move (Operand.tmp 22), type := 4, pos := "law.go:15", after := #[{ on := 5, ground := Ground.data }, { on := 2, ground := Ground.chain }], guard := none }, { dst := some 24, op := Op.load 37 (Operand.tmp 2), type := 37, pos := "law.go:15", after := #[{ on := 6, ground := Ground.guard }], guard := some (6, true) }, { dst := some 25, op := Op.build 37 #[(0, Operand.const (Value.int IntKind.i64 1)), (1, Operand.const (Value.int IntKind.i64 1)), (2, Operand.const (Value.string { data := #[97, 110, 110] })), (3, Operand.const (Value.string { data := #[109, 97, 100, 101, 32, 111, 114, 103] }))], type := 37, pos := "law.go:15", after := #[{ on := 6, ground := Ground.guard }], guard := some (6, true) }, { dst := some 26, op := Op.binOp BinOp.eql 37 (Operand.tmp 24) (Operand.tmp 25) 37, type := 4, pos := "law.go:15", after := #[{ on := 7, ground := Ground.data }, { on := 8, ground := Ground.data }, { on := 6, ground := Ground.guard }], guard := some (6, true) }, { dst := some 27, op := Op.pick (Operand.tmp 23) (Operand.tmp 26) (Operand.const (Value.bool false)), type := 4, pos := "law.go:15", after := #[{ on := 6, ground := Ground.data }, { on := 9, ground := Ground.data }], guard := none }, { dst := some 28, op := Op.move (Operand.tmp 27), type := 4, pos := "law.go:15", after := #[{ on := 10, ground := Ground.data }, { on := 6, ground := Ground.chain }], guard := none }, { dst := some 29, op := Op.fieldAddr 37 (Operand.tmp 4) 4, type := 0, pos := "law.go:15", after := #[{ on := 11, ground := Ground.guard }], guard := some (11, true) }, { dst := some 30, op := Op.load 35 (Operand.tmp 29), type := 35, pos := "law.go:15", after := #[{ on := 12, ground := Ground.data }, { on := 11, ground := Ground.guard }], guard := some (11, true) }, { dst := some 31, op := Op.load 37 (Operand.tmp 2), type := 37, pos := "law.go:15", after := #[{ on := 11, ground := Ground.guard }], guard := some (11, true) }, { dst := some 32, op := Op.call { callee := Callee.value (Operand.func 20), args := #[Operand.tmp 31], argTypes := #[37] }, type := 35, pos := "law.go:15", after := #[{ on := 14, ground := Ground.data }, { on := 11, ground := Ground.chain }, { on := 11, ground := Ground.guard }], guard := some (11, true) }, { dst := some 33, op := Op.binOp BinOp.eql 35 (Operand.tmp 30) (Operand.tmp 32) 35, type := 4, pos := "law.go:15", after := #[{ on := 13, ground := Ground.data }, { on := 15, ground := Ground.data }, { on := 11, ground := Ground.guard }], guard := some (11, true) }, { dst := some 34, op := Op.pick (Operand.tmp 28) (Operand.tmp 33) (Operand.const (Value.bool false)), type := 4, pos := "law.go:15", after := #[{ on := 11, ground := Ground.data }, { on := 16, ground := Ground.data }], guard := none }, { dst := some 35, op := Op.move (Operand.tmp 34), type := 4, pos := "law.go:15", after := #[{ on := 17, ground := Ground.data }, { on := 15, ground := Ground.chain }], guard := none }, { dst := some 36, op := Op.load 37 (Operand.tmp 2), type := 37, pos := "law.go:15", after := #[{ on := 18, ground := Ground.guard }], guard := some (18, true) }, { dst := some 37, op := Op.load 37 (Operand.tmp 4), type := 37, pos := "law.go:15", after := #[{ on := 18, ground := Ground.guard }], guard := some (18, true) }, { dst := some 38, op := Op.buildSlice 27 2 #[(0, Operand.tmp 36), (1, Operand.tmp 37)], type := 27, pos := "law.go:15", after := #[{ on := 19, ground := Ground.data }, { on := 20, ground := Ground.data }, { on := 18, ground := Ground.guard }], guard := some (18, true) }, { dst := some 39, op := Op.call { callee := Callee.value (Operand.func 23), args := #[Operand.tmp 38], argTypes := #[27] }, type := 3, pos := "law.go:15", after := #[{ on := 21, ground := Ground.data }, { on := 18, ground := Ground.chain }, { on := 18, ground := Ground.guard }], guard := some (18, true) }, { dst := some 40, op := Op.binOp BinOp.eql 3 (Operand.tmp 39) (Operand.const (Value.int IntKind.i64 (-1))) 3, type := 4, pos := "law.go:15", after := #[{ on := 22, ground := Ground.data }, { on := 18, ground := Ground.guard }], guard := some (18, true) }, { dst := some 41, op := Op.pick (Operand.tmp 35) (Operand.tmp 40) (Operand.const (Value.bool false)), type := 4, pos := "law.go:15", after := #[{ on := 18, ground := Ground.data }, { on := 23, ground := Ground.data }], guard := none }, { dst := some 42, op := Op.move (Operand.tmp 41), type := 4, pos := "law.go:15", after := #[{ on := 24, ground := Ground.data }, { on := 22, ground := Ground.chain }], guard := none }, { dst := some 43, op := Op.load 37 (Operand.tmp 4), type := 37, pos := "law.go:15", after := #[{ on := 25, ground := Ground.guard }], guard := some (25, true) }, { dst := some 44, op := Op.buildSlice 27 1 #[(0, Operand.tmp 43)], type := 27, pos := "law.go:15", after := #[{ on := 26, ground := Ground.data }, { on := 25, ground := Ground.guard }], guard := some (25, true) }, { dst := some 45, op := Op.call { callee := Callee.value (Operand.func 23), args := #[Operand.tmp 44], argTypes := #[27] }, type := 3, pos := "law.go:15", after := #[{ on := 27, ground := Ground.data }, { on := 25, ground := Ground.chain }, { on := 25, ground := Ground.guard }], guard := some (25, true) }, { dst := some 46, op := Op.binOp BinOp.eql 3 (Operand.tmp 45) (Operand.const (Value.int IntKind.i64 0)) 3, type := 4, pos := "law.go:15", after := #[{ on := 28, ground := Ground.data }, { on := 25, ground := Ground.guard }], guard := some (25, true) }, { dst := some 47, op := Op.pick (Operand.tmp 42) (Operand.tmp 46) (Operand.const (Value.bool false)), type := 4, pos := "law.go:15", after := #[{ on := 25, ground := Ground.data }, { on := 29, ground := Ground.data }], guard := none }, { dst := some 48, op := Op.move (Operand.tmp 47), type := 4, pos := "law.go:15", after := #[{ on := 30, ground := Ground.data }, { on := 28, ground := Ground.chain }], guard := none }, { dst := some 49, op := Op.pick (Operand.tmp 48) (Operand.const (Value.bool true)) (Operand.const (Value.bool false)), type := 4, pos := "law.go:15", after := #[{ on := 31, ground := Ground.data }], guard := none }, { dst := some 50, op := Op.move (Operand.tmp 49), type := 4, pos := "law.go:15", after := #[{ on := 32, ground := Ground.data }, { on := 31, ground := Ground.chain }], guard := none }, { dst := some 51, op := Op.pick (Operand.tmp 50) (Operand.const (Value.bool true)) (Operand.const (Value.bool false)), type := 4, pos := "law.go:15", after := #[{ on := 33, ground := Ground.data }], guard := none }, { dst := some 0, op := Op.assign (Operand.tmp 51), type := 4, pos := "law.go:15", after := #[{ on := 34, ground := Ground.data }, { on := 33, ground := Ground.chain }, { on := 0, ground := Ground.phase }, { on := 1, ground := Ground.phase }, { on := 2, ground := Ground.phase }, { on := 3, ground := Ground.phase }, { on := 4, ground := Ground.phase }, { on := 5, ground := Ground.phase }, { on := 6, ground := Ground.phase }, { on := 7, ground := Ground.phase }, { on := 8, ground := Ground.phase }, { on := 9, ground := Ground.phase }, { on := 10, ground := Ground.phase }, { on := 11, ground := Ground.phase }, { on := 12, ground := Ground.phase }, { on := 13, ground := Ground.phase }, { on := 14, ground := Ground.phase }, { on := 15, ground := Ground.phase }, { on := 16, ground := Ground.phase }, { on := 17, ground := Ground.phase }, { on := 18, ground := Ground.phase }, { on := 19, ground := Ground.phase }, { on := 20, ground := Ground.phase }, { on := 21, ground := Ground.phase }, { on := 22, ground := Ground.phase }, { on := 23, ground := Ground.phase }, { on := 24, ground := Ground.phase }, { on := 25, ground := Ground.phase }, { on := 26, ground := Ground.phase }, { on := 27, ground := Ground.phase }, { on := 28, ground := Ground.phase }, { on := 29, ground := Ground.phase }, { on := 30, ground := Ground.phase }, { on := 31, ground := Ground.phase }, { on := 32, ground := Ground.phase }, { on := 33, ground := Ground.phase }, { on := 34, ground := Ground.phase }], guard := none }] true).wp Tryd.prog Q { tmps := #[x0, x1, .pointer (some ⟨p, 0, none⟩), iv 0, .pointer (some ⟨q, 0, none⟩), iv 0, x6, x7, x8, x9, x10, x11, x12, x13, x14, x15, x16, x17, x18, x19, x20, x21, x22, x23, x24, x25, x26, x27, x28, x29, x30, x31, x32, x33, x34, x35, x36, x37, x38, x39, x40, x41, x42, x43, x44, x45, x46, x47, x48, x49, x50, x51], defers := ds } A := by
  refine Code.wp_mono (Q := fun x a' w' => match x with | .normal => Q .normal a' w' | _ => False) (by intro x a' w' h; cases x <;> first | exact h | exact h.elim) ?_
  refine wp_region_held (S := fun V => Below A.heap.size A V) (by kernel_rfl) ?_
  have hS0 : Hid (Below A.heap.size A A.drew) := below_drew0 A
  change wpAnyH Tryd.prog .any _ _ (fun V => Below A.heap.size A V) 36 (Array.replicate 36 false) _ A.drew
  obtain ⟨V0, hV0⟩ : ∃ V0, A.drew = V0 := ⟨_, rfl⟩
  rw [hV0]
  rw [hV0] at hS0
  clear hV0
  refine wpAnyH_take (i := 0) (oi := { dst := some 17, op := Op.move (Operand.tmp 3), type := 30, pos := "law.go:15", after := #[], guard := none }) (v := iv 0) rfl (by kernel_rfl) (by kernel_rfl) (by kernel_rfl) (fun _ _ _ h => h.elim) (Or.inl ⟨by rfl, ?y1⟩) hS0.out ?_
  case y1 =>
    intro V hV
    go_simp
  simp only [Act.put, List.setIfInBounds_toArray, List.set_cons_zero, List.set_cons_succ]
  refine wpAnyH_take (i := 1) (oi := { dst := some 18, op := Op.binOp BinOp.eql 30 (Operand.tmp 17) (Operand.const (Value.int IntKind.i64 0)) 30, type := 4, pos := "law.go:15", after := #[{ on := 0, ground := Ground.data }], guard := none }) (v := .bool true) rfl (by kernel_rfl) (by kernel_rfl) (by kernel_rfl) (fun _ _ _ h => h.elim) (Or.inl ⟨by rfl, ?y2⟩) hS0.out ?_
  case y2 =>
    intro V hV
    go_simp
  simp only [Act.put, List.setIfInBounds_toArray, List.set_cons_zero, List.set_cons_succ]
  refine wpAnyH_take (i := 2) (oi := { dst := some 19, op := Op.move (Operand.tmp 18), type := 4, pos := "law.go:15", after := #[{ on := 1, ground := Ground.data }], guard := none }) (v := .bool true) rfl (by kernel_rfl) (by kernel_rfl) (by kernel_rfl) (fun _ _ _ h => h.elim) (Or.inl ⟨by rfl, ?y3⟩) hS0.out ?_
  case y3 =>
    intro V hV
    go_simp
  simp only [Act.put, List.setIfInBounds_toArray, List.set_cons_zero, List.set_cons_succ]
  refine wpAnyH_take (i := 3) (oi := { dst := some 20, op := Op.move (Operand.tmp 5), type := 30, pos := "law.go:15", after := #[{ on := 2, ground := Ground.guard }], guard := some (2, true) }) (v := iv 0) rfl (by kernel_rfl) (by kernel_rfl) (by kernel_rfl) (fun _ _ _ h => h.elim) (Or.inl ⟨by rfl, ?y4⟩) hS0.out ?_
  case y4 =>
    intro V hV
    go_simp
  simp only [Act.put, List.setIfInBounds_toArray, List.set_cons_zero, List.set_cons_succ]
  refine wpAnyH_take (i := 4) (oi := { dst := some 21, op := Op.binOp BinOp.eql 30 (Operand.tmp 20) (Operand.const (Value.int IntKind.i64 0)) 30, type := 4, pos := "law.go:15", after := #[{ on := 3, ground := Ground.data }, { on := 2, ground := Ground.guard }], guard := some (2, true) }) (v := .bool true) rfl (by kernel_rfl) (by kernel_rfl) (by kernel_rfl) (fun _ _ _ h => h.elim) (Or.inl ⟨by rfl, ?y5⟩) hS0.out ?_
  case y5 =>
    intro V hV
    go_simp
  simp only [Act.put, List.setIfInBounds_toArray, List.set_cons_zero, List.set_cons_succ]
  refine wpAnyH_take (i := 5) (oi := { dst := some 22, op := Op.pick (Operand.tmp 19) (Operand.tmp 21) (Operand.const (Value.bool false)), type := 4, pos := "law.go:15", after := #[{ on := 2, ground := Ground.data }, { on := 4, ground := Ground.data }], guard := none }) (v := .bool true) rfl (by kernel_rfl) (by kernel_rfl) (by kernel_rfl) (fun _ _ _ h => h.elim) (Or.inl ⟨by rfl, ?y6⟩) hS0.out ?_
  case y6 =>
    intro V hV
    go_simp
  simp only [Act.put, List.setIfInBounds_toArray, List.set_cons_zero, List.set_cons_succ]
  refine wpAnyH_take (i := 6) (oi := { dst := some 23, op := Op.move (Operand.tmp 22), type := 4, pos := "law.go:15", after := #[{ on := 5, ground := Ground.data }, { on := 2, ground := Ground.chain }], guard := none }) (v := .bool true) rfl (by kernel_rfl) (by kernel_rfl) (by kernel_rfl) (fun _ _ _ h => h.elim) (Or.inl ⟨by rfl, ?y7⟩) hS0.out ?_
  case y7 =>
    intro V hV
    go_simp
  simp only [Act.put, List.setIfInBounds_toArray, List.set_cons_zero, List.set_cons_succ]
  refine wpAnyH_take (i := 7) (oi := { dst := some 24, op := Op.load 37 (Operand.tmp 2), type := 37, pos := "law.go:15", after := #[{ on := 6, ground := Ground.guard }], guard := some (6, true) }) (v := .agg x.cells.toArray) rfl (by kernel_rfl) (by kernel_rfl) (by kernel_rfl) (fun _ _ _ h => h.elim) (yieldsIf_load_mid (by rfl) _ _ rfl _ _ rfl (x.cells) _ (fun V hV => rangeAt_same (HP.out.1.range0) ((show Below A.heap.size A V from hV).block _ (HP.out.1.lt))) Tryd.underlying37 rfl (info37 HX.out.1)) hS0.out ?_
  simp only [Act.put, List.setIfInBounds_toArray, List.set_cons_zero, List.set_cons_succ]
  refine wpAnyH_take (i := 8) (oi := { dst := some 25, op := Op.build 37 #[(0, Operand.const (Value.int IntKind.i64 1)), (1, Operand.const (Value.int IntKind.i64 1)), (2, Operand.const (Value.string { data := #[97, 110, 110] })), (3, Operand.const (Value.string { data := #[109, 97, 100, 101, 32, 111, 114, 103] }))], type := 37, pos := "law.go:15", after := #[{ on := 6, ground := Ground.guard }], guard := some (6, true) }) (v := .agg x.cells.toArray) rfl (by kernel_rfl) (by kernel_rfl) (by kernel_rfl) (fun _ _ _ h => h.elim) (Or.inl ⟨by rfl, ?y8⟩) hS0.out ?_
  case y8 =>
    intro V hV
    exact yl_build4 V 37 _ _ _ _ _ _ _ _ _ rfl rfl rfl rfl rfl HBX.out
  simp only [Act.put, List.setIfInBounds_toArray, List.set_cons_zero, List.set_cons_succ]
  refine wpAnyH_take (i := 9) (oi := { dst := some 26, op := Op.binOp BinOp.eql 37 (Operand.tmp 24) (Operand.tmp 25) 37, type := 4, pos := "law.go:15", after := #[{ on := 7, ground := Ground.data }, { on := 8, ground := Ground.data }, { on := 6, ground := Ground.guard }], guard := some (6, true) }) (v := .bool true) rfl (by kernel_rfl) (by kernel_rfl) (by kernel_rfl) (fun _ _ _ h => h.elim) (Or.inl ⟨by rfl, ?y9⟩) hS0.out ?_
  case y9 =>
    intro V hV
    exact yl_eq37 V _ _ _ _ _ rfl rfl rfl HEX.out
  simp only [Act.put, List.setIfInBounds_toArray, List.set_cons_zero, List.set_cons_succ]
  refine wpAnyH_take (i := 10) (oi := { dst := some 27, op := Op.pick (Operand.tmp 23) (Operand.tmp 26) (Operand.const (Value.bool false)), type := 4, pos := "law.go:15", after := #[{ on := 6, ground := Ground.data }, { on := 9, ground := Ground.data }], guard := none }) (v := .bool true) rfl (by kernel_rfl) (by kernel_rfl) (by kernel_rfl) (fun _ _ _ h => h.elim) (Or.inl ⟨by rfl, ?y10⟩) hS0.out ?_
  case y10 =>
    intro V hV
    go_simp
  simp only [Act.put, List.setIfInBounds_toArray, List.set_cons_zero, List.set_cons_succ]
  refine wpAnyH_take (i := 11) (oi := { dst := some 28, op := Op.move (Operand.tmp 27), type := 4, pos := "law.go:15", after := #[{ on := 10, ground := Ground.data }, { on := 6, ground := Ground.chain }], guard := none }) (v := .bool true) rfl (by kernel_rfl) (by kernel_rfl) (by kernel_rfl) (fun _ _ _ h => h.elim) (Or.inl ⟨by rfl, ?y11⟩) hS0.out ?_
  case y11 =>
    intro V hV
    go_simp
  simp only [Act.put, List.setIfInBounds_toArray, List.set_cons_zero, List.set_cons_succ]
  refine wpAnyH_take (i := 12) (oi := { dst := some 29, op := Op.fieldAddr 37 (Operand.tmp 4) 4, type := 0, pos := "law.go:15", after := #[{ on := 11, ground := Ground.guard }], guard := some (11, true) }) (v := .pointer (some ⟨q, 4, none⟩)) rfl (by kernel_rfl) (by kernel_rfl) (by kernel_rfl) (fun _ _ _ h => h.elim) (Or.inl ⟨by rfl, ?y12⟩) hS0.out ?_
  case y12 =>
    intro V hV
    go_simp
  simp only [Act.put, List.setIfInBounds_toArray, List.set_cons_zero, List.set_cons_succ]
  refine wpAnyH_take (i := 13) (oi := { dst := some 30, op := Op.load 35 (Operand.tmp 29), type := 35, pos := "law.go:15", after := #[{ on := 12, ground := Ground.data }, { on := 11, ground := Ground.guard }], guard := some (11, true) }) (v := .agg (U D).toArray) rfl (by kernel_rfl) (by kernel_rfl) (by kernel_rfl) (fun _ _ _ h => h.elim) (yieldsIf_load_mid (by rfl) _ _ rfl _ _ rfl (U D) _ (fun V hV => rangeAt_same (HRD.out) ((show Below A.heap.size A V from hV).block _ (HP.out.2.lt))) Tryd.underlying35 rfl ((by rw [U_length, HX.out.2.2.1]; exact size35))) hS0.out ?_
  simp only [Act.put, List.setIfInBounds_toArray, List.set_cons_zero, List.set_cons_succ]
  refine wpAnyH_take (i := 14) (oi := { dst := some 31, op := Op.load 37 (Operand.tmp 2), type := 37, pos := "law.go:15", after := #[{ on := 11, ground := Ground.guard }], guard := some (11, true) }) (v := .agg x.cells.toArray) rfl (by kernel_rfl) (by kernel_rfl) (by kernel_rfl) (fun _ _ _ h => h.elim) (yieldsIf_load_mid (by rfl) _ _ rfl _ _ rfl (x.cells) _ (fun V hV => rangeAt_same (HP.out.1.range0) ((show Below A.heap.size A V from hV).block _ (HP.out.1.lt))) Tryd.underlying37 rfl (info37 HX.out.1)) hS0.out ?_
  simp only [Act.put, List.setIfInBounds_toArray, List.set_cons_zero, List.set_cons_succ]
  refine wpAnyH_ready (rs := [15]) (by kernel_rfl) (by simp) (AllReadyH.cons (i := 15) (o := { dst := some 32, op := Op.call { callee := Callee.value (Operand.func 20), args := #[Operand.tmp 31], argTypes := #[37] }, type := 35, pos := "law.go:15", after := #[{ on := 14, ground := Ground.data }, { on := 11, ground := Ground.chain }, { on := 11, ground := Ground.guard }], guard := some (11, true) }) rfl ?_ AllReadyH.nil)
  · intro K1 hK1
    rw [if_pos (by rfl)]
    have HC1 := HDG.out V0 hS0.out
    go_wp2_with fail
    refine HC1.mono ?_
    rintro e V1 ⟨rfl, hb1⟩
    dsimp only
    clear HC1
    have hS1 : Hid (Below A.heap.size A V1) := hS0.out.trans (hb1.mono hS0.out.size)
    clear hb1
    refine hK1.out _ _ hS1.out ?_
    clear hK1
    intro _
    try simp only [Act.put, List.setIfInBounds_toArray, List.set_cons_zero, List.set_cons_succ]
    refine wpAnyH_take (i := 16) (oi := { dst := some 33, op := Op.binOp BinOp.eql 35 (Operand.tmp 30) (Operand.tmp 32) 35, type := 4, pos := "law.go:15", after := #[{ on := 13, ground := Ground.data }, { on := 15, ground := Ground.data }, { on := 11, ground := Ground.guard }], guard := some (11, true) }) (v := .bool true) rfl (by kernel_rfl) (by kernel_rfl) (by kernel_rfl) (fun _ _ _ h => h.elim) (Or.inl ⟨by rfl, ?y13⟩) hS1.out ?_
    case y13 =>
      intro V hV
      exact yl_eq35 V _ _ _ _ _ rfl rfl rfl HED.out
    simp only [Act.put, List.setIfInBounds_toArray, List.set_cons_zero, List.set_cons_succ]
    refine wpAnyH_take (i := 17) (oi := { dst := some 34, op := Op.pick (Operand.tmp 28) (Operand.tmp 33) (Operand.const (Value.bool false)), type := 4, pos := "law.go:15", after := #[{ on := 11, ground := Ground.data }, { on := 16, ground := Ground.data }], guard := none }) (v := .bool true) rfl (by kernel_rfl) (by kernel_rfl) (by kernel_rfl) (fun _ _ _ h => h.elim) (Or.inl ⟨by rfl, ?y14⟩) hS1.out ?_
    case y14 =>
      intro V hV
      go_simp
    simp only [Act.put, List.setIfInBounds_toArray, List.set_cons_zero, List.set_cons_succ]
    refine wpAnyH_take (i := 18) (oi := { dst := some 35, op := Op.move (Operand.tmp 34), type := 4, pos := "law.go:15", after := #[{ on := 17, ground := Ground.data }, { on := 15, ground := Ground.chain }], guard := none }) (v := .bool true) rfl (by kernel_rfl) (by kernel_rfl) (by kernel_rfl) (fun _ _ _ h => h.elim) (Or.inl ⟨by rfl, ?y15⟩) hS1.out ?_
    case y15 =>
      intro V hV
      go_simp
    simp only [Act.put, List.setIfInBounds_toArray, List.set_cons_zero, List.set_cons_succ]
    refine wpAnyH_take (i := 19) (oi := { dst := some 36, op := Op.load 37 (Operand.tmp 2), type := 37, pos := "law.go:15", after := #[{ on := 18, ground := Ground.guard }], guard := some (18, true) }) (v := .agg x.cells.toArray) rfl (by kernel_rfl) (by kernel_rfl) (by kernel_rfl) (fun _ _ _ h => h.elim) (yieldsIf_load_mid (by rfl) _ _ rfl _ _ rfl (x.cells) _ (fun V hV => rangeAt_same (HP.out.1.range0) ((show Below A.heap.size A V from hV).block _ (HP.out.1.lt))) Tryd.underlying37 rfl (info37 HX.out.1)) hS1.out ?_
    simp only [Act.put, List.setIfInBounds_toArray, List.set_cons_zero, List.set_cons_succ]
    refine wpAnyH_take (i := 20) (oi := { dst := some 37, op := Op.load 37 (Operand.tmp 4), type := 37, pos := "law.go:15", after := #[{ on := 18, ground := Ground.guard }], guard := some (18, true) }) (v := .agg y.cells.toArray) rfl (by kernel_rfl) (by kernel_rfl) (by kernel_rfl) (fun _ _ _ h => h.elim) (yieldsIf_load_mid (by rfl) _ _ rfl _ _ rfl (y.cells) _ (fun V hV => rangeAt_same (HP.out.2.range0) ((show Below A.heap.size A V from hV).block _ (HP.out.2.lt))) Tryd.underlying37 rfl (info37 HX.out.2.1)) hS1.out ?_
    simp only [Act.put, List.setIfInBounds_toArray, List.set_cons_zero, List.set_cons_succ]
    refine wpAnyH_ready (rs := [21]) (by kernel_rfl) (by simp) (AllReadyH.cons (i := 21) (o := { dst := some 38, op := Op.buildSlice 27 2 #[(0, Operand.tmp 36), (1, Operand.tmp 37)], type := 27, pos := "law.go:15", after := #[{ on := 19, ground := Ground.data }, { on := 20, ground := Ground.data }, { on := 18, ground := Ground.guard }], guard := some (18, true) }) rfl ?_ AllReadyH.nil)
    · intro K1 hK1
      refine step_bs2 (by rfl) 27 (.tmp 36) (.tmp 37) _ _ rfl rfl rfl (run_bs2 x.cells y.cells (En.len HX.out.1) (En.len HX.out.2.1) _) ?_
      obtain ⟨V2, hv2⟩ : ∃ V, V1.alloc (.cells (x.cells ++ y.cells).toArray 37) = V := ⟨_, rfl⟩
      obtain ⟨q2, hq2⟩ : ∃ m, V1.heap.size = m := ⟨_, rfl⟩
      have hS2 : Hid (Below A.heap.size A V2) := by rw [← hv2]; exact below_tr hS1.out (below_al _ _)
      have hR2 : Hid (EsR V2 (.slice (some ⟨q2, 0, none⟩) 2 2) [x, y]) := by rw [← hv2, ← hq2]; exact esr_two HX.out.1 HX.out.2.1 (Blk.new V1 _ _).range0 (Blk.new V1 _ _).lt
      rw [hv2, hq2]
      clear hv2 hq2
      refine hK1.out _ _ hS2.out ?_
      clear hK1
      intro _
      try simp only [Act.put, List.setIfInBounds_toArray, List.set_cons_zero, List.set_cons_succ]
      refine wpAnyH_ready (rs := [22]) (by kernel_rfl) (by simp) (AllReadyH.cons (i := 22) (o := { dst := some 39, op := Op.call { callee := Callee.value (Operand.func 23), args := #[Operand.tmp 38], argTypes := #[27] }, type := 3, pos := "law.go:15", after := #[{ on := 21, ground := Ground.data }, { on := 18, ground := Ground.chain }, { on := 18, ground := Ground.guard }], guard := some (18, true) }) rfl ?_ AllReadyH.nil)
      · intro K1 hK1
        rw [if_pos (by rfl)]
        have HC3 := HV1.out V2 hS2.out _ hR2.out
        go_wp2_with fail
        refine HC3.mono ?_
        rintro e V3 ⟨rfl, hb3⟩
        dsimp only
        clear HC3
        have hS3 : Hid (Below A.heap.size A V3) := hS2.out.trans (hb3.mono hS2.out.size)
        clear hb3
        refine hK1.out _ _ hS3.out ?_
        clear hK1
        intro _
        try simp only [Act.put, List.setIfInBounds_toArray, List.set_cons_zero, List.set_cons_succ]
        refine wpAnyH_take (i := 23) (oi := { dst := some 40, op := Op.binOp BinOp.eql 3 (Operand.tmp 39) (Operand.const (Value.int IntKind.i64 (-1))) 3, type := 4, pos := "law.go:15", after := #[{ on := 22, ground := Ground.data }, { on := 18, ground := Ground.guard }], guard := some (18, true) }) (v := .bool true) rfl (by kernel_rfl) (by kernel_rfl) (by kernel_rfl) (fun _ _ _ h => h.elim) (Or.inl ⟨by rfl, ?y16⟩) hS3.out ?_
        case y16 =>
          intro V hV
          go_simp
        simp only [Act.put, List.setIfInBounds_toArray, List.set_cons_zero, List.set_cons_succ]
        refine wpAnyH_take (i := 24) (oi := { dst := some 41, op := Op.pick (Operand.tmp 35) (Operand.tmp 40) (Operand.const (Value.bool false)), type := 4, pos := "law.go:15", after := #[{ on := 18, ground := Ground.data }, { on := 23, ground := Ground.data }], guard := none }) (v := .bool true) rfl (by kernel_rfl) (by kernel_rfl) (by kernel_rfl) (fun _ _ _ h => h.elim) (Or.inl ⟨by rfl, ?y17⟩) hS3.out ?_
        case y17 =>
          intro V hV
          go_simp
        simp only [Act.put, List.setIfInBounds_toArray, List.set_cons_zero, List.set_cons_succ]
        refine wpAnyH_take (i := 25) (oi := { dst := some 42, op := Op.move (Operand.tmp 41), type := 4, pos := "law.go:15", after := #[{ on := 24, ground := Ground.data }, { on := 22, ground := Ground.chain }], guard := none }) (v := .bool true) rfl (by kernel_rfl) (by kernel_rfl) (by kernel_rfl) (fun _ _ _ h => h.elim) (Or.inl ⟨by rfl, ?y18⟩) hS3.out ?_
        case y18 =>
          intro V hV
          go_simp
        simp only [Act.put, List.setIfInBounds_toArray, List.set_cons_zero, List.set_cons_succ]
        refine wpAnyH_take (i := 26) (oi := { dst := some 43, op := Op.load 37 (Operand.tmp 4), type := 37, pos := "law.go:15", after := #[{ on := 25, ground := Ground.guard }], guard := some (25, true) }) (v := .agg y.cells.toArray) rfl (by kernel_rfl) (by kernel_rfl) (by kernel_rfl) (fun _ _ _ h => h.elim) (yieldsIf_load_mid (by rfl) _ _ rfl _ _ rfl (y.cells) _ (fun V hV => rangeAt_same (HP.out.2.range0) ((show Below A.heap.size A V from hV).block _ (HP.out.2.lt))) Tryd.underlying37 rfl (info37 HX.out.2.1)) hS3.out ?_
        simp only [Act.put, List.setIfInBounds_toArray, List.set_cons_zero, List.set_cons_succ]
        refine wpAnyH_ready (rs := [27]) (by kernel_rfl) (by simp) (AllReadyH.cons (i := 27) (o := { dst := some 44, op := Op.buildSlice 27 1 #[(0, Operand.tmp 43)], type := 27, pos := "law.go:15", after := #[{ on := 26, ground := Ground.data }, { on := 25, ground := Ground.guard }], guard := some (25, true) }) rfl ?_ AllReadyH.nil)
        · intro K1 hK1
          refine step_bs (by rfl) 27 (.tmp 43) _ rfl rfl (run_bs1 y.cells (En.len HX.out.2.1) _) ?_
          obtain ⟨V4, hv4⟩ : ∃ V, V3.alloc (.cells y.cells.toArray 37) = V := ⟨_, rfl⟩
          obtain ⟨q4, hq4⟩ : ∃ m, V3.heap.size = m := ⟨_, rfl⟩
          have hS4 : Hid (Below A.heap.size A V4) := by rw [← hv4]; exact below_tr hS3.out (below_al _ _)
          have hR4 : Hid (EsR V4 (.slice (some ⟨q4, 0, none⟩) 1 1) [y]) := by rw [← hv4, ← hq4]; exact esr_one HX.out.2.1 (Blk.new V3 _ _).range0 (Blk.new V3 _ _).lt
          rw [hv4, hq4]
          clear hv4 hq4
          refine hK1.out _ _ hS4.out ?_
          clear hK1
          intro _
          try simp only [Act.put, List.setIfInBounds_toArray, List.set_cons_zero, List.set_cons_succ]
          refine wpAnyH_ready (rs := [28]) (by kernel_rfl) (by simp) (AllReadyH.cons (i := 28) (o := { dst := some 45, op := Op.call { callee := Callee.value (Operand.func 23), args := #[Operand.tmp 44], argTypes := #[27] }, type := 3, pos := "law.go:15", after := #[{ on := 27, ground := Ground.data }, { on := 25, ground := Ground.chain }, { on := 25, ground := Ground.guard }], guard := some (25, true) }) rfl ?_ AllReadyH.nil)
          · intro K1 hK1
            rw [if_pos (by rfl)]
            have HC5 := HV2.out V4 hS4.out _ hR4.out
            go_wp2_with fail
            refine HC5.mono ?_
            rintro e V5 ⟨rfl, hb5⟩
            dsimp only
            clear HC5
            have hS5 : Hid (Below A.heap.size A V5) := hS4.out.trans (hb5.mono hS4.out.size)
            clear hb5
            refine hK1.out _ _ hS5.out ?_
            clear hK1
            intro _
            try simp only [Act.put, List.setIfInBounds_toArray, List.set_cons_zero, List.set_cons_succ]
            refine wpAnyH_take (i := 29) (oi := { dst := some 46, op := Op.binOp BinOp.eql 3 (Operand.tmp 45) (Operand.const (Value.int IntKind.i64 0)) 3, type := 4, pos := "law.go:15", after := #[{ on := 28, ground := Ground.data }, { on := 25, ground := Ground.guard }], guard := some (25, true) }) (v := .bool true) rfl (by kernel_rfl) (by kernel_rfl) (by kernel_rfl) (fun _ _ _ h => h.elim) (Or.inl ⟨by rfl, ?y19⟩) hS5.out ?_
            case y19 =>
              intro V hV
              go_simp
            simp only [Act.put, List.setIfInBounds_toArray, List.set_cons_zero, List.set_cons_succ]
            refine wpAnyH_take (i := 30) (oi := { dst := some 47, op := Op.pick (Operand.tmp 42) (Operand.tmp 46) (Operand.const (Value.bool false)), type := 4, pos := "law.go:15", after := #[{ on := 25, ground := Ground.data }, { on := 29, ground := Ground.data }], guard := none }) (v := .bool true) rfl (by kernel_rfl) (by kernel_rfl) (by kernel_rfl) (fun _ _ _ h => h.elim) (Or.inl ⟨by rfl, ?y20⟩) hS5.out ?_
            case y20 =>
              intro V hV
              go_simp
            simp only [Act.put, List.setIfInBounds_toArray, List.set_cons_zero, List.set_cons_succ]
            refine wpAnyH_take (i := 31) (oi := { dst := some 48, op := Op.move (Operand.tmp 47), type := 4, pos := "law.go:15", after := #[{ on := 30, ground := Ground.data }, { on := 28, ground := Ground.chain }], guard := none }) (v := .bool true) rfl (by kernel_rfl) (by kernel_rfl) (by kernel_rfl) (fun _ _ _ h => h.elim) (Or.inl ⟨by rfl, ?y21⟩) hS5.out ?_
            case y21 =>
              intro V hV
              go_simp
            simp only [Act.put, List.setIfInBounds_toArray, List.set_cons_zero, List.set_cons_succ]
            refine wpAnyH_take (i := 32) (oi := { dst := some 49, op := Op.pick (Operand.tmp 48) (Operand.const (Value.bool true)) (Operand.const (Value.bool false)), type := 4, pos := "law.go:15", after := #[{ on := 31, ground := Ground.data }], guard := none }) (v := .bool true) rfl (by kernel_rfl) (by kernel_rfl) (by kernel_rfl) (fun _ _ _ h => h.elim) (Or.inl ⟨by rfl, ?y22⟩) hS5.out ?_
            case y22 =>
              intro V hV
              go_simp
            simp only [Act.put, List.setIfInBounds_toArray, List.set_cons_zero, List.set_cons_succ]
            refine wpAnyH_take (i := 33) (oi := { dst := some 50, op := Op.move (Operand.tmp 49), type := 4, pos := "law.go:15", after := #[{ on := 32, ground := Ground.data }, { on := 31, ground := Ground.chain }], guard := none }) (v := .bool true) rfl (by kernel_rfl) (by kernel_rfl) (by kernel_rfl) (fun _ _ _ h => h.elim) (Or.inl ⟨by rfl, ?y23⟩) hS5.out ?_
            case y23 =>
              intro V hV
              go_simp
            simp only [Act.put, List.setIfInBounds_toArray, List.set_cons_zero, List.set_cons_succ]
            refine wpAnyH_take (i := 34) (oi := { dst := some 51, op := Op.pick (Operand.tmp 50) (Operand.const (Value.bool true)) (Operand.const (Value.bool false)), type := 4, pos := "law.go:15", after := #[{ on := 33, ground := Ground.data }], guard := none }) (v := .bool true) rfl (by kernel_rfl) (by kernel_rfl) (by kernel_rfl) (fun _ _ _ h => h.elim) (Or.inl ⟨by rfl, ?y24⟩) hS5.out ?_
            case y24 =>
              intro V hV
              go_simp
            simp only [Act.put, List.setIfInBounds_toArray, List.set_cons_zero, List.set_cons_succ]
            refine wpAnyH_take (i := 35) (oi := { dst := some 0, op := Op.assign (Operand.tmp 51), type := 4, pos := "law.go:15", after := #[{ on := 34, ground := Ground.data }, { on := 33, ground := Ground.chain }, { on := 0, ground := Ground.phase }, { on := 1, ground := Ground.phase }, { on := 2, ground := Ground.phase }, { on := 3, ground := Ground.phase }, { on := 4, ground := Ground.phase }, { on := 5, ground := Ground.phase }, { on := 6, ground := Ground.phase }, { on := 7, ground := Ground.phase }, { on := 8, ground := Ground.phase }, { on := 9, ground := Ground.phase }, { on := 10, ground := Ground.phase }, { on := 11, ground := Ground.phase }, { on := 12, ground := Ground.phase }, { on := 13, ground := Ground.phase }, { on := 14, ground := Ground.phase }, { on := 15, ground := Ground.phase }, { on := 16, ground := Ground.phase }, { on := 17, ground := Ground.phase }, { on := 18, ground := Ground.phase }, { on := 19, ground := Ground.phase }, { on := 20, ground := Ground.phase }, { on := 21, ground := Ground.phase }, { on := 22, ground := Ground.phase }, { on := 23, ground := Ground.phase }, { on := 24, ground := Ground.phase }, { on := 25, ground := Ground.phase }, { on := 26, ground := Ground.phase }, { on := 27, ground := Ground.phase }, { on := 28, ground := Ground.phase }, { on := 29, ground := Ground.phase }, { on := 30, ground := Ground.phase }, { on := 31, ground := Ground.phase }, { on := 32, ground := Ground.phase }, { on := 33, ground := Ground.phase }, { on := 34, ground := Ground.phase }], guard := none }) (v := .bool true) rfl (by kernel_rfl) (by kernel_rfl) (by kernel_rfl) (fun _ _ _ h => h.elim) (Or.inl ⟨by rfl, ?y25⟩) hS5.out ?_
            case y25 =>
              intro V hV
              go_simp
            simp only [Act.put, List.setIfInBounds_toArray, List.set_cons_zero, List.set_cons_succ]
            refine wpAnyH_done (by kernel_rfl) ?_ _
            exact hQ V5 _ _ hS5.out
#print axioms lv4
end Go.Proofs.YtmmpafaegmejlaaDoor.Oct
