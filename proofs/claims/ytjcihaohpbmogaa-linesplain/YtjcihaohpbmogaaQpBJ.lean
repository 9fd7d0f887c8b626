/-
  Layer 11 (lines): Kill and Unkill: their steps.
-/
import Derived.Test.YtjcihaohpbmogaaQpAN
/- Layer 11 (lines): Kill and Unkill: their steps. -/
namespace Go.Proofs.Ytjcihaohpbmogaa.Oct
open Go.RowKit
set_option maxRecDepth 100000
set_option linter.unusedSimpArgs false
set_option linter.unusedVariables false
set_option linter.unusedSectionVars false

theorem step_al {ops : Array Oper} {o : Oper} {a : Act} {w : World} {K : Act → World → Prop} {Q : Exit → Act → World → Prop} {E : Prop} (hw : Region.wanted o (yielded ops a.tmps) = true) (t : TypeId) (hop : o.op = .alloc t) (Z : List Value) (hz : ∀ W, (zeroValue t).run Try.prog W = .ok (.agg Z.toArray) W)
    (hk : K (a.put o.dst (.pointer (some ⟨w.heap.size, 0, none⟩))) (w.alloc (.cells Z.toArray t))) : if Region.wanted o (yielded ops a.tmps) = true then Oper.wp Try.prog o a w K Q else E := by
  rw [if_pos hw]
  unfold Oper.wp execOp
  simp [hop, Instr.alloc, hz, Value.cells, newRow, Result.andThen]
  exact hk
theorem zero90' (W : World) : (zeroValue 90).run Try.prog W = .ok (.agg ([] : List Value).toArray) W := by kernel_rfl
theorem step_st0 {ops : Array Oper} {o : Oper} {a : Act} {w : World} {K : Act → World → Prop} {Q : Exit → Act → World → Prop} {E : Prop} (hw : Region.wanted o (yielded ops a.tmps) = true) (x y : Operand) (hop : o.op = .store 90 x y) (b : Nat) (hx : a.eval x = .pointer (some ⟨b, 0, none⟩)) (hy : a.eval y = .agg #[])
    (hk : K (a.put o.dst undef) w) : if Region.wanted o (yielded ops a.tmps) = true then Oper.wp Try.prog o a w K Q else E := by
  rw [if_pos hw]
  have hs : (sizeOf 90).run Try.prog w = .ok 0 w := by kernel_rfl
  unfold Oper.wp execOp
  simp [hop, hx, hy, Instr.storeAt, Instr.sureAddr, storeVar, hs, Value.cells, storeCells, Result.andThen]
  exact hk
theorem lookn {y : Hs} (hy : MK.ok y) (W : World) : (Instr.lookup 84 (.map none) (.agg (U y).toArray) true).run Try.prog W = .ok (.tuple #[.agg #[], .bool false]) W := look_nil (K := Hs) (h := y) (w := W) (E := 90) Try.underlying84 hy true (zero90 W)
theorem step_del {ops : Array Oper} {op : Oper} {a : Act} {w : World} {K : Act → World → Prop} {Q : Exit → Act → World → Prop} {E : Prop} (hw : Region.wanted op (yielded ops a.tmps) = true) (t k : TypeId) (m x : Operand) (hop : op.op = .call { callee := .builtin .delete, args := #[m, x], argTypes := #[t, k] }) (vm vx : Value) (hm : a.eval m = vm) (hx : a.eval x = vx) (r : Value) (W' : World)
    (hr : (Builtin.delete_ #[t, k] op.type #[vm, vx]).run Try.prog w = .ok r W') (hk : K (a.put op.dst r) W') : if Region.wanted op (yielded ops a.tmps) = true then Oper.wp Try.prog op a w K Q else E := by
  rw [if_pos hw]
  unfold Oper.wp execOp
  simp only [hop, resolve, invoke, builtin, Sem.run_bind, Sem.run_pure, Result.andThen_ok, List.map_toArray, List.map_cons, List.map_nil, hm, hx, hr]
  exact hk
set_option maxRecDepth 100000 in
set_option maxHeartbeats 4000000 in
theorem kl21_4 {Q : Exit → Act → World → Prop} {x0 x1 x2 x3 x4 x6 x8 x9 x10 x11 x12 x13 x14 x15 x16 x17 x18 x19 x20 x21 x22 x23 x24 x25 x26 x27 x28 x29 x30 x31 x32 x33 x34 x35 x36 x37 x38 x39 x40 x41 x42 x43 x44 : Value} {ds : List Deferred} {A : World} {lb d5 : Nat} {kb : Option Nat} {Y : List Value} {B : Bool}
    (HL : Hid (lb < A.heap.size ∧ d5 < A.heap.size)) (ck : A.cell? ⟨lb, 35, none⟩ = some (.map kb)) (HR : Hid (A.rangeAt d5 0 Y)) (HI : Hid ((Try.prog.info? 32).map (·.size) = some Y.length)) (HK : Hid (∀ V, Below A.heap.size A V → (Instr.lookup 84 (.map kb) (.agg Y.toArray) true).run Try.prog V = .ok (.tuple #[.agg #[], .bool B]) V))
    (hQ : ∀ V1 q, Below A.heap.size A V1 → Q .normal { tmps := #[x0, x1, x2, x3, x4, .pointer (some ⟨d5, 0, none⟩), x6, .pointer (some ⟨lb, 0, none⟩), x8, .pointer (some ⟨q, 0, none⟩), .bool B, x11, x12, x13, x14, x15, x16, x17, x18, x19, .tuple #[.agg #[], .bool B], .pointer (some ⟨lb, 0, none⟩), .pointer (some ⟨lb, 0, none⟩), .pointer (some ⟨lb, 35, none⟩), .map kb, .agg Y.toArray, .tuple #[.agg #[], .bool B], .agg #[], .bool B, x29, x30, x31, x32, x33, x34, x35, x36, x37, x38, x39, x40, x41, x42, x43, x44], defers := ds } V1) :
    (Code.region 4 #[{ dst := some 21, op := Op.move (Operand.tmp 7), type := 71, pos := "change.go:115", after := #[], guard := none }, { dst := some 22, op := Op.nilCheck (Operand.tmp 21), type := 0, pos := "change.go:115", after := #[{ on := 0, ground := Ground.data }], guard := none }, { dst := some 23, op := Op.fieldAddr 86 (Operand.tmp 22) 3, type := 0, pos := "change.go:115", after := #[{ on := 1, ground := Ground.data }], guard := none }, { dst := some 24, op := Op.load 84 (Operand.tmp 23), type := 84, pos := "change.go:115", after := #[{ on := 2, ground := Ground.data }], guard := none }, { dst := some 25, op := Op.load 32 (Operand.tmp 5), type := 32, pos := "change.go:115", after := #[], guard := none }, { dst := some 26, op := Op.lookup 84 (Operand.tmp 24) (Operand.tmp 25) true, type := 91, pos := "change.go:115", after := #[{ on := 3, ground := Ground.data }, { on := 4, ground := Ground.data }], guard := none }, { dst := some 20, op := Op.move (Operand.tmp 26), type := 91, pos := "change.go:115", after := #[{ on := 5, ground := Ground.data }], guard := none }, { dst := some 27, op := Op.extract (Operand.tmp 20) 0, type := 90, pos := "change.go:115", after := #[{ on := 6, ground := Ground.data }], guard := none }, { dst := some 28, op := Op.extract (Operand.tmp 20) 1, type := 4, pos := "change.go:115", after := #[{ on := 6, ground := Ground.data }, { on := 10, ground := Ground.gcOnly Departure.lateStores }], guard := none }, { dst := some 9, op := Op.alloc 90, type := 0, pos := "change.go:115", after := #[], guard := none }, { dst := none, op := Op.store 90 (Operand.tmp 9) (Operand.tmp 27), type := 0, pos := "change.go:115", after := #[{ on := 9, ground := Ground.data }, { on := 7, ground := Ground.data }, { on := 0, ground := Ground.phase }, { on := 1, ground := Ground.phase }, { on := 2, ground := Ground.phase }, { on := 3, ground := Ground.phase }, { on := 4, ground := Ground.phase }, { on := 5, ground := Ground.phase }, { on := 6, ground := Ground.phase }, { on := 7, ground := Ground.phase }, { on := 8, ground := Ground.textOnly Departure.lateStores }, { on := 9, ground := Ground.phase }], guard := none }, { dst := some 10, op := Op.assign (Operand.tmp 28), type := 4, pos := "change.go:115", after := #[{ on := 8, ground := Ground.data }, { on := 10, ground := Ground.chain }, { on := 0, ground := Ground.phase }, { on := 1, ground := Ground.phase }, { on := 2, ground := Ground.phase }, { on := 3, ground := Ground.phase }, { on := 4, ground := Ground.phase }, { on := 5, ground := Ground.phase }, { on := 6, ground := Ground.phase }, { on := 7, ground := Ground.phase }, { on := 8, ground := Ground.phase }, { on := 9, ground := Ground.phase }, { on := 10, ground := Ground.phase }], guard := none }] true).wp Try.prog Q { tmps := #[x0, x1, x2, x3, x4, .pointer (some ⟨d5, 0, none⟩), x6, .pointer (some ⟨lb, 0, none⟩), x8, x9, x10, x11, x12, x13, x14, x15, x16, x17, x18, x19, x20, x21, x22, x23, x24, x25, x26, x27, x28, x29, x30, x31, x32, x33, x34, x35, x36, x37, x38, x39, x40, x41, x42, x43, x44], defers := ds } A := by
  refine Code.wp_mono (Q := fun x a' w' => match x with | .normal => Q .normal a' w' | _ => False) (by intro x a' w' h; cases x <;> first | exact h | exact h.elim) ?_
  refine wp_region_held (S := fun V => Below A.heap.size A V) (by kernel_rfl) ?_
  have hS0 : Hid (Below A.heap.size A A.drew) := below_drew0 A
  change wpAnyH Try.prog .any _ _ (fun V => Below A.heap.size A V) 12 (Array.replicate 12 false) _ A.drew
  obtain ⟨V0, hV0⟩ : ∃ V0, A.drew = V0 := ⟨_, rfl⟩
  rw [hV0]
  rw [hV0] at hS0
  clear hV0
  refine wpAnyH_take (i := 0) (oi := { dst := some 21, op := Op.move (Operand.tmp 7), type := 71, pos := "change.go:115", after := #[], guard := none }) (v := .pointer (some ⟨lb, 0, none⟩)) rfl (by kernel_rfl) (by kernel_rfl) (by kernel_rfl) (fun _ _ _ h => h.elim) (Or.inl ⟨by rfl, ?y1⟩) hS0.out ?_
  case y1 =>
    intro V hV
    go_simp
  simp only [Act.put, List.setIfInBounds_toArray, List.set_cons_zero, List.set_cons_succ]
  refine wpAnyH_take (i := 1) (oi := { dst := some 22, op := Op.nilCheck (Operand.tmp 21), type := 0, pos := "change.go:115", after := #[{ on := 0, ground := Ground.data }], guard := none }) (v := .pointer (some ⟨lb, 0, none⟩)) rfl (by kernel_rfl) (by kernel_rfl) (by kernel_rfl) (fun _ _ _ h => h.elim) (Or.inl ⟨by rfl, ?y2⟩) hS0.out ?_
  case y2 =>
    intro V hV
    go_simp
  simp only [Act.put, List.setIfInBounds_toArray, List.set_cons_zero, List.set_cons_succ]
  refine wpAnyH_take (i := 2) (oi := { dst := some 23, op := Op.fieldAddr 86 (Operand.tmp 22) 3, type := 0, pos := "change.go:115", after := #[{ on := 1, ground := Ground.data }], guard := none }) (v := .pointer (some ⟨lb, 35, none⟩)) rfl (by kernel_rfl) (by kernel_rfl) (by kernel_rfl) (fun _ _ _ h => h.elim) (Or.inl ⟨by rfl, ?y3⟩) hS0.out ?_
  case y3 =>
    intro V hV
    go_simp
  simp only [Act.put, List.setIfInBounds_toArray, List.set_cons_zero, List.set_cons_succ]
  refine wpAnyH_take (i := 3) (oi := { dst := some 24, op := Op.load 84 (Operand.tmp 23), type := 84, pos := "change.go:115", after := #[{ on := 2, ground := Ground.data }], guard := none }) (v := .map kb) rfl (by kernel_rfl) (by kernel_rfl) (by kernel_rfl) (fun _ _ _ h => h.elim) (Or.inl ⟨by rfl, ?y4⟩) hS0.out ?_
  case y4 =>
    intro V hV
    have hc : V.cell? ⟨lb, 35, none⟩ = some (.map kb) := (hV.cell (p := ⟨lb, 35, none⟩) HL.out.1).trans ck
    go_simp
  simp only [Act.put, List.setIfInBounds_toArray, List.set_cons_zero, List.set_cons_succ]
  refine wpAnyH_take (i := 4) (oi := { dst := some 25, op := Op.load 32 (Operand.tmp 5), type := 32, pos := "change.go:115", after := #[], guard := none }) (v := .agg Y.toArray) rfl (by kernel_rfl) (by kernel_rfl) (by kernel_rfl) (fun _ _ _ h => h.elim) (yieldsIf_load_mid (by rfl) _ _ rfl _ _ rfl (Y) _ (fun V hV => rangeAt_same (HR.out) ((show Below A.heap.size A V from hV).block _ (HL.out.2))) Try.underlying32 rfl (HI.out)) hS0.out ?_
  simp only [Act.put, List.setIfInBounds_toArray, List.set_cons_zero, List.set_cons_succ]
  refine wpAnyH_take (i := 5) (oi := { dst := some 26, op := Op.lookup 84 (Operand.tmp 24) (Operand.tmp 25) true, type := 91, pos := "change.go:115", after := #[{ on := 3, ground := Ground.data }, { on := 4, ground := Ground.data }], guard := none }) (v := .tuple #[.agg #[], .bool B]) rfl (by kernel_rfl) (by kernel_rfl) (by kernel_rfl) (fun _ _ _ h => h.elim) (Or.inl ⟨by rfl, ?y5⟩) hS0.out ?_
  case y5 =>
    intro V hV
    exact yl_lookup V 84 _ _ true _ _ _ rfl rfl rfl (HK.out V hV)
  simp only [Act.put, List.setIfInBounds_toArray, List.set_cons_zero, List.set_cons_succ]
  refine wpAnyH_take (i := 6) (oi := { dst := some 20, op := Op.move (Operand.tmp 26), type := 91, pos := "change.go:115", after := #[{ on := 5, ground := Ground.data }], guard := none }) (v := .tuple #[.agg #[], .bool B]) rfl (by kernel_rfl) (by kernel_rfl) (by kernel_rfl) (fun _ _ _ h => h.elim) (Or.inl ⟨by rfl, ?y6⟩) hS0.out ?_
  case y6 =>
    intro V hV
    go_simp
  simp only [Act.put, List.setIfInBounds_toArray, List.set_cons_zero, List.set_cons_succ]
  refine wpAnyH_take (i := 7) (oi := { dst := some 27, op := Op.extract (Operand.tmp 20) 0, type := 90, pos := "change.go:115", after := #[{ on := 6, ground := Ground.data }], guard := none }) (v := .agg #[]) rfl (by kernel_rfl) (by kernel_rfl) (by kernel_rfl) (fun _ _ _ h => h.elim) (Or.inl ⟨by rfl, ?y7⟩) hS0.out ?_
  case y7 =>
    intro V hV
    go_simp
  simp only [Act.put, List.setIfInBounds_toArray, List.set_cons_zero, List.set_cons_succ]
  refine wpAnyH_take (i := 8) (oi := { dst := some 28, op := Op.extract (Operand.tmp 20) 1, type := 4, pos := "change.go:115", after := #[{ on := 6, ground := Ground.data }, { on := 10, ground := Ground.gcOnly Departure.lateStores }], guard := none }) (v := .bool B) rfl (by kernel_rfl) (by kernel_rfl) (by kernel_rfl) (fun _ _ _ h => h.elim) (Or.inl ⟨by rfl, ?y8⟩) hS0.out ?_
  case y8 =>
    intro V hV
    go_simp
  simp only [Act.put, List.setIfInBounds_toArray, List.set_cons_zero, List.set_cons_succ]
  refine wpAnyH_ready (rs := [9]) (by kernel_rfl) (by simp) (AllReadyH.cons (i := 9) (o := { dst := some 9, op := Op.alloc 90, type := 0, pos := "change.go:115", after := #[], guard := none }) rfl ?_ AllReadyH.nil)
  · intro K1 hK1
    refine step_al (by rfl) 90 rfl [] zero90' ?_
    obtain ⟨V1, hv1⟩ : ∃ V, V0.alloc (.cells ([] : List Value).toArray 90) = V := ⟨_, rfl⟩
    obtain ⟨q, hq1⟩ : ∃ m, V0.heap.size = m := ⟨_, rfl⟩
    have hS1 : Hid (Below A.heap.size A V1) := by rw [← hv1]; exact below_tr hS0.out (below_al _ _)
    rw [hv1, hq1]
    clear hv1 hq1
    refine hK1.out _ _ hS1.out ?_
    clear hK1
    intro _
    try simp only [Act.put, List.setIfInBounds_toArray, List.set_cons_zero, List.set_cons_succ]
    refine wpAnyH_ready (rs := [10]) (by kernel_rfl) (by simp) (AllReadyH.cons (i := 10) (o := { dst := none, op := Op.store 90 (Operand.tmp 9) (Operand.tmp 27), type := 0, pos := "change.go:115", after := #[{ on := 9, ground := Ground.data }, { on := 7, ground := Ground.data }, { on := 0, ground := Ground.phase }, { on := 1, ground := Ground.phase }, { on := 2, ground := Ground.phase }, { on := 3, ground := Ground.phase }, { on := 4, ground := Ground.phase }, { on := 5, ground := Ground.phase }, { on := 6, ground := Ground.phase }, { on := 7, ground := Ground.phase }, { on := 8, ground := Ground.textOnly Departure.lateStores }, { on := 9, ground := Ground.phase }], guard := none }) rfl ?_ AllReadyH.nil)
    · intro K1 hK1
      refine step_st0 (by rfl) (.tmp 9) (.tmp 27) rfl q rfl rfl ?_
      refine hK1.out _ _ hS1.out ?_
      clear hK1
      intro _
      try simp only [Act.put, List.setIfInBounds_toArray, List.set_cons_zero, List.set_cons_succ]
      refine wpAnyH_take (i := 11) (oi := { dst := some 10, op := Op.assign (Operand.tmp 28), type := 4, pos := "change.go:115", after := #[{ on := 8, ground := Ground.data }, { on := 10, ground := Ground.chain }, { on := 0, ground := Ground.phase }, { on := 1, ground := Ground.phase }, { on := 2, ground := Ground.phase }, { on := 3, ground := Ground.phase }, { on := 4, ground := Ground.phase }, { on := 5, ground := Ground.phase }, { on := 6, ground := Ground.phase }, { on := 7, ground := Ground.phase }, { on := 8, ground := Ground.phase }, { on := 9, ground := Ground.phase }, { on := 10, ground := Ground.phase }], guard := none }) (v := .bool B) rfl (by kernel_rfl) (by kernel_rfl) (by kernel_rfl) (fun _ _ _ h => h.elim) (Or.inl ⟨by rfl, ?y9⟩) hS1.out ?_
      case y9 =>
        intro V hV
        go_simp
      simp only [Act.put, List.setIfInBounds_toArray, List.set_cons_zero, List.set_cons_succ]
      refine wpAnyH_done (by kernel_rfl) ?_ _
      exact hQ V1 q hS1.out
set_option maxRecDepth 100000 in
set_option maxHeartbeats 4000000 in
theorem kl28_4 {Q : Exit → Act → World → Prop} {x0 x1 x2 x3 x4 x6 x8 x9 x10 x11 x12 x13 x14 x15 x16 x17 x18 x19 x20 x21 x22 x23 x24 x25 x26 x27 x28 x29 x30 x31 x32 x33 x34 x35 : Value} {ds : List Deferred} {A : World} {lb d5 : Nat} {kb : Option Nat} {Y : List Value} {B : Bool}
    (HL : Hid (lb < A.heap.size ∧ d5 < A.heap.size)) (ck : A.cell? ⟨lb, 35, none⟩ = some (.map kb)) (HR : Hid (A.rangeAt d5 0 Y)) (HI : Hid ((Try.prog.info? 32).map (·.size) = some Y.length)) (HK : Hid (∀ V, Below A.heap.size A V → (Instr.lookup 84 (.map kb) (.agg Y.toArray) true).run Try.prog V = .ok (.tuple #[.agg #[], .bool B]) V))
    (hQ : ∀ V1 q, Below A.heap.size A V1 → Q .normal { tmps := #[x0, x1, x2, x3, x4, .pointer (some ⟨d5, 0, none⟩), x6, .pointer (some ⟨lb, 0, none⟩), x8, .pointer (some ⟨q, 0, none⟩), .bool B, x11, x12, x13, x14, x15, x16, x17, x18, x19, .tuple #[.agg #[], .bool B], .pointer (some ⟨lb, 0, none⟩), .pointer (some ⟨lb, 0, none⟩), .pointer (some ⟨lb, 35, none⟩), .map kb, .agg Y.toArray, .tuple #[.agg #[], .bool B], .agg #[], .bool B, x29, x30, x31, x32, x33, x34, x35], defers := ds } V1) :
    (Code.region 4 #[{ dst := some 21, op := Op.move (Operand.tmp 7), type := 71, pos := "change.go:131", after := #[], guard := none }, { dst := some 22, op := Op.nilCheck (Operand.tmp 21), type := 0, pos := "change.go:131", after := #[{ on := 0, ground := Ground.data }], guard := none }, { dst := some 23, op := Op.fieldAddr 86 (Operand.tmp 22) 3, type := 0, pos := "change.go:131", after := #[{ on := 1, ground := Ground.data }], guard := none }, { dst := some 24, op := Op.load 84 (Operand.tmp 23), type := 84, pos := "change.go:131", after := #[{ on := 2, ground := Ground.data }], guard := none }, { dst := some 25, op := Op.load 32 (Operand.tmp 5), type := 32, pos := "change.go:131", after := #[], guard := none }, { dst := some 26, op := Op.lookup 84 (Operand.tmp 24) (Operand.tmp 25) true, type := 91, pos := "change.go:131", after := #[{ on := 3, ground := Ground.data }, { on := 4, ground := Ground.data }], guard := none }, { dst := some 20, op := Op.move (Operand.tmp 26), type := 91, pos := "change.go:131", after := #[{ on := 5, ground := Ground.data }], guard := none }, { dst := some 27, op := Op.extract (Operand.tmp 20) 0, type := 90, pos := "change.go:131", after := #[{ on := 6, ground := Ground.data }], guard := none }, { dst := some 28, op := Op.extract (Operand.tmp 20) 1, type := 4, pos := "change.go:131", after := #[{ on := 6, ground := Ground.data }, { on := 10, ground := Ground.gcOnly Departure.lateStores }], guard := none }, { dst := some 9, op := Op.alloc 90, type := 0, pos := "change.go:131", after := #[], guard := none }, { dst := none, op := Op.store 90 (Operand.tmp 9) (Operand.tmp 27), type := 0, pos := "change.go:131", after := #[{ on := 9, ground := Ground.data }, { on := 7, ground := Ground.data }, { on := 0, ground := Ground.phase }, { on := 1, ground := Ground.phase }, { on := 2, ground := Ground.phase }, { on := 3, ground := Ground.phase }, { on := 4, ground := Ground.phase }, { on := 5, ground := Ground.phase }, { on := 6, ground := Ground.phase }, { on := 7, ground := Ground.phase }, { on := 8, ground := Ground.textOnly Departure.lateStores }, { on := 9, ground := Ground.phase }], guard := none }, { dst := some 10, op := Op.assign (Operand.tmp 28), type := 4, pos := "change.go:131", after := #[{ on := 8, ground := Ground.data }, { on := 10, ground := Ground.chain }, { on := 0, ground := Ground.phase }, { on := 1, ground := Ground.phase }, { on := 2, ground := Ground.phase }, { on := 3, ground := Ground.phase }, { on := 4, ground := Ground.phase }, { on := 5, ground := Ground.phase }, { on := 6, ground := Ground.phase }, { on := 7, ground := Ground.phase }, { on := 8, ground := Ground.phase }, { on := 9, ground := Ground.phase }, { on := 10, ground := Ground.phase }], guard := none }] true).wp Try.prog Q { tmps := #[x0, x1, x2, x3, x4, .pointer (some ⟨d5, 0, none⟩), x6, .pointer (some ⟨lb, 0, none⟩), x8, x9, x10, x11, x12, x13, x14, x15, x16, x17, x18, x19, x20, x21, x22, x23, x24, x25, x26, x27, x28, x29, x30, x31, x32, x33, x34, x35], defers := ds } A := by
  refine Code.wp_mono (Q := fun x a' w' => match x with | .normal => Q .normal a' w' | _ => False) (by intro x a' w' h; cases x <;> first | exact h | exact h.elim) ?_
  refine wp_region_held (S := fun V => Below A.heap.size A V) (by kernel_rfl) ?_
  have hS0 : Hid (Below A.heap.size A A.drew) := below_drew0 A
  change wpAnyH Try.prog .any _ _ (fun V => Below A.heap.size A V) 12 (Array.replicate 12 false) _ A.drew
  obtain ⟨V0, hV0⟩ : ∃ V0, A.drew = V0 := ⟨_, rfl⟩
  rw [hV0]
  rw [hV0] at hS0
  clear hV0
  refine wpAnyH_take (i := 0) (oi := { dst := some 21, op := Op.move (Operand.tmp 7), type := 71, pos := "change.go:131", after := #[], guard := none }) (v := .pointer (some ⟨lb, 0, none⟩)) rfl (by kernel_rfl) (by kernel_rfl) (by kernel_rfl) (fun _ _ _ h => h.elim) (Or.inl ⟨by rfl, ?y1⟩) hS0.out ?_
  case y1 =>
    intro V hV
    go_simp
  simp only [Act.put, List.setIfInBounds_toArray, List.set_cons_zero, List.set_cons_succ]
  refine wpAnyH_take (i := 1) (oi := { dst := some 22, op := Op.nilCheck (Operand.tmp 21), type := 0, pos := "change.go:131", after := #[{ on := 0, ground := Ground.data }], guard := none }) (v := .pointer (some ⟨lb, 0, none⟩)) rfl (by kernel_rfl) (by kernel_rfl) (by kernel_rfl) (fun _ _ _ h => h.elim) (Or.inl ⟨by rfl, ?y2⟩) hS0.out ?_
  case y2 =>
    intro V hV
    go_simp
  simp only [Act.put, List.setIfInBounds_toArray, List.set_cons_zero, List.set_cons_succ]
  refine wpAnyH_take (i := 2) (oi := { dst := some 23, op := Op.fieldAddr 86 (Operand.tmp 22) 3, type := 0, pos := "change.go:131", after := #[{ on := 1, ground := Ground.data }], guard := none }) (v := .pointer (some ⟨lb, 35, none⟩)) rfl (by kernel_rfl) (by kernel_rfl) (by kernel_rfl) (fun _ _ _ h => h.elim) (Or.inl ⟨by rfl, ?y3⟩) hS0.out ?_
  case y3 =>
    intro V hV
    go_simp
  simp only [Act.put, List.setIfInBounds_toArray, List.set_cons_zero, List.set_cons_succ]
  refine wpAnyH_take (i := 3) (oi := { dst := some 24, op := Op.load 84 (Operand.tmp 23), type := 84, pos := "change.go:131", after := #[{ on := 2, ground := Ground.data }], guard := none }) (v := .map kb) rfl (by kernel_rfl) (by kernel_rfl) (by kernel_rfl) (fun _ _ _ h => h.elim) (Or.inl ⟨by rfl, ?y4⟩) hS0.out ?_
  case y4 =>
    intro V hV
    have hc : V.cell? ⟨lb, 35, none⟩ = some (.map kb) := (hV.cell (p := ⟨lb, 35, none⟩) HL.out.1).trans ck
    go_simp
  simp only [Act.put, List.setIfInBounds_toArray, List.set_cons_zero, List.set_cons_succ]
  refine wpAnyH_take (i := 4) (oi := { dst := some 25, op := Op.load 32 (Operand.tmp 5), type := 32, pos := "change.go:131", after := #[], guard := none }) (v := .agg Y.toArray) rfl (by kernel_rfl) (by kernel_rfl) (by kernel_rfl) (fun _ _ _ h => h.elim) (yieldsIf_load_mid (by rfl) _ _ rfl _ _ rfl (Y) _ (fun V hV => rangeAt_same (HR.out) ((show Below A.heap.size A V from hV).block _ (HL.out.2))) Try.underlying32 rfl (HI.out)) hS0.out ?_
  simp only [Act.put, List.setIfInBounds_toArray, List.set_cons_zero, List.set_cons_succ]
  refine wpAnyH_take (i := 5) (oi := { dst := some 26, op := Op.lookup 84 (Operand.tmp 24) (Operand.tmp 25) true, type := 91, pos := "change.go:131", after := #[{ on := 3, ground := Ground.data }, { on := 4, ground := Ground.data }], guard := none }) (v := .tuple #[.agg #[], .bool B]) rfl (by kernel_rfl) (by kernel_rfl) (by kernel_rfl) (fun _ _ _ h => h.elim) (Or.inl ⟨by rfl, ?y5⟩) hS0.out ?_
  case y5 =>
    intro V hV
    exact yl_lookup V 84 _ _ true _ _ _ rfl rfl rfl (HK.out V hV)
  simp only [Act.put, List.setIfInBounds_toArray, List.set_cons_zero, List.set_cons_succ]
  refine wpAnyH_take (i := 6) (oi := { dst := some 20, op := Op.move (Operand.tmp 26), type := 91, pos := "change.go:131", after := #[{ on := 5, ground := Ground.data }], guard := none }) (v := .tuple #[.agg #[], .bool B]) rfl (by kernel_rfl) (by kernel_rfl) (by kernel_rfl) (fun _ _ _ h => h.elim) (Or.inl ⟨by rfl, ?y6⟩) hS0.out ?_
  case y6 =>
    intro V hV
    go_simp
  simp only [Act.put, List.setIfInBounds_toArray, List.set_cons_zero, List.set_cons_succ]
  refine wpAnyH_take (i := 7) (oi := { dst := some 27, op := Op.extract (Operand.tmp 20) 0, type := 90, pos := "change.go:131", after := #[{ on := 6, ground := Ground.data }], guard := none }) (v := .agg #[]) rfl (by kernel_rfl) (by kernel_rfl) (by kernel_rfl) (fun _ _ _ h => h.elim) (Or.inl ⟨by rfl, ?y7⟩) hS0.out ?_
  case y7 =>
    intro V hV
    go_simp
  simp only [Act.put, List.setIfInBounds_toArray, List.set_cons_zero, List.set_cons_succ]
  refine wpAnyH_take (i := 8) (oi := { dst := some 28, op := Op.extract (Operand.tmp 20) 1, type := 4, pos := "change.go:131", after := #[{ on := 6, ground := Ground.data }, { on := 10, ground := Ground.gcOnly Departure.lateStores }], guard := none }) (v := .bool B) rfl (by kernel_rfl) (by kernel_rfl) (by kernel_rfl) (fun _ _ _ h => h.elim) (Or.inl ⟨by rfl, ?y8⟩) hS0.out ?_
  case y8 =>
    intro V hV
    go_simp
  simp only [Act.put, List.setIfInBounds_toArray, List.set_cons_zero, List.set_cons_succ]
  refine wpAnyH_ready (rs := [9]) (by kernel_rfl) (by simp) (AllReadyH.cons (i := 9) (o := { dst := some 9, op := Op.alloc 90, type := 0, pos := "change.go:131", after := #[], guard := none }) rfl ?_ AllReadyH.nil)
  · intro K1 hK1
    refine step_al (by rfl) 90 rfl [] zero90' ?_
    obtain ⟨V1, hv1⟩ : ∃ V, V0.alloc (.cells ([] : List Value).toArray 90) = V := ⟨_, rfl⟩
    obtain ⟨q, hq1⟩ : ∃ m, V0.heap.size = m := ⟨_, rfl⟩
    have hS1 : Hid (Below A.heap.size A V1) := by rw [← hv1]; exact below_tr hS0.out (below_al _ _)
    rw [hv1, hq1]
    clear hv1 hq1
    refine hK1.out _ _ hS1.out ?_
    clear hK1
    intro _
    try simp only [Act.put, List.setIfInBounds_toArray, List.set_cons_zero, List.set_cons_succ]
    refine wpAnyH_ready (rs := [10]) (by kernel_rfl) (by simp) (AllReadyH.cons (i := 10) (o := { dst := none, op := Op.store 90 (Operand.tmp 9) (Operand.tmp 27), type := 0, pos := "change.go:131", after := #[{ on := 9, ground := Ground.data }, { on := 7, ground := Ground.data }, { on := 0, ground := Ground.phase }, { on := 1, ground := Ground.phase }, { on := 2, ground := Ground.phase }, { on := 3, ground := Ground.phase }, { on := 4, ground := Ground.phase }, { on := 5, ground := Ground.phase }, { on := 6, ground := Ground.phase }, { on := 7, ground := Ground.phase }, { on := 8, ground := Ground.textOnly Departure.lateStores }, { on := 9, ground := Ground.phase }], guard := none }) rfl ?_ AllReadyH.nil)
    · intro K1 hK1
      refine step_st0 (by rfl) (.tmp 9) (.tmp 27) rfl q rfl rfl ?_
      refine hK1.out _ _ hS1.out ?_
      clear hK1
      intro _
      try simp only [Act.put, List.setIfInBounds_toArray, List.set_cons_zero, List.set_cons_succ]
      refine wpAnyH_take (i := 11) (oi := { dst := some 10, op := Op.assign (Operand.tmp 28), type := 4, pos := "change.go:131", after := #[{ on := 8, ground := Ground.data }, { on := 10, ground := Ground.chain }, { on := 0, ground := Ground.phase }, { on := 1, ground := Ground.phase }, { on := 2, ground := Ground.phase }, { on := 3, ground := Ground.phase }, { on := 4, ground := Ground.phase }, { on := 5, ground := Ground.phase }, { on := 6, ground := Ground.phase }, { on := 7, ground := Ground.phase }, { on := 8, ground := Ground.phase }, { on := 9, ground := Ground.phase }, { on := 10, ground := Ground.phase }], guard := none }) (v := .bool B) rfl (by kernel_rfl) (by kernel_rfl) (by kernel_rfl) (fun _ _ _ h => h.elim) (Or.inl ⟨by rfl, ?y9⟩) hS1.out ?_
      case y9 =>
        intro V hV
        go_simp
      simp only [Act.put, List.setIfInBounds_toArray, List.set_cons_zero, List.set_cons_succ]
      refine wpAnyH_done (by kernel_rfl) ?_ _
      exact hQ V1 q hS1.out
set_option maxRecDepth 100000 in
set_option maxHeartbeats 4000000 in
theorem kl21_9 {Q : Exit → Act → World → Prop} {x0 x1 x2 x3 x4 x6 x8 x9 x10 x11 x12 x13 x14 x15 x16 x17 x18 x19 x20 x21 x22 x23 x24 x25 x26 x27 x28 x29 x30 x31 x32 x33 x34 x35 x36 x37 x38 x39 x40 x41 x42 x43 x44 : Value} {ds : List Deferred} {A : World} {lb d5 m : Nat} {y : Hs} {Y : List Value} {M : Kv Hs}
    (HL : Hid (lb < A.heap.size ∧ d5 < A.heap.size)) (HN : Hid ((¬ lb = m) ∧ ¬ d5 = m)) (ck : A.cell? ⟨lb, 35, none⟩ = some (.map (some m))) (HR : Hid (A.rangeAt d5 0 Y)) (HI : Hid ((Try.prog.info? 32).map (·.size) = some Y.length)) (HY : Hid (MK.ok y ∧ U y = Y)) (HM : Hid (MP A m M))
    (hQ : ∀ V1, Keep (fun k => k = m) A V1 → MP V1 m (kput M y (.agg #[])) → Q .normal { tmps := #[x0, x1, x2, x3, x4, .pointer (some ⟨d5, 0, none⟩), x6, .pointer (some ⟨lb, 0, none⟩), x8, x9, x10, x11, x12, x13, x14, x15, x16, x17, x18, x19, x20, x21, x22, x23, x24, x25, x26, x27, x28, x29, x30, x31, x32, x33, x34, x35, x36, x37, x38, .pointer (some ⟨lb, 0, none⟩), .pointer (some ⟨lb, 0, none⟩), .pointer (some ⟨lb, 35, none⟩), .map (some m), .agg Y.toArray, .agg #[]], defers := ds } V1) :
    (Code.region 9 #[{ dst := some 39, op := Op.move (Operand.tmp 7), type := 71, pos := "change.go:121", after := #[], guard := none }, { dst := some 40, op := Op.nilCheck (Operand.tmp 39), type := 0, pos := "change.go:121", after := #[{ on := 0, ground := Ground.data }], guard := none }, { dst := some 41, op := Op.fieldAddr 86 (Operand.tmp 40) 3, type := 0, pos := "change.go:121", after := #[{ on := 1, ground := Ground.data }], guard := none }, { dst := some 42, op := Op.load 84 (Operand.tmp 41), type := 84, pos := "change.go:121", after := #[{ on := 2, ground := Ground.data }], guard := none }, { dst := some 43, op := Op.load 32 (Operand.tmp 5), type := 32, pos := "change.go:121", after := #[], guard := none }, { dst := some 44, op := Op.build 90 #[], type := 90, pos := "change.go:121", after := #[], guard := none }, { dst := none, op := Op.mapUpdate 84 (Operand.tmp 42) (Operand.tmp 43) (Operand.tmp 44), type := 0, pos := "change.go:121", after := #[{ on := 3, ground := Ground.data }, { on := 4, ground := Ground.data }, { on := 5, ground := Ground.data }, { on := 0, ground := Ground.phase }, { on := 1, ground := Ground.phase }, { on := 2, ground := Ground.phase }, { on := 3, ground := Ground.phase }, { on := 4, ground := Ground.phase }, { on := 5, ground := Ground.phase }], guard := none }] true).wp Try.prog Q { tmps := #[x0, x1, x2, x3, x4, .pointer (some ⟨d5, 0, none⟩), x6, .pointer (some ⟨lb, 0, none⟩), x8, x9, x10, x11, x12, x13, x14, x15, x16, x17, x18, x19, x20, x21, x22, x23, x24, x25, x26, x27, x28, x29, x30, x31, x32, x33, x34, x35, x36, x37, x38, x39, x40, x41, x42, x43, x44], defers := ds } A := by
  refine Code.wp_mono (Q := fun x a' w' => match x with | .normal => Q .normal a' w' | _ => False) (by intro x a' w' h; cases x <;> first | exact h | exact h.elim) ?_
  refine wp_region_held (S := fun V => Keep (fun k => k = m) A V) (by kernel_rfl) ?_
  have hS0 : Hid (Keep (fun k => k = m) A A.drew) := (Keep.refl _ A).drew
  change wpAnyH Try.prog .any _ _ (fun V => Keep (fun k => k = m) A V) 7 (Array.replicate 7 false) _ A.drew
  obtain ⟨V0, hV0⟩ : ∃ V0, A.drew = V0 := ⟨_, rfl⟩
  rw [hV0]
  rw [hV0] at hS0
  have hM0 : Hid (MP V0 m M) := by
    show MP V0 m M
    rw [← hV0]
    exact HM.out.same rfl
  clear hV0
  refine wpAnyH_take (i := 0) (oi := { dst := some 39, op := Op.move (Operand.tmp 7), type := 71, pos := "change.go:121", after := #[], guard := none }) (v := .pointer (some ⟨lb, 0, none⟩)) rfl (by kernel_rfl) (by kernel_rfl) (by kernel_rfl) (fun _ _ _ h => h.elim) (Or.inl ⟨by rfl, ?y1⟩) hS0.out ?_
  case y1 =>
    intro V hV
    go_simp
  simp only [Act.put, List.setIfInBounds_toArray, List.set_cons_zero, List.set_cons_succ]
  refine wpAnyH_take (i := 1) (oi := { dst := some 40, op := Op.nilCheck (Operand.tmp 39), type := 0, pos := "change.go:121", after := #[{ on := 0, ground := Ground.data }], guard := none }) (v := .pointer (some ⟨lb, 0, none⟩)) rfl (by kernel_rfl) (by kernel_rfl) (by kernel_rfl) (fun _ _ _ h => h.elim) (Or.inl ⟨by rfl, ?y2⟩) hS0.out ?_
  case y2 =>
    intro V hV
    go_simp
  simp only [Act.put, List.setIfInBounds_toArray, List.set_cons_zero, List.set_cons_succ]
  refine wpAnyH_take (i := 2) (oi := { dst := some 41, op := Op.fieldAddr 86 (Operand.tmp 40) 3, type := 0, pos := "change.go:121", after := #[{ on := 1, ground := Ground.data }], guard := none }) (v := .pointer (some ⟨lb, 35, none⟩)) rfl (by kernel_rfl) (by kernel_rfl) (by kernel_rfl) (fun _ _ _ h => h.elim) (Or.inl ⟨by rfl, ?y3⟩) hS0.out ?_
  case y3 =>
    intro V hV
    go_simp
  simp only [Act.put, List.setIfInBounds_toArray, List.set_cons_zero, List.set_cons_succ]
  refine wpAnyH_take (i := 3) (oi := { dst := some 42, op := Op.load 84 (Operand.tmp 41), type := 84, pos := "change.go:121", after := #[{ on := 2, ground := Ground.data }], guard := none }) (v := .map (some m)) rfl (by kernel_rfl) (by kernel_rfl) (by kernel_rfl) (fun _ _ _ h => h.elim) (Or.inl ⟨by rfl, ?y4⟩) hS0.out ?_
  case y4 =>
    intro V hV
    have hc : V.cell? ⟨lb, 35, none⟩ = some (.map (some m)) := (cell_keep hV HL.out.1 HN.out.1).trans ck
    go_simp
  simp only [Act.put, List.setIfInBounds_toArray, List.set_cons_zero, List.set_cons_succ]
  refine wpAnyH_take (i := 4) (oi := { dst := some 43, op := Op.load 32 (Operand.tmp 5), type := 32, pos := "change.go:121", after := #[], guard := none }) (v := .agg Y.toArray) rfl (by kernel_rfl) (by kernel_rfl) (by kernel_rfl) (fun _ _ _ h => h.elim) (yieldsIf_load_mid (by rfl) _ _ rfl _ _ rfl (Y) _ (fun V hV => rangeAt_same (HR.out) ((show Keep (fun k => k = m) A V from hV).block _ (HL.out.2) (HN.out.2))) Try.underlying32 rfl (HI.out)) hS0.out ?_
  simp only [Act.put, List.setIfInBounds_toArray, List.set_cons_zero, List.set_cons_succ]
  refine wpAnyH_take (i := 5) (oi := { dst := some 44, op := Op.build 90 #[], type := 90, pos := "change.go:121", after := #[], guard := none }) (v := .agg #[]) rfl (by kernel_rfl) (by kernel_rfl) (by kernel_rfl) (fun _ _ _ h => h.elim) (Or.inl ⟨by rfl, ?y5⟩) hS0.out ?_
  case y5 =>
    intro V hV
    go_simp
  simp only [Act.put, List.setIfInBounds_toArray, List.set_cons_zero, List.set_cons_succ]
  refine wpAnyH_ready (rs := [6]) (by kernel_rfl) (by simp) (AllReadyH.cons (i := 6) (o := { dst := none, op := Op.mapUpdate 84 (Operand.tmp 42) (Operand.tmp 43) (Operand.tmp 44), type := 0, pos := "change.go:121", after := #[{ on := 3, ground := Ground.data }, { on := 4, ground := Ground.data }, { on := 5, ground := Ground.data }, { on := 0, ground := Ground.phase }, { on := 1, ground := Ground.phase }, { on := 2, ground := Ground.phase }, { on := 3, ground := Ground.phase }, { on := 4, ground := Ground.phase }, { on := 5, ground := Ground.phase }], guard := none }) rfl ?_ AllReadyH.nil)
  · intro K1 hK1
    obtain ⟨V1, r1, r2, r3, r4⟩ := (hM0.out).put (t := 84) (E := 90) (h := y) Try.underlying84 HY.out.1 (.agg #[])
    have r1' : (Instr.mapUpdate 84 (.map (some m)) (.agg Y.toArray) (.agg #[])).run Try.prog V0 = .ok () V1 := by rw [← HY.out.2]; exact r1
    refine step_mapUp (by rfl) 84 _ _ _ rfl _ _ _ rfl rfl rfl V1 r1' ?_
    have hS1 : Hid (Keep (fun k => k = m) A V1 ∧ MP V1 m (kput M y (.agg #[]))) := ⟨(hS0.out).trans (Keep.grown (S := fun k => k = m) r3 rfl) (fun _ h _ => h), r2⟩
    clear r1 r1' r2 r3 r4
    refine hK1.out _ _ hS1.out.1 ?_
    clear hK1
    intro _
    try simp only [Act.put, List.setIfInBounds_toArray, List.set_cons_zero, List.set_cons_succ]
    refine wpAnyH_done (by kernel_rfl) ?_ _
    exact hQ V1 hS1.out.1 hS1.out.2
set_option maxRecDepth 100000 in
set_option maxHeartbeats 4000000 in
theorem kl28_7 {Q : Exit → Act → World → Prop} {x0 x1 x2 x3 x4 x6 x8 x9 x10 x11 x12 x13 x14 x15 x16 x17 x18 x19 x20 x21 x22 x23 x24 x25 x26 x27 x28 x29 x30 x31 x32 x33 x34 x35 : Value} {ds : List Deferred} {A : World} {lb d5 m : Nat} {y : Hs} {Y : List Value} {M : Kv Hs}
    (HL : Hid (lb < A.heap.size ∧ d5 < A.heap.size)) (HN : Hid ((¬ lb = m) ∧ ¬ d5 = m)) (ck : A.cell? ⟨lb, 35, none⟩ = some (.map (some m))) (HR : Hid (A.rangeAt d5 0 Y)) (HI : Hid ((Try.prog.info? 32).map (·.size) = some Y.length)) (HY : Hid (MK.ok y ∧ U y = Y)) (HM : Hid (MP A m M))
    (hQ : ∀ V1, Keep (fun k => k = m) A V1 → MP V1 m (kdel M y) → Q .normal { tmps := #[x0, x1, x2, x3, x4, .pointer (some ⟨d5, 0, none⟩), x6, .pointer (some ⟨lb, 0, none⟩), x8, x9, x10, x11, x12, x13, x14, x15, x16, x17, x18, x19, x20, x21, x22, x23, x24, x25, x26, x27, x28, x29, x30, .pointer (some ⟨lb, 0, none⟩), .pointer (some ⟨lb, 0, none⟩), .pointer (some ⟨lb, 35, none⟩), .map (some m), .agg Y.toArray], defers := ds } V1) :
    (Code.region 7 #[{ dst := some 31, op := Op.move (Operand.tmp 7), type := 71, pos := "change.go:134", after := #[], guard := none }, { dst := some 32, op := Op.nilCheck (Operand.tmp 31), type := 0, pos := "change.go:134", after := #[{ on := 0, ground := Ground.data }], guard := none }, { dst := some 33, op := Op.fieldAddr 86 (Operand.tmp 32) 3, type := 0, pos := "change.go:134", after := #[{ on := 1, ground := Ground.data }], guard := none }, { dst := some 34, op := Op.load 84 (Operand.tmp 33), type := 84, pos := "change.go:134", after := #[{ on := 2, ground := Ground.data }], guard := none }, { dst := some 35, op := Op.load 32 (Operand.tmp 5), type := 32, pos := "change.go:134", after := #[], guard := none }, { dst := none, op := Op.call { callee := Callee.builtin Builtin.delete, args := #[Operand.tmp 34, Operand.tmp 35], argTypes := #[84, 32] }, type := 0, pos := "change.go:134", after := #[{ on := 3, ground := Ground.data }, { on := 4, ground := Ground.data }], guard := none }] true).wp Try.prog Q { tmps := #[x0, x1, x2, x3, x4, .pointer (some ⟨d5, 0, none⟩), x6, .pointer (some ⟨lb, 0, none⟩), x8, x9, x10, x11, x12, x13, x14, x15, x16, x17, x18, x19, x20, x21, x22, x23, x24, x25, x26, x27, x28, x29, x30, x31, x32, x33, x34, x35], defers := ds } A := by
  refine Code.wp_mono (Q := fun x a' w' => match x with | .normal => Q .normal a' w' | _ => False) (by intro x a' w' h; cases x <;> first | exact h | exact h.elim) ?_
  refine wp_region_held (S := fun V => Keep (fun k => k = m) A V) (by kernel_rfl) ?_
  have hS0 : Hid (Keep (fun k => k = m) A A.drew) := (Keep.refl _ A).drew
  change wpAnyH Try.prog .any _ _ (fun V => Keep (fun k => k = m) A V) 6 (Array.replicate 6 false) _ A.drew
  obtain ⟨V0, hV0⟩ : ∃ V0, A.drew = V0 := ⟨_, rfl⟩
  rw [hV0]
  rw [hV0] at hS0
  have hM0 : Hid (MP V0 m M) := by
    show MP V0 m M
    rw [← hV0]
    exact HM.out.same rfl
  clear hV0
  refine wpAnyH_take (i := 0) (oi := { dst := some 31, op := Op.move (Operand.tmp 7), type := 71, pos := "change.go:134", after := #[], guard := none }) (v := .pointer (some ⟨lb, 0, none⟩)) rfl (by kernel_rfl) (by kernel_rfl) (by kernel_rfl) (fun _ _ _ h => h.elim) (Or.inl ⟨by rfl, ?y1⟩) hS0.out ?_
  case y1 =>
    intro V hV
    go_simp
  simp only [Act.put, List.setIfInBounds_toArray, List.set_cons_zero, List.set_cons_succ]
  refine wpAnyH_take (i := 1) (oi := { dst := some 32, op := Op.nilCheck (Operand.tmp 31), type := 0, pos := "change.go:134", after := #[{ on := 0, ground := Ground.data }], guard := none }) (v := .pointer (some ⟨lb, 0, none⟩)) rfl (by kernel_rfl) (by kernel_rfl) (by kernel_rfl) (fun _ _ _ h => h.elim) (Or.inl ⟨by rfl, ?y2⟩) hS0.out ?_
  case y2 =>
    intro V hV
    go_simp
  simp only [Act.put, List.setIfInBounds_toArray, List.set_cons_zero, List.set_cons_succ]
  refine wpAnyH_take (i := 2) (oi := { dst := some 33, op := Op.fieldAddr 86 (Operand.tmp 32) 3, type := 0, pos := "change.go:134", after := #[{ on := 1, ground := Ground.data }], guard := none }) (v := .pointer (some ⟨lb, 35, none⟩)) rfl (by kernel_rfl) (by kernel_rfl) (by kernel_rfl) (fun _ _ _ h => h.elim) (Or.inl ⟨by rfl, ?y3⟩) hS0.out ?_
  case y3 =>
    intro V hV
    go_simp
  simp only [Act.put, List.setIfInBounds_toArray, List.set_cons_zero, List.set_cons_succ]
  refine wpAnyH_take (i := 3) (oi := { dst := some 34, op := Op.load 84 (Operand.tmp 33), type := 84, pos := "change.go:134", after := #[{ on := 2, ground := Ground.data }], guard := none }) (v := .map (some m)) rfl (by kernel_rfl) (by kernel_rfl) (by kernel_rfl) (fun _ _ _ h => h.elim) (Or.inl ⟨by rfl, ?y4⟩) hS0.out ?_
  case y4 =>
    intro V hV
    have hc : V.cell? ⟨lb, 35, none⟩ = some (.map (some m)) := (cell_keep hV HL.out.1 HN.out.1).trans ck
    go_simp
  simp only [Act.put, List.setIfInBounds_toArray, List.set_cons_zero, List.set_cons_succ]
  refine wpAnyH_take (i := 4) (oi := { dst := some 35, op := Op.load 32 (Operand.tmp 5), type := 32, pos := "change.go:134", after := #[], guard := none }) (v := .agg Y.toArray) rfl (by kernel_rfl) (by kernel_rfl) (by kernel_rfl) (fun _ _ _ h => h.elim) (yieldsIf_load_mid (by rfl) _ _ rfl _ _ rfl (Y) _ (fun V hV => rangeAt_same (HR.out) ((show Keep (fun k => k = m) A V from hV).block _ (HL.out.2) (HN.out.2))) Try.underlying32 rfl (HI.out)) hS0.out ?_
  simp only [Act.put, List.setIfInBounds_toArray, List.set_cons_zero, List.set_cons_succ]
  refine wpAnyH_ready (rs := [5]) (by kernel_rfl) (by simp) (AllReadyH.cons (i := 5) (o := { dst := none, op := Op.call { callee := Callee.builtin Builtin.delete, args := #[Operand.tmp 34, Operand.tmp 35], argTypes := #[84, 32] }, type := 0, pos := "change.go:134", after := #[{ on := 3, ground := Ground.data }, { on := 4, ground := Ground.data }], guard := none }) rfl ?_ AllReadyH.nil)
  · intro K1 hK1
    obtain ⟨V1, r1, r2, r3, r4⟩ := (hM0.out).del (t := 84) (E := 90) (h := y) Try.underlying84 HY.out.1 0
    have r1' : (Builtin.delete_ #[84, 32] 0 #[.map (some m), .agg Y.toArray]).run Try.prog V0 = .ok (.tuple #[]) V1 := by rw [← HY.out.2]; exact r1
    refine step_del (by rfl) 84 32 _ _ rfl _ _ rfl rfl (.tuple #[]) V1 r1' ?_
    have hS1 : Hid (Keep (fun k => k = m) A V1 ∧ MP V1 m (kdel M y)) := ⟨(hS0.out).trans (Keep.grown (S := fun k => k = m) r3 rfl) (fun _ h _ => h), r2⟩
    clear r1 r1' r2 r3 r4
    refine hK1.out _ _ hS1.out.1 ?_
    clear hK1
    intro _
    try simp only [Act.put, List.setIfInBounds_toArray, List.set_cons_zero, List.set_cons_succ]
    refine wpAnyH_done (by kernel_rfl) ?_ _
    exact hQ V1 hS1.out.1 hS1.out.2
end Go.Proofs.Ytjcihaohpbmogaa.Oct
