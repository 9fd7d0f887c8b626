/-
  Layer 11 (lines): isMade, isEnd, isLine, Has, Len, New.
  Layer 11 (lines): isLine, Has, Len, New.
-/
import Derived.Test.YtjcihaohpbmogaaQpAB
/- Layer 11 (lines): isMade, isEnd, isLine, Has, Len, New. -/
namespace Go.Proofs.Ytjcihaohpbmogaa.Oct
open Go.RowKit
set_option maxRecDepth 100000
set_option linter.unusedSimpArgs false
set_option linter.unusedVariables false
set_option linter.unusedSectionVars false

theorem wpList_eqV {ops : Array Oper} {rest : List Oper} {o : Oper} {a : Act} {w : World} {Q : Exit → Act → World → Prop} (hw : Region.wanted o (yielded ops a.tmps) = true) (p q : Operand) (hop : o.op = .binOp .eql 34 p q 34) (x y : Vx) (hx : x.ok) (hy : y.ok) (B : Bool) (hB : eqVx x y = B) (h1 : a.eval p = .agg x.cells.toArray) (h2 : a.eval q = .agg y.cells.toArray)
    (h : wpList Try.prog ops Q rest (a.put o.dst (.bool B)) w) : wpList Try.prog ops Q (o :: rest) a w := by
  refine Go.BigFrame.wpList_want hw fun K hK => ?_
  have he := eqVb x y hx hy w
  rw [hB] at he
  have hg : (eqGuard BinOp.eql 34 p q (.agg x.cells.toArray) (.agg y.cells.toArray)).run Try.prog w = .ok () w := by
    first
    | (simp [eqGuard, go_sem]; done)
    | (unfold eqGuard; simp [go_sem, Try.underlying34]; done)
    | (unfold eqGuard; go_simp; done)
  unfold Oper.wp execOp
  simp only [hop, h1, h2, Sem.run_bind, Sem.run_pure, hg, Result.andThen_ok, he]
  exact hK _ _ h
theorem yl_eqV {o : Oper} {a : Act} (V : World) (p q : Operand) (x y : Vx) (hx : x.ok) (hy : y.ok) (B : Bool) (hB : eqVx x y = B) (hop : o.op = .binOp .eql 34 p q 34) (h1 : a.eval p = .agg x.cells.toArray) (h2 : a.eval q = .agg y.cells.toArray) : (execOp a.eval o).run Try.prog V = .ok (.value (.bool B)) V := by
  have h := eqVb x y hx hy V
  rw [hB] at h
  unfold execOp
  simp only [hop, h1, h2, Sem.run_bind, Sem.run_pure]
  have hg : (eqGuard BinOp.eql 34 p q (.agg x.cells.toArray) (.agg y.cells.toArray)).run Try.prog V = .ok () V := by
    first
    | (simp [eqGuard, go_sem]; done)
    | (unfold eqGuard; simp [go_sem, Try.underlying34]; done)
    | (unfold eqGuard; go_simp; done)
  rw [hg]
  simp only [Result.andThen_ok, h]
theorem yl_neV {o : Oper} {a : Act} (V : World) (p q : Operand) (x y : Vx) (hx : x.ok) (hy : y.ok) (B : Bool) (hB : (!eqVx x y) = B) (hop : o.op = .binOp .neq 34 p q 34) (h1 : a.eval p = .agg x.cells.toArray) (h2 : a.eval q = .agg y.cells.toArray) : (execOp a.eval o).run Try.prog V = .ok (.value (.bool B)) V := by
  have h := neVb x y hx hy V
  rw [hB] at h
  unfold execOp
  simp only [hop, h1, h2, Sem.run_bind, Sem.run_pure]
  have hg : (eqGuard BinOp.neq 34 p q (.agg x.cells.toArray) (.agg y.cells.toArray)).run Try.prog V = .ok () V := by
    first
    | (simp [eqGuard, go_sem]; done)
    | (unfold eqGuard; simp [go_sem, Try.underlying34]; done)
    | (unfold eqGuard; go_simp; done)
  rw [hg]
  simp only [Result.andThen_ok, h]
theorem yl_eqI {o : Oper} {a : Act} (V : World) (p q : Operand) (x y : Int) (B : Bool) (hB : (x == y) = B) (hop : o.op = .binOp .eql 3 p q 3) (h1 : a.eval p = iv x) (h2 : a.eval q = iv y) : (execOp a.eval o).run Try.prog V = .ok (.value (.bool B)) V := by
  subst hB
  unfold execOp
  simp only [hop, h1, h2, Sem.run_bind, Sem.run_pure]
  first
  | (simp [eqGuard, go_sem, Try.underlying3]; done)
  | (go_simp; done)
/-- Top or Bottom -/
def isE (v : Vx) : Bool := eqVx v vTop || eqVx v vBot
theorem vTop_k : Vk vTop := ⟨vTop_ok, by decide⟩
theorem vBot_k : Vk vBot := ⟨vBot_ok, by decide⟩
theorem neq65 (m : Nat) (W : World) : (binOp BinOp.neq 65 (.map (some m)) (.map none)).run Try.prog W = .ok (.bool true) W := by kernel_rfl
theorem neq65n (W : World) : (binOp BinOp.neq 65 (.map none) (.map none)).run Try.prog W = .ok (.bool false) W := by kernel_rfl
theorem made_is {w : World} {p : Nat} {G : Gm} (h : GAt w p G) : Calls Try.prog 30 #[.pointer (some ⟨p, 0, none⟩)] w fun e w' => e = .returned (.bool true) ∧ w = w' := by
  have c0 : w.cell? ⟨p, 0, none⟩ = some (.map (some G.mb)) := h.blk.cell rfl
  clear h
  generalize G.mb = m at c0
  have hq := neq65 m
  go_enter Try.func30, Try.ntmps30
  go_wp2
  go_ret
  exact ⟨rfl, rfl⟩
theorem made_nil (w : World) : Calls Try.prog 30 #[.pointer none] w fun e w' => e = .returned (.bool false) ∧ w = w' := by
  go_enter Try.func30, Try.ntmps30
  go_wp2
  go_ret
  exact ⟨rfl, rfl⟩
theorem made_zero {w : World} {p : Nat} (h : Blk w p 67 [.map none]) : Calls Try.prog 30 #[.pointer (some ⟨p, 0, none⟩)] w fun e w' => e = .returned (.bool false) ∧ w = w' := by
  have c0 : w.cell? ⟨p, 0, none⟩ = some (.map none) := h.cell rfl
  have hq := neq65n
  clear h
  go_enter Try.func30, Try.ntmps30
  go_wp2
  go_ret
  exact ⟨rfl, rfl⟩
set_option maxRecDepth 100000 in
set_option maxHeartbeats 4000000 in
theorem en1a {Q : Exit → Act → World → Prop} {x0 x2 x3 x4 x5 x6 x7 x8 x9 x10 : Value} {ds : List Deferred} {A : World} {d : Nat} {v : Vx} {B : Bool}
    (HL : Hid (d < A.heap.size)) (HR : Hid (A.rangeAt d 0 v.cells)) (HV : Hid v.ok) (HB : Hid (eqVx v vTop = true)) (HB2 : Hid (eqVx v vBot = B))
    (hQ : ∀ V1, Below A.heap.size A V1 → Q .normal { tmps := #[x0, .pointer (some ⟨d, 0, none⟩), .bool true, .agg v.cells.toArray, .agg vTop.cells.toArray, .bool true, .bool true, undef, undef, undef, .bool true], defers := ds } V1) :
    (Code.region 1 #[{ dst := some 3, op := Op.load 34 (Operand.tmp 1), type := 34, pos := "lines.go:31", after := #[], guard := none }, { dst := some 4, op := Op.call { callee := Callee.value (Operand.func 45), args := #[], argTypes := #[] }, type := 34, pos := "lines.go:31", after := #[], guard := none }, { dst := some 5, op := Op.binOp BinOp.eql 34 (Operand.tmp 3) (Operand.tmp 4) 34, type := 4, pos := "lines.go:31", after := #[{ on := 0, ground := Ground.data }, { on := 1, ground := Ground.data }], guard := none }, { dst := some 6, op := Op.move (Operand.tmp 5), type := 4, pos := "lines.go:31", after := #[{ on := 2, ground := Ground.data }, { on := 1, ground := Ground.chain }], guard := none }, { dst := some 7, op := Op.load 34 (Operand.tmp 1), type := 34, pos := "lines.go:31", after := #[{ on := 3, ground := Ground.guard }], guard := some (3, false) }, { dst := some 8, op := Op.call { callee := Callee.value (Operand.func 46), args := #[], argTypes := #[] }, type := 34, pos := "lines.go:31", after := #[{ on := 3, ground := Ground.chain }, { on := 3, ground := Ground.guard }], guard := some (3, false) }, { dst := some 9, op := Op.binOp BinOp.eql 34 (Operand.tmp 7) (Operand.tmp 8) 34, type := 4, pos := "lines.go:31", after := #[{ on := 4, ground := Ground.data }, { on := 5, ground := Ground.data }, { on := 3, ground := Ground.guard }], guard := some (3, false) }, { dst := some 10, op := Op.pick (Operand.tmp 6) (Operand.const (Value.bool true)) (Operand.tmp 9), type := 4, pos := "lines.go:31", after := #[{ on := 3, ground := Ground.data }, { on := 6, ground := Ground.data }], guard := none }, { dst := some 2, op := Op.assign (Operand.tmp 10), type := 4, pos := "lines.go:31", after := #[{ on := 7, ground := Ground.data }, { on := 5, ground := Ground.chain }, { on := 0, ground := Ground.phase }, { on := 1, ground := Ground.phase }, { on := 2, ground := Ground.phase }, { on := 3, ground := Ground.phase }, { on := 4, ground := Ground.phase }, { on := 5, ground := Ground.phase }, { on := 6, ground := Ground.phase }, { on := 7, ground := Ground.phase }], guard := none }] true).wp Try.prog Q { tmps := #[x0, .pointer (some ⟨d, 0, none⟩), x2, x3, x4, x5, x6, x7, x8, x9, x10], defers := ds } A := by
  refine Code.wp_mono (Q := fun x a' w' => match x with | .normal => Q .normal a' w' | _ => False) (by intro x a' w' h; cases x <;> first | exact h | exact h.elim) ?_
  refine wp_region_held (S := fun V => Below A.heap.size A V) (by kernel_rfl) ?_
  have hS0 : Hid (Below A.heap.size A A.drew) := below_drew0 A
  change wpAnyH Try.prog .any _ _ (fun V => Below A.heap.size A V) 9 (Array.replicate 9 false) _ A.drew
  obtain ⟨V0, hV0⟩ : ∃ V0, A.drew = V0 := ⟨_, rfl⟩
  rw [hV0]
  rw [hV0] at hS0
  clear hV0
  refine wpAnyH_take (i := 0) (oi := { dst := some 3, op := Op.load 34 (Operand.tmp 1), type := 34, pos := "lines.go:31", after := #[], guard := none }) (v := .agg v.cells.toArray) rfl (by kernel_rfl) (by kernel_rfl) (by kernel_rfl) (fun _ _ _ h => h.elim) (yieldsIf_load_mid (by rfl) _ _ rfl _ _ rfl (v.cells) _ (fun V hV => rangeAt_same (HR.out) ((show Below A.heap.size A V from hV).block _ (HL.out))) Try.underlying34 rfl (info34 HV.out)) hS0.out ?_
  simp only [Act.put, List.setIfInBounds_toArray, List.set_cons_zero, List.set_cons_succ]
  refine wpAnyH_ready (rs := [1]) (by kernel_rfl) (by simp) (AllReadyH.cons (i := 1) (o := { dst := some 4, op := Op.call { callee := Callee.value (Operand.func 45), args := #[], argTypes := #[] }, type := 34, pos := "lines.go:31", after := #[], guard := none }) rfl ?_ AllReadyH.nil)
  · intro K1 hK1
    rw [if_pos (by rfl)]
    have HC1 := top_is V0 vTop.cells rfl
    go_wp2_with fail
    refine HC1.mono ?_
    rintro e V1 ⟨rfl, hb1⟩
    dsimp only
    clear HC1
    have hS1 : Hid (Below A.heap.size A V1) := hS0.out.trans (hb1.mono hS0.out.size)
    clear hb1
    refine hK1.out _ _ hS1.out ?_
    clear hK1
    intro _
    try simp only [Act.put, List.setIfInBounds_toArray, List.set_cons_zero, List.set_cons_succ]
    refine wpAnyH_take (i := 2) (oi := { dst := some 5, op := Op.binOp BinOp.eql 34 (Operand.tmp 3) (Operand.tmp 4) 34, type := 4, pos := "lines.go:31", after := #[{ on := 0, ground := Ground.data }, { on := 1, ground := Ground.data }], guard := none }) (v := .bool true) rfl (by kernel_rfl) (by kernel_rfl) (by kernel_rfl) (fun _ _ _ h => h.elim) (Or.inl ⟨by rfl, ?y1⟩) hS1.out ?_
    case y1 =>
      intro V hV
      exact yl_eqV V _ _ v vTop HV.out vTop_ok true HB.out rfl rfl rfl
    simp only [Act.put, List.setIfInBounds_toArray, List.set_cons_zero, List.set_cons_succ]
    refine wpAnyH_take (i := 3) (oi := { dst := some 6, op := Op.move (Operand.tmp 5), type := 4, pos := "lines.go:31", after := #[{ on := 2, ground := Ground.data }, { on := 1, ground := Ground.chain }], guard := none }) (v := .bool true) rfl (by kernel_rfl) (by kernel_rfl) (by kernel_rfl) (fun _ _ _ h => h.elim) (Or.inl ⟨by rfl, ?y2⟩) hS1.out ?_
    case y2 =>
      intro V hV
      go_simp
    simp only [Act.put, List.setIfInBounds_toArray, List.set_cons_zero, List.set_cons_succ]
    refine wpAnyH_take (i := 4) (oi := { dst := some 7, op := Op.load 34 (Operand.tmp 1), type := 34, pos := "lines.go:31", after := #[{ on := 3, ground := Ground.guard }], guard := some (3, false) }) (v := undef) rfl (by kernel_rfl) (by kernel_rfl) (by kernel_rfl) (fun _ _ _ h => h.elim) (Or.inr ⟨by rfl, rfl⟩) hS1.out ?_
    simp only [Act.put, List.setIfInBounds_toArray, List.set_cons_zero, List.set_cons_succ]
    refine wpAnyH_take (i := 5) (oi := { dst := some 8, op := Op.call { callee := Callee.value (Operand.func 46), args := #[], argTypes := #[] }, type := 34, pos := "lines.go:31", after := #[{ on := 3, ground := Ground.chain }, { on := 3, ground := Ground.guard }], guard := some (3, false) }) (v := undef) rfl (by kernel_rfl) (by kernel_rfl) (by kernel_rfl) (fun _ _ _ h => h.elim) (Or.inr ⟨by rfl, rfl⟩) hS1.out ?_
    simp only [Act.put, List.setIfInBounds_toArray, List.set_cons_zero, List.set_cons_succ]
    refine wpAnyH_take (i := 6) (oi := { dst := some 9, op := Op.binOp BinOp.eql 34 (Operand.tmp 7) (Operand.tmp 8) 34, type := 4, pos := "lines.go:31", after := #[{ on := 4, ground := Ground.data }, { on := 5, ground := Ground.data }, { on := 3, ground := Ground.guard }], guard := some (3, false) }) (v := undef) rfl (by kernel_rfl) (by kernel_rfl) (by kernel_rfl) (fun _ _ _ h => h.elim) (Or.inr ⟨by rfl, rfl⟩) hS1.out ?_
    simp only [Act.put, List.setIfInBounds_toArray, List.set_cons_zero, List.set_cons_succ]
    refine wpAnyH_take (i := 7) (oi := { dst := some 10, op := Op.pick (Operand.tmp 6) (Operand.const (Value.bool true)) (Operand.tmp 9), type := 4, pos := "lines.go:31", after := #[{ on := 3, ground := Ground.data }, { on := 6, ground := Ground.data }], guard := none }) (v := .bool true) rfl (by kernel_rfl) (by kernel_rfl) (by kernel_rfl) (fun _ _ _ h => h.elim) (Or.inl ⟨by rfl, ?y3⟩) hS1.out ?_
    case y3 =>
      intro V hV
      go_simp
    simp only [Act.put, List.setIfInBounds_toArray, List.set_cons_zero, List.set_cons_succ]
    refine wpAnyH_take (i := 8) (oi := { dst := some 2, op := Op.assign (Operand.tmp 10), type := 4, pos := "lines.go:31", after := #[{ on := 7, ground := Ground.data }, { on := 5, ground := Ground.chain }, { on := 0, ground := Ground.phase }, { on := 1, ground := Ground.phase }, { on := 2, ground := Ground.phase }, { on := 3, ground := Ground.phase }, { on := 4, ground := Ground.phase }, { on := 5, ground := Ground.phase }, { on := 6, ground := Ground.phase }, { on := 7, ground := Ground.phase }], guard := none }) (v := .bool true) rfl (by kernel_rfl) (by kernel_rfl) (by kernel_rfl) (fun _ _ _ h => h.elim) (Or.inl ⟨by rfl, ?y4⟩) hS1.out ?_
    case y4 =>
      intro V hV
      go_simp
    simp only [Act.put, List.setIfInBounds_toArray, List.set_cons_zero, List.set_cons_succ]
    refine wpAnyH_done (by kernel_rfl) ?_ _
    exact hQ V1 hS1.out
set_option maxRecDepth 100000 in
set_option maxHeartbeats 4000000 in
theorem en1b {Q : Exit → Act → World → Prop} {x0 x2 x3 x4 x5 x6 x7 x8 x9 x10 : Value} {ds : List Deferred} {A : World} {d : Nat} {v : Vx} {B : Bool}
    (HL : Hid (d < A.heap.size)) (HR : Hid (A.rangeAt d 0 v.cells)) (HV : Hid v.ok) (HB : Hid (eqVx v vTop = false)) (HB2 : Hid (eqVx v vBot = B))
    (hQ : ∀ V1, Below A.heap.size A V1 → Q .normal { tmps := #[x0, .pointer (some ⟨d, 0, none⟩), .bool B, .agg v.cells.toArray, .agg vTop.cells.toArray, .bool false, .bool false, .agg v.cells.toArray, .agg vBot.cells.toArray, .bool B, .bool B], defers := ds } V1) :
    (Code.region 1 #[{ dst := some 3, op := Op.load 34 (Operand.tmp 1), type := 34, pos := "lines.go:31", after := #[], guard := none }, { dst := some 4, op := Op.call { callee := Callee.value (Operand.func 45), args := #[], argTypes := #[] }, type := 34, pos := "lines.go:31", after := #[], guard := none }, { dst := some 5, op := Op.binOp BinOp.eql 34 (Operand.tmp 3) (Operand.tmp 4) 34, type := 4, pos := "lines.go:31", after := #[{ on := 0, ground := Ground.data }, { on := 1, ground := Ground.data }], guard := none }, { dst := some 6, op := Op.move (Operand.tmp 5), type := 4, pos := "lines.go:31", after := #[{ on := 2, ground := Ground.data }, { on := 1, ground := Ground.chain }], guard := none }, { dst := some 7, op := Op.load 34 (Operand.tmp 1), type := 34, pos := "lines.go:31", after := #[{ on := 3, ground := Ground.guard }], guard := some (3, false) }, { dst := some 8, op := Op.call { callee := Callee.value (Operand.func 46), args := #[], argTypes := #[] }, type := 34, pos := "lines.go:31", after := #[{ on := 3, ground := Ground.chain }, { on := 3, ground := Ground.guard }], guard := some (3, false) }, { dst := some 9, op := Op.binOp BinOp.eql 34 (Operand.tmp 7) (Operand.tmp 8) 34, type := 4, pos := "lines.go:31", after := #[{ on := 4, ground := Ground.data }, { on := 5, ground := Ground.data }, { on := 3, ground := Ground.guard }], guard := some (3, false) }, { dst := some 10, op := Op.pick (Operand.tmp 6) (Operand.const (Value.bool true)) (Operand.tmp 9), type := 4, pos := "lines.go:31", after := #[{ on := 3, ground := Ground.data }, { on := 6, ground := Ground.data }], guard := none }, { dst := some 2, op := Op.assign (Operand.tmp 10), type := 4, pos := "lines.go:31", after := #[{ on := 7, ground := Ground.data }, { on := 5, ground := Ground.chain }, { on := 0, ground := Ground.phase }, { on := 1, ground := Ground.phase }, { on := 2, ground := Ground.phase }, { on := 3, ground := Ground.phase }, { on := 4, ground := Ground.phase }, { on := 5, ground := Ground.phase }, { on := 6, ground := Ground.phase }, { on := 7, ground := Ground.phase }], guard := none }] true).wp Try.prog Q { tmps := #[x0, .pointer (some ⟨d, 0, none⟩), x2, x3, x4, x5, x6, x7, x8, x9, x10], defers := ds } A := by
  refine Code.wp_mono (Q := fun x a' w' => match x with | .normal => Q .normal a' w' | _ => False) (by intro x a' w' h; cases x <;> first | exact h | exact h.elim) ?_
  refine wp_region_held (S := fun V => Below A.heap.size A V) (by kernel_rfl) ?_
  have hS0 : Hid (Below A.heap.size A A.drew) := below_drew0 A
  change wpAnyH Try.prog .any _ _ (fun V => Below A.heap.size A V) 9 (Array.replicate 9 false) _ A.drew
  obtain ⟨V0, hV0⟩ : ∃ V0, A.drew = V0 := ⟨_, rfl⟩
  rw [hV0]
  rw [hV0] at hS0
  clear hV0
  refine wpAnyH_take (i := 0) (oi := { dst := some 3, op := Op.load 34 (Operand.tmp 1), type := 34, pos := "lines.go:31", after := #[], guard := none }) (v := .agg v.cells.toArray) rfl (by kernel_rfl) (by kernel_rfl) (by kernel_rfl) (fun _ _ _ h => h.elim) (yieldsIf_load_mid (by rfl) _ _ rfl _ _ rfl (v.cells) _ (fun V hV => rangeAt_same (HR.out) ((show Below A.heap.size A V from hV).block _ (HL.out))) Try.underlying34 rfl (info34 HV.out)) hS0.out ?_
  simp only [Act.put, List.setIfInBounds_toArray, List.set_cons_zero, List.set_cons_succ]
  refine wpAnyH_ready (rs := [1]) (by kernel_rfl) (by simp) (AllReadyH.cons (i := 1) (o := { dst := some 4, op := Op.call { callee := Callee.value (Operand.func 45), args := #[], argTypes := #[] }, type := 34, pos := "lines.go:31", after := #[], guard := none }) rfl ?_ AllReadyH.nil)
  · intro K1 hK1
    rw [if_pos (by rfl)]
    have HC1 := top_is V0 vTop.cells rfl
    go_wp2_with fail
    refine HC1.mono ?_
    rintro e V1 ⟨rfl, hb1⟩
    dsimp only
    clear HC1
    have hS1 : Hid (Below A.heap.size A V1) := hS0.out.trans (hb1.mono hS0.out.size)
    clear hb1
    refine hK1.out _ _ hS1.out ?_
    clear hK1
    intro _
    try simp only [Act.put, List.setIfInBounds_toArray, List.set_cons_zero, List.set_cons_succ]
    refine wpAnyH_take (i := 2) (oi := { dst := some 5, op := Op.binOp BinOp.eql 34 (Operand.tmp 3) (Operand.tmp 4) 34, type := 4, pos := "lines.go:31", after := #[{ on := 0, ground := Ground.data }, { on := 1, ground := Ground.data }], guard := none }) (v := .bool false) rfl (by kernel_rfl) (by kernel_rfl) (by kernel_rfl) (fun _ _ _ h => h.elim) (Or.inl ⟨by rfl, ?y1⟩) hS1.out ?_
    case y1 =>
      intro V hV
      exact yl_eqV V _ _ v vTop HV.out vTop_ok false HB.out rfl rfl rfl
    simp only [Act.put, List.setIfInBounds_toArray, List.set_cons_zero, List.set_cons_succ]
    refine wpAnyH_take (i := 3) (oi := { dst := some 6, op := Op.move (Operand.tmp 5), type := 4, pos := "lines.go:31", after := #[{ on := 2, ground := Ground.data }, { on := 1, ground := Ground.chain }], guard := none }) (v := .bool false) rfl (by kernel_rfl) (by kernel_rfl) (by kernel_rfl) (fun _ _ _ h => h.elim) (Or.inl ⟨by rfl, ?y2⟩) hS1.out ?_
    case y2 =>
      intro V hV
      go_simp
    simp only [Act.put, List.setIfInBounds_toArray, List.set_cons_zero, List.set_cons_succ]
    refine wpAnyH_take (i := 4) (oi := { dst := some 7, op := Op.load 34 (Operand.tmp 1), type := 34, pos := "lines.go:31", after := #[{ on := 3, ground := Ground.guard }], guard := some (3, false) }) (v := .agg v.cells.toArray) rfl (by kernel_rfl) (by kernel_rfl) (by kernel_rfl) (fun _ _ _ h => h.elim) (yieldsIf_load_mid (by rfl) _ _ rfl _ _ rfl (v.cells) _ (fun V hV => rangeAt_same (HR.out) ((show Below A.heap.size A V from hV).block _ (HL.out))) Try.underlying34 rfl (info34 HV.out)) hS1.out ?_
    simp only [Act.put, List.setIfInBounds_toArray, List.set_cons_zero, List.set_cons_succ]
    refine wpAnyH_ready (rs := [5]) (by kernel_rfl) (by simp) (AllReadyH.cons (i := 5) (o := { dst := some 8, op := Op.call { callee := Callee.value (Operand.func 46), args := #[], argTypes := #[] }, type := 34, pos := "lines.go:31", after := #[{ on := 3, ground := Ground.chain }, { on := 3, ground := Ground.guard }], guard := some (3, false) }) rfl ?_ AllReadyH.nil)
    · intro K1 hK1
      rw [if_pos (by rfl)]
      have HC2 := bot_is V1 vBot.cells rfl
      go_wp2_with fail
      refine HC2.mono ?_
      rintro e V2 ⟨rfl, hb2⟩
      dsimp only
      clear HC2
      have hS2 : Hid (Below A.heap.size A V2) := hS1.out.trans (hb2.mono hS1.out.size)
      clear hb2
      refine hK1.out _ _ hS2.out ?_
      clear hK1
      intro _
      try simp only [Act.put, List.setIfInBounds_toArray, List.set_cons_zero, List.set_cons_succ]
      refine wpAnyH_take (i := 6) (oi := { dst := some 9, op := Op.binOp BinOp.eql 34 (Operand.tmp 7) (Operand.tmp 8) 34, type := 4, pos := "lines.go:31", after := #[{ on := 4, ground := Ground.data }, { on := 5, ground := Ground.data }, { on := 3, ground := Ground.guard }], guard := some (3, false) }) (v := .bool B) rfl (by kernel_rfl) (by kernel_rfl) (by kernel_rfl) (fun _ _ _ h => h.elim) (Or.inl ⟨by rfl, ?y3⟩) hS2.out ?_
      case y3 =>
        intro V hV
        exact yl_eqV V _ _ v vBot HV.out vBot_ok B HB2.out rfl rfl rfl
      simp only [Act.put, List.setIfInBounds_toArray, List.set_cons_zero, List.set_cons_succ]
      refine wpAnyH_take (i := 7) (oi := { dst := some 10, op := Op.pick (Operand.tmp 6) (Operand.const (Value.bool true)) (Operand.tmp 9), type := 4, pos := "lines.go:31", after := #[{ on := 3, ground := Ground.data }, { on := 6, ground := Ground.data }], guard := none }) (v := .bool B) rfl (by kernel_rfl) (by kernel_rfl) (by kernel_rfl) (fun _ _ _ h => h.elim) (Or.inl ⟨by rfl, ?y4⟩) hS2.out ?_
      case y4 =>
        intro V hV
        go_simp
      simp only [Act.put, List.setIfInBounds_toArray, List.set_cons_zero, List.set_cons_succ]
      refine wpAnyH_take (i := 8) (oi := { dst := some 2, op := Op.assign (Operand.tmp 10), type := 4, pos := "lines.go:31", after := #[{ on := 7, ground := Ground.data }, { on := 5, ground := Ground.chain }, { on := 0, ground := Ground.phase }, { on := 1, ground := Ground.phase }, { on := 2, ground := Ground.phase }, { on := 3, ground := Ground.phase }, { on := 4, ground := Ground.phase }, { on := 5, ground := Ground.phase }, { on := 6, ground := Ground.phase }, { on := 7, ground := Ground.phase }], guard := none }) (v := .bool B) rfl (by kernel_rfl) (by kernel_rfl) (by kernel_rfl) (fun _ _ _ h => h.elim) (Or.inl ⟨by rfl, ?y5⟩) hS2.out ?_
      case y5 =>
        intro V hV
        go_simp
      simp only [Act.put, List.setIfInBounds_toArray, List.set_cons_zero, List.set_cons_succ]
      refine wpAnyH_done (by kernel_rfl) ?_ _
      exact hQ V2 hS2.out
set_option maxHeartbeats 1000000 in
theorem isEnd_is (w : World) (v : Vx) (hv : v.ok) (X : List Value) (hX : v.cells = X) (B : Bool) (hB : isE v = B) : Calls Try.prog 43 #[.agg X.toArray] w fun e w' => e = .returned (.bool B) ∧ Below w.heap.size w w' := by
  subst hX
  obtain ⟨d, hd⟩ : ∃ d, w.heap.size = d := ⟨_, rfl⟩
  obtain ⟨W, hW⟩ : ∃ W, w.alloc (.cells v.cells.toArray 34) = W := ⟨_, rfl⟩
  have b1 : Below w.heap.size w W := by rw [← hW]; exact below_al _ _
  have k1 : Blk W d 34 v.cells := by rw [← hW, ← hd]; exact Blk.new w _ _
  have HW : Hid (Below w.heap.size w W) := b1
  have HL : Hid (d < W.heap.size) := k1.lt
  have HR : Hid (W.rangeAt d 0 v.cells) := k1.range0
  have HV : Hid v.ok := hv
  have h1 := Vx.one v
  have h2 := Try.underlying34
  have h3 := info34 hv
  have h4 := Vx.len hv
  clear b1 k1 hv
  unfold isE at hB
  cases hB1 : eqVx v vTop with
  | true =>
    rw [hB1, Bool.true_or] at hB
    subst hB
    have HB : Hid (eqVx v vTop = true) := hB1
    clear hB1
    go_enter Try.func43, Try.ntmps43
    go_wp2_with fail
    refine en1a HL HR HV HB (B := eqVx v vBot) rfl ?_
    intro V1 hb1
    have HF : Hid (Below w.heap.size w V1) := below_tr HW.out hb1
    clear hb1 hd hW HB
    go_wp2
    go_ret
    exact ⟨rfl, HF.out⟩
  | false =>
    rw [hB1, Bool.false_or] at hB
    have HB : Hid (eqVx v vTop = false) := hB1
    have HB2 : Hid (eqVx v vBot = B) := hB
    clear hB1 hB
    go_enter Try.func43, Try.ntmps43
    go_wp2_with fail
    refine en1b HL HR HV HB HB2 ?_
    intro V1 hb1
    have HF : Hid (Below w.heap.size w V1) := below_tr HW.out hb1
    clear hb1 hd hW HB HB2
    go_wp2
    go_ret
    exact ⟨rfl, HF.out⟩
end Go.Proofs.Ytjcihaohpbmogaa.Oct

/- Layer 11 (lines): isLine, Has, Len, New. -/
namespace Go.Proofs.Ytjcihaohpbmogaa.Oct
open Go.RowKit
set_option maxRecDepth 100000
set_option linter.unusedSimpArgs false
set_option linter.unusedVariables false
set_option linter.unusedSectionVars false

theorem neq71 (q : Option Ln) (W : World) : (binOp BinOp.neq 71 (ptrOf q) (.pointer none)).run Try.prog W = .ok (.bool q.isSome) W := by
  cases q with
  | none => kernel_rfl
  | some l =>
    show (binOp BinOp.neq 71 (.pointer (some ⟨l.blk, 0, none⟩)) (.pointer none)).run Try.prog W = _
    generalize l.blk = b
    kernel_rfl
theorem yl_lookup {o : Oper} {a : Act} (V : World) (t : TypeId) (p q : Operand) (c : Bool) (m k r : Value) (hop : o.op = .lookup t p q c) (h1 : a.eval p = m) (h2 : a.eval q = k) (hr : (Instr.lookup t m k c).run Try.prog V = .ok r V) : (execOp a.eval o).run Try.prog V = .ok (.value r) V := by
  unfold execOp
  simp only [hop, h1, h2, Sem.run_bind, Sem.run_pure, hr, Result.andThen_ok]
theorem yl_bin {o : Oper} {a : Act} (V : World) (b : BinOp) (t u : TypeId) (p q : Operand) (x y r : Value) (hop : o.op = .binOp b t p q u) (h1 : a.eval p = x) (h2 : a.eval q = y) (hg : (eqGuard b t p q x y).run Try.prog V = .ok () V) (hr : (binOp b t x y).run Try.prog V = .ok r V) : (execOp a.eval o).run Try.prog V = .ok (.value r) V := by
  unfold execOp
  simp only [hop, h1, h2, Sem.run_bind, Sem.run_pure, hg, hr, Result.andThen_ok]
theorem yl_ne71 {o : Oper} {a : Act} (V : World) (p : Operand) (q : Option Ln) (B : Bool) (hB : q.isSome = B) (hop : o.op = .binOp .neq 71 p (.const (.pointer none)) 71) (h1 : a.eval p = ptrOf q) : (execOp a.eval o).run Try.prog V = .ok (.value (.bool B)) V := by
  subst hB
  unfold execOp
  have h := neq71 q V
  have hg : (eqGuard .neq 71 p (.const (.pointer none)) (ptrOf q) (.pointer none)).run Try.prog V = .ok () V := by
    unfold eqGuard
    cases q <;> rfl
  have hc : a.eval (.const (.pointer none)) = .pointer none := rfl
  simp only [hop, h1, hc, Sem.run_bind, Sem.run_pure, hg, h, Result.andThen_ok]
set_option maxRecDepth 100000 in
set_option maxHeartbeats 4000000 in
theorem il1 {Q : Exit → Act → World → Prop} {x1 x2 x4 x5 x6 x7 x8 x9 x10 x11 : Value} {ds : List Deferred} {A : World} {d p m : Nat} {v : Vx} {q : Option Ln} {B : Bool}
    (HL : Hid (d < A.heap.size)) (HP : Hid (p < A.heap.size)) (HR : Hid (A.rangeAt d 0 v.cells)) (HV : Hid v.ok) (c0 : A.cell? ⟨p, 0, none⟩ = some (.map (some m))) (HK : Hid (∀ V, Below A.heap.size A V → (Instr.lookup 65 (.map (some m)) (.agg v.cells.toArray) false).run Try.prog V = .ok (ptrOf q) V)) (HB : Hid (q.isSome = B))
    (hQ : ∀ V1, Below A.heap.size A V1 → Q .normal { tmps := #[.pointer (some ⟨p, 0, none⟩), x1, x2, .pointer (some ⟨d, 0, none⟩), .bool B, .pointer (some ⟨p, 0, none⟩), .pointer (some ⟨p, 0, none⟩), .pointer (some ⟨p, 0, none⟩), .map (some m), .agg v.cells.toArray, ptrOf q, .bool B], defers := ds } V1) :
    (Code.region 1 #[{ dst := some 5, op := Op.move (Operand.tmp 0), type := 25, pos := "lines.go:43", after := #[], guard := none }, { dst := some 6, op := Op.nilCheck (Operand.tmp 5), type := 0, pos := "lines.go:43", after := #[{ on := 0, ground := Ground.data }], guard := none }, { dst := some 7, op := Op.fieldAddr 67 (Operand.tmp 6) 0, type := 0, pos := "lines.go:43", after := #[{ on := 1, ground := Ground.data }], guard := none }, { dst := some 8, op := Op.load 65 (Operand.tmp 7), type := 65, pos := "lines.go:43", after := #[{ on := 2, ground := Ground.data }], guard := none }, { dst := some 9, op := Op.load 34 (Operand.tmp 3), type := 34, pos := "lines.go:43", after := #[], guard := none }, { dst := some 10, op := Op.lookup 65 (Operand.tmp 8) (Operand.tmp 9) false, type := 71, pos := "lines.go:43", after := #[{ on := 3, ground := Ground.data }, { on := 4, ground := Ground.data }], guard := none }, { dst := some 11, op := Op.binOp BinOp.neq 71 (Operand.tmp 10) (Operand.const (Value.pointer none)) 71, type := 4, pos := "lines.go:43", after := #[{ on := 5, ground := Ground.data }], guard := none }, { dst := some 4, op := Op.assign (Operand.tmp 11), type := 4, pos := "lines.go:43", after := #[{ on := 6, ground := Ground.data }, { on := 0, ground := Ground.phase }, { on := 1, ground := Ground.phase }, { on := 2, ground := Ground.phase }, { on := 3, ground := Ground.phase }, { on := 4, ground := Ground.phase }, { on := 5, ground := Ground.phase }, { on := 6, ground := Ground.phase }], guard := none }] true).wp Try.prog Q { tmps := #[.pointer (some ⟨p, 0, none⟩), x1, x2, .pointer (some ⟨d, 0, none⟩), x4, x5, x6, x7, x8, x9, x10, x11], defers := ds } A := by
  refine Code.wp_mono (Q := fun x a' w' => match x with | .normal => Q .normal a' w' | _ => False) (by intro x a' w' h; cases x <;> first | exact h | exact h.elim) ?_
  refine wp_region_held (S := fun V => Below A.heap.size A V) (by kernel_rfl) ?_
  have hS0 : Hid (Below A.heap.size A A.drew) := below_drew0 A
  change wpAnyH Try.prog .any _ _ (fun V => Below A.heap.size A V) 8 (Array.replicate 8 false) _ A.drew
  obtain ⟨V0, hV0⟩ : ∃ V0, A.drew = V0 := ⟨_, rfl⟩
  rw [hV0]
  rw [hV0] at hS0
  clear hV0
  refine wpAnyH_take (i := 0) (oi := { dst := some 5, op := Op.move (Operand.tmp 0), type := 25, pos := "lines.go:43", after := #[], guard := none }) (v := .pointer (some ⟨p, 0, none⟩)) rfl (by kernel_rfl) (by kernel_rfl) (by kernel_rfl) (fun _ _ _ h => h.elim) (Or.inl ⟨by rfl, ?y1⟩) hS0.out ?_
  case y1 =>
    intro V hV
    go_simp
  simp only [Act.put, List.setIfInBounds_toArray, List.set_cons_zero, List.set_cons_succ]
  refine wpAnyH_take (i := 1) (oi := { dst := some 6, op := Op.nilCheck (Operand.tmp 5), type := 0, pos := "lines.go:43", after := #[{ on := 0, ground := Ground.data }], guard := none }) (v := .pointer (some ⟨p, 0, none⟩)) rfl (by kernel_rfl) (by kernel_rfl) (by kernel_rfl) (fun _ _ _ h => h.elim) (Or.inl ⟨by rfl, ?y2⟩) hS0.out ?_
  case y2 =>
    intro V hV
    go_simp
  simp only [Act.put, List.setIfInBounds_toArray, List.set_cons_zero, List.set_cons_succ]
  refine wpAnyH_take (i := 2) (oi := { dst := some 7, op := Op.fieldAddr 67 (Operand.tmp 6) 0, type := 0, pos := "lines.go:43", after := #[{ on := 1, ground := Ground.data }], guard := none }) (v := .pointer (some ⟨p, 0, none⟩)) rfl (by kernel_rfl) (by kernel_rfl) (by kernel_rfl) (fun _ _ _ h => h.elim) (Or.inl ⟨by rfl, ?y3⟩) hS0.out ?_
  case y3 =>
    intro V hV
    go_simp
  simp only [Act.put, List.setIfInBounds_toArray, List.set_cons_zero, List.set_cons_succ]
  refine wpAnyH_take (i := 3) (oi := { dst := some 8, op := Op.load 65 (Operand.tmp 7), type := 65, pos := "lines.go:43", after := #[{ on := 2, ground := Ground.data }], guard := none }) (v := .map (some m)) rfl (by kernel_rfl) (by kernel_rfl) (by kernel_rfl) (fun _ _ _ h => h.elim) (Or.inl ⟨by rfl, ?y4⟩) hS0.out ?_
  case y4 =>
    intro V hV
    have hc : V.cell? ⟨p, 0, none⟩ = some (.map (some m)) := (hV.cell (p := ⟨p, 0, none⟩) HP.out).trans c0
    go_simp
  simp only [Act.put, List.setIfInBounds_toArray, List.set_cons_zero, List.set_cons_succ]
  refine wpAnyH_take (i := 4) (oi := { dst := some 9, op := Op.load 34 (Operand.tmp 3), type := 34, pos := "lines.go:43", after := #[], guard := none }) (v := .agg v.cells.toArray) rfl (by kernel_rfl) (by kernel_rfl) (by kernel_rfl) (fun _ _ _ h => h.elim) (yieldsIf_load_mid (by rfl) _ _ rfl _ _ rfl (v.cells) _ (fun V hV => rangeAt_same (HR.out) ((show Below A.heap.size A V from hV).block _ (HL.out))) Try.underlying34 rfl (info34 HV.out)) hS0.out ?_
  simp only [Act.put, List.setIfInBounds_toArray, List.set_cons_zero, List.set_cons_succ]
  refine wpAnyH_take (i := 5) (oi := { dst := some 10, op := Op.lookup 65 (Operand.tmp 8) (Operand.tmp 9) false, type := 71, pos := "lines.go:43", after := #[{ on := 3, ground := Ground.data }, { on := 4, ground := Ground.data }], guard := none }) (v := ptrOf q) rfl (by kernel_rfl) (by kernel_rfl) (by kernel_rfl) (fun _ _ _ h => h.elim) (Or.inl ⟨by rfl, ?y5⟩) hS0.out ?_
  case y5 =>
    intro V hV
    exact yl_lookup V 65 _ _ false _ _ _ rfl rfl rfl (HK.out V hV)
  simp only [Act.put, List.setIfInBounds_toArray, List.set_cons_zero, List.set_cons_succ]
  refine wpAnyH_take (i := 6) (oi := { dst := some 11, op := Op.binOp BinOp.neq 71 (Operand.tmp 10) (Operand.const (Value.pointer none)) 71, type := 4, pos := "lines.go:43", after := #[{ on := 5, ground := Ground.data }], guard := none }) (v := .bool B) rfl (by kernel_rfl) (by kernel_rfl) (by kernel_rfl) (fun _ _ _ h => h.elim) (Or.inl ⟨by rfl, ?y6⟩) hS0.out ?_
  case y6 =>
    intro V hV
    exact yl_ne71 V _ q B HB.out rfl rfl
  simp only [Act.put, List.setIfInBounds_toArray, List.set_cons_zero, List.set_cons_succ]
  refine wpAnyH_take (i := 7) (oi := { dst := some 4, op := Op.assign (Operand.tmp 11), type := 4, pos := "lines.go:43", after := #[{ on := 6, ground := Ground.data }, { on := 0, ground := Ground.phase }, { on := 1, ground := Ground.phase }, { on := 2, ground := Ground.phase }, { on := 3, ground := Ground.phase }, { on := 4, ground := Ground.phase }, { on := 5, ground := Ground.phase }, { on := 6, ground := Ground.phase }], guard := none }) (v := .bool B) rfl (by kernel_rfl) (by kernel_rfl) (by kernel_rfl) (fun _ _ _ h => h.elim) (Or.inl ⟨by rfl, ?y7⟩) hS0.out ?_
  case y7 =>
    intro V hV
    go_simp
  simp only [Act.put, List.setIfInBounds_toArray, List.set_cons_zero, List.set_cons_succ]
  refine wpAnyH_done (by kernel_rfl) ?_ _
  exact hQ V0 hS0.out
set_option maxHeartbeats 1000000 in
theorem isLine_is {w : World} {p : Nat} {G : Gm} (h : GAt w p G) (v : Vx) (hv : Vk v) (X : List Value) (hX : v.cells = X) (B : Bool) (hB : decide (v ∈ G.keys) = B) : Calls Try.prog 44 #[.pointer (some ⟨p, 0, none⟩), .agg X.toArray] w fun e w' => e = .returned (.bool B) ∧ Below w.heap.size w w' := by
  subst hX
  obtain ⟨d, hd⟩ : ∃ d, w.heap.size = d := ⟨_, rfl⟩
  obtain ⟨W, hW⟩ : ∃ W, w.alloc (.cells v.cells.toArray 34) = W := ⟨_, rfl⟩
  have b1 : Below w.heap.size w W := by rw [← hW]; exact below_al _ _
  have k1 : Blk W d 34 v.cells := by rw [← hW, ← hd]; exact Blk.new w _ _
  have HW : Hid (Below w.heap.size w W) := b1
  have HL : Hid (d < W.heap.size) := k1.lt
  have HR : Hid (W.rangeAt d 0 v.cells) := k1.range0
  have HV : Hid v.ok := hv.1
  have H := h.below b1
  have HP : Hid (p < W.heap.size) := H.blk.lt
  have c0 : W.cell? ⟨p, 0, none⟩ = some (.map (some G.mb)) := H.blk.cell rfl
  have HK : Hid (∀ V, Below W.heap.size W V → (Instr.lookup 65 (.map (some G.mb)) (.agg v.cells.toArray) false).run Try.prog V = .ok (ptrOf (G.get v)) V) := fun V hV => H.look2 hv V (hV.block _ H.mp.lt)
  have HB : Hid ((G.get v).isSome = B) := get_some.trans hB
  have h1 := Vx.one v
  have h2 := Try.underlying34
  have h3 := info34 hv.1
  have h4 := Vx.len hv.1
  clear b1 k1 hv H h hB
  generalize G.get v = q at HK HB
  generalize G.mb = m at HK c0
  go_enter Try.func44, Try.ntmps44
  go_wp2_with fail
  refine il1 HL HP HR HV c0 HK HB ?_
  intro V1 hb1
  have HF : Hid (Below w.heap.size w V1) := below_tr HW.out hb1
  clear hb1 hd hW HK c0
  go_wp2
  go_ret
  exact ⟨rfl, HF.out⟩
theorem len_is {w : World} {p : Nat} {G : Gm} (h : GAt w p G) : Calls Try.prog 18 #[.pointer (some ⟨p, 0, none⟩)] w fun e w' => e = .returned (.int .i64 G.ls.length) ∧ w = w' := by
  have c0 : w.cell? ⟨p, 0, none⟩ = some (.map (some G.mb)) := h.blk.cell rfl
  have hl := h.mp.len (t := 65) (E := 71) Try.underlying65 3
  rw [show (linesKv G.ls).length = G.ls.length by simp [linesKv]] at hl
  have HM : Hid (GAt w p G) := h
  clear h
  generalize G.mb = m at c0 hl
  generalize G.ls.length = n at hl ⊢
  go_enter Try.func18, Try.ntmps18
  go_wp2_with fail
  refine (made_is HM.out).mono ?_
  rintro e w2 ⟨rfl, rfl⟩
  go_wp2
  go_ret
  exact ⟨rfl, rfl⟩
theorem len_unmade {w : World} {v : Value} (hm : Calls Try.prog 30 #[v] w fun e w' => e = .returned (.bool false) ∧ w = w') : Calls Try.prog 18 #[v] w fun e w' => e = .returned (.int .i64 0) ∧ w = w' := by
  have HM : Hid (Calls Try.prog 30 #[v] w fun e w' => e = .returned (.bool false) ∧ w = w') := hm
  clear hm
  go_enter Try.func18, Try.ntmps18
  go_wp2_with fail
  refine HM.out.mono ?_
  rintro e w2 ⟨rfl, rfl⟩
  go_wp2
  go_ret
  exact ⟨rfl, rfl⟩
set_option maxHeartbeats 1000000 in
theorem has_is {w : World} {p : Nat} {G : Gm} (h : GAt w p G) (v : Vx) (hv : Vk v) (X : List Value) (hX : v.cells = X) (B : Bool) (hB : (isE v || decide (v ∈ G.keys)) = B) : Calls Try.prog 19 #[.pointer (some ⟨p, 0, none⟩), .agg X.toArray] w fun e w' => e = .returned (.bool B) ∧ Below w.heap.size w w' := by
  subst hX
  obtain ⟨d, hdd⟩ : ∃ d, w.heap.size = d := ⟨_, rfl⟩
  obtain ⟨W, hWd⟩ : ∃ W, w.alloc (.cells v.cells.toArray 34) = W := ⟨_, rfl⟩
  have bd : Below w.heap.size w W := by rw [← hWd]; exact below_al _ _
  have kd : Blk W d 34 v.cells := by rw [← hWd, ← hdd]; exact Blk.new w _ _
  have HW : Hid (Below w.heap.size w W ∧ W.rangeAt d 0 v.cells ∧ Vk v ∧ GAt W p G ∧ d < W.heap.size) := ⟨bd, kd.range0, hv, h.below bd, kd.lt⟩
  have h1 := Vx.one v
  have h2 := Try.underlying34
  have h3 := info34 hv.1
  have h4 := Vx.len hv.1
  clear bd kd hv h
  cases hE : isE v with
  | true =>
    have HE : Hid (isE v = true) := hE
    rw [hE, Bool.true_or] at hB
    subst hB
    clear hE
    go_enter Try.func19, Try.ntmps19
    go_wp2_with fail
    refine (made_is HW.out.2.2.2.1).mono ?_
    rintro e w2 ⟨rfl, rfl⟩
    go_wp2_with (first
      | (with_reducible change wpList _ _ _ ({ dst := some 8, op := _, type := _, pos := _, after := _, guard := _ } :: _) _ _
         refine wpList_load_want rfl 34 (.tmp 3) rfl d 0 rfl v.cells _ HW.out.2.1 Try.underlying34 rfl (info34 HW.out.2.2.1.1) ?_)
      | fail)
    refine (isEnd_is W v HW.out.2.2.1.1 v.cells rfl true HE.out).mono ?_
    rintro e W2 ⟨rfl, hb⟩
    have HF : Hid (Below w.heap.size w W2) := below_tr HW.out.1 hb
    clear hb
    go_wp2
    go_ret
    exact ⟨rfl, HF.out⟩
  | false =>
    have HE : Hid (isE v = false) := hE
    rw [hE, Bool.false_or] at hB
    have HB : Hid (decide (v ∈ G.keys) = B) := hB
    clear hE hB
    go_enter Try.func19, Try.ntmps19
    go_wp2_with fail
    refine (made_is HW.out.2.2.2.1).mono ?_
    rintro e w2 ⟨rfl, rfl⟩
    go_wp2_with (first
      | (with_reducible change wpList _ _ _ ({ dst := some 8, op := _, type := _, pos := _, after := _, guard := _ } :: _) _ _
         refine wpList_load_want rfl 34 (.tmp 3) rfl d 0 rfl v.cells _ HW.out.2.1 Try.underlying34 rfl (info34 HW.out.2.2.1.1) ?_)
      | fail)
    refine (isEnd_is W v HW.out.2.2.1.1 v.cells rfl false HE.out).mono ?_
    rintro e W2 ⟨rfl, hb⟩
    have H2 : Hid (Below W.heap.size W W2 ∧ W2.rangeAt d 0 v.cells ∧ GAt W2 p G) := ⟨hb, rangeAt_same HW.out.2.1 (hb.block _ HW.out.2.2.2.2), HW.out.2.2.2.1.below hb⟩
    clear hb
    go_wp2_with (first
      | (with_reducible change wpList _ _ _ ({ dst := some 12, op := _, type := _, pos := _, after := _, guard := _ } :: _) _ _
         refine wpList_load_want rfl 34 (.tmp 3) rfl d 0 rfl v.cells _ H2.out.2.1 Try.underlying34 rfl (info34 HW.out.2.2.1.1) ?_)
      | fail)
    refine (isLine_is H2.out.2.2 v HW.out.2.2.1 v.cells rfl B HB.out).mono ?_
    rintro e W3 ⟨rfl, hb⟩
    have HF : Hid (Below w.heap.size w W3) := below_tr HW.out.1 (below_tr H2.out.1 hb)
    clear hb
    go_wp2
    go_ret
    exact ⟨rfl, HF.out⟩
end Go.Proofs.Ytjcihaohpbmogaa.Oct
