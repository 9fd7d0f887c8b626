/-
  Layer 11 (lines): Shown: a line is told.
-/
import Derived.Test.YtjcihaohpbmogaaQoBC
/- Layer 11 (lines): Shown: a line is told. -/
namespace Go.Proofs.Ytjcihaohpbmogaa.Oct
open Go.RowKit
set_option maxRecDepth 100000
set_option linter.unusedSimpArgs false
set_option linter.unusedVariables false
set_option linter.unusedSectionVars false

theorem built50 (y : Vx) (t : BA) (k : Nat) (hy : y.ok) : Try.prog.built 50 [(0, .agg y.cells.toArray), (1, .string t), (2, iv (k : Int))] = some (Sx.cells ⟨y, t, k⟩).toArray := by
  obtain ⟨h, n⟩ := y
  obtain ⟨c0, c1, c2, c3, c4, c5, c6, c7, c8, c9, c10, c11, c12, c13, c14, c15, c16, c17, c18, c19, c20, c21, c22, c23, c24, c25, c26, c27, c28, c29, c30, c31, rfl⟩ := ls32 (x := h) hy
  kernel_rfl
theorem step_bsS {ops : Array Oper} {op : Oper} {a : Act} {w : World} {K : Act → World → Prop} {Q : Exit → Act → World → Prop} {E : Prop} (hw : Region.wanted op (yielded ops a.tmps) = true) (x : Operand) (hop : op.op = .buildSlice 45 1 #[(0, x)]) (v : Sx) (hv : Sk v) (hx : a.eval x = .agg v.cells.toArray)
    (hk : K (a.put op.dst (.slice (some ⟨w.heap.size, 0, none⟩) 1 1)) (w.alloc (.cells v.cells.toArray 50))) : if Region.wanted op (yielded ops a.tmps) = true then Oper.wp Try.prog op a w K Q else E := by
  rw [if_pos hw]
  unfold Oper.wp execOp
  simp only [hop, List.map_toArray, List.map_cons, List.map_nil, hx, Sem.run_bind, Sem.run_pure, Result.andThen_ok, run_bsliceS v hv]
  exact hk
theorem yl_len {o : Oper} {a : Act} (V : World) (t : TypeId) (x : Operand) (v r : Value) (hop : o.op = .call { callee := .builtin .len, args := #[x], argTypes := #[t] }) (hx : a.eval x = v) (hr : (Builtin.len_ #[t] o.type #[v]).run Try.prog V = .ok r V) : (execOp a.eval o).run Try.prog V = .ok (.value r) V := by
  unfold execOp
  simp only [hop, resolve, invoke, builtin, Sem.run_bind, Sem.run_pure, Result.andThen_ok, List.map_toArray, List.map_cons, List.map_nil, hx, hr]
theorem cell_of_range {V : World} {g o : Nat} {cs : List Value} (h : V.rangeAt g o cs) {j : Nat} {x : Value} (hj : cs[j]? = some x) : V.cell? ⟨g, o + j, none⟩ = some x := h j x hj
theorem Keep.grownS {S : Nat → Prop} {w w' : World} {r : Option Nat} (h : w.grownBy w' r) (hS : ∀ k, r = some k → S k) : Keep S w w' :=
  ⟨h.os, h.tape, h.output, h.size, fun k hk hn => h.block k hk (fun e => hn (hS k e.symm))⟩
set_option maxRecDepth 100000 in
set_option maxHeartbeats 4000000 in
theorem sh9 {Q : Exit → Act → World → Prop} {x0 x1 x2 x5 x8 x9 x10 x11 x12 x13 x14 x15 x16 x17 x18 x19 x20 x21 x22 x23 x24 x25 x26 x27 x28 x29 x30 x31 x32 x33 x34 x35 x36 x37 x38 x39 x40 x41 x42 x43 x44 x45 x46 x47 x48 : Value} {ds : List Deferred} {A : World} {B d3 gb off N vc k lb kn on : Nat} {ov : Value} {kb : Option Nat} {y : Vx} {t : BA} {xs : List Sx}
    (HD : Hid (d3 < A.heap.size ∧ ¬ ov.ownBlock = some d3)) (HL : Hid (gb < A.heap.size ∧ ¬ ov.ownBlock = some gb)) (HR : Hid (A.rangeAt gb (off + k * 33) y.cells)) (HV : Hid (Vk y)) (HLB : Hid (lb < A.heap.size ∧ ¬ ov.ownBlock = some lb)) (cd : A.cell? ⟨d3, 0, none⟩ = some (.slice (some ⟨gb, off, none⟩) N vc)) (ct : A.cell? ⟨lb, 0, none⟩ = some (.string t)) (ck : A.cell? ⟨lb, 35, none⟩ = some (.map kb)) (HK : Hid (∀ V, Keep (fun k => ov.ownBlock = some k) A V → (Builtin.len_ #[84] 3 #[.map kb]).run Try.prog V = .ok (iv (kn : Int)) V)) (HX : Hid (OS B A ov on xs)) (HN : Hid (on + 1 ≤ 1000000)) (HB : Hid (B ≤ A.heap.size)) (q1 : (k : Int) < (N : Int)) (q2 : k < N)
    (hQ : ∀ V3 r ov', (Keep (fun k => ov.ownBlock = some k) A V3 ∧ OS B V3 ov' (on + 1) (xs ++ [⟨y, t, kn⟩])) → Q .normal { tmps := #[x0, x1, x2, .pointer (some ⟨d3, 0, none⟩), ov', x5, iv (k : Int), .pointer (some ⟨lb, 0, none⟩), x8, x9, x10, x11, x12, x13, x14, x15, x16, x17, x18, x19, x20, x21, x22, x23, x24, x25, x26, x27, x28, ov, .pointer (some ⟨d3, 0, none⟩), .slice (some ⟨gb, off, none⟩) N vc, iv (k : Int), .pointer (some ⟨gb, off + k * 33, none⟩), .agg y.cells.toArray, .pointer (some ⟨lb, 0, none⟩), .pointer (some ⟨lb, 0, none⟩), .pointer (some ⟨lb, 0, none⟩), .string t, .pointer (some ⟨lb, 0, none⟩), .pointer (some ⟨lb, 0, none⟩), .pointer (some ⟨lb, 35, none⟩), .map kb, iv (kn : Int), .agg (Sx.cells ⟨y, t, kn⟩).toArray, .slice (some ⟨r, 0, none⟩) 1 1, ov', x47, x48], defers := ds } V3) :
    (Code.region 9 #[{ dst := some 29, op := Op.move (Operand.tmp 4), type := 45, pos := "tell.go:101", after := #[], guard := none }, { dst := some 30, op := Op.fieldAddr 80 (Operand.tmp 3) 0, type := 0, pos := "tell.go:101", after := #[], guard := none }, { dst := some 31, op := Op.load 35 (Operand.tmp 30), type := 35, pos := "tell.go:101", after := #[{ on := 1, ground := Ground.data }], guard := none }, { dst := some 32, op := Op.move (Operand.tmp 6), type := 3, pos := "tell.go:101", after := #[], guard := none }, { dst := some 33, op := Op.indexAddr 35 (Operand.tmp 31) (Operand.tmp 32), type := 0, pos := "tell.go:101", after := #[{ on := 2, ground := Ground.data }, { on := 3, ground := Ground.data }], guard := none }, { dst := some 34, op := Op.load 34 (Operand.tmp 33), type := 34, pos := "tell.go:101", after := #[{ on := 4, ground := Ground.data }], guard := none }, { dst := some 35, op := Op.move (Operand.tmp 7), type := 71, pos := "tell.go:101", after := #[], guard := none }, { dst := some 36, op := Op.nilCheck (Operand.tmp 35), type := 0, pos := "tell.go:101", after := #[{ on := 6, ground := Ground.data }], guard := none }, { dst := some 37, op := Op.fieldAddr 86 (Operand.tmp 36) 0, type := 0, pos := "tell.go:101", after := #[{ on := 7, ground := Ground.data }], guard := none }, { dst := some 38, op := Op.load 9 (Operand.tmp 37), type := 9, pos := "tell.go:101", after := #[{ on := 8, ground := Ground.data }], guard := none }, { dst := some 39, op := Op.move (Operand.tmp 7), type := 71, pos := "tell.go:101", after := #[], guard := none }, { dst := some 40, op := Op.nilCheck (Operand.tmp 39), type := 0, pos := "tell.go:101", after := #[{ on := 10, ground := Ground.data }], guard := none }, { dst := some 41, op := Op.fieldAddr 86 (Operand.tmp 40) 3, type := 0, pos := "tell.go:101", after := #[{ on := 11, ground := Ground.data }], guard := none }, { dst := some 42, op := Op.load 84 (Operand.tmp 41), type := 84, pos := "tell.go:101", after := #[{ on := 12, ground := Ground.data }], guard := none }, { dst := some 43, op := Op.call { callee := Callee.builtin Builtin.len, args := #[Operand.tmp 42], argTypes := #[84] }, type := 3, pos := "tell.go:101", after := #[{ on := 13, ground := Ground.data }], guard := none }, { dst := some 44, op := Op.build 50 #[(0, Operand.tmp 34), (1, Operand.tmp 38), (2, Operand.tmp 43)], type := 50, pos := "tell.go:101", after := #[{ on := 5, ground := Ground.data }, { on := 9, ground := Ground.data }, { on := 14, ground := Ground.data }], guard := none }, { dst := some 45, op := Op.buildSlice 45 1 #[(0, Operand.tmp 44)], type := 45, pos := "tell.go:101", after := #[{ on := 15, ground := Ground.data }], guard := none }, { dst := some 46, op := Op.call { callee := Callee.builtin Builtin.append, args := #[Operand.tmp 29, Operand.tmp 45], argTypes := #[45, 45] }, type := 45, pos := "tell.go:101", after := #[{ on := 0, ground := Ground.data }, { on := 16, ground := Ground.data }, { on := 14, ground := Ground.chain }], guard := none }, { dst := some 4, op := Op.assign (Operand.tmp 46), type := 45, pos := "tell.go:101", after := #[{ on := 17, ground := Ground.data }, { on := 17, ground := Ground.chain }, { on := 0, ground := Ground.phase }, { on := 1, ground := Ground.phase }, { on := 2, ground := Ground.phase }, { on := 3, ground := Ground.phase }, { on := 4, ground := Ground.phase }, { on := 5, ground := Ground.phase }, { on := 6, ground := Ground.phase }, { on := 7, ground := Ground.phase }, { on := 8, ground := Ground.phase }, { on := 9, ground := Ground.phase }, { on := 10, ground := Ground.phase }, { on := 11, ground := Ground.phase }, { on := 12, ground := Ground.phase }, { on := 13, ground := Ground.phase }, { on := 14, ground := Ground.phase }, { on := 15, ground := Ground.phase }, { on := 16, ground := Ground.phase }, { on := 17, ground := Ground.phase }], guard := none }] true).wp Try.prog Q { tmps := #[x0, x1, x2, .pointer (some ⟨d3, 0, none⟩), ov, x5, iv (k : Int), .pointer (some ⟨lb, 0, none⟩), x8, x9, x10, x11, x12, x13, x14, x15, x16, x17, x18, x19, x20, x21, x22, x23, x24, x25, x26, x27, x28, x29, x30, x31, x32, x33, x34, x35, x36, x37, x38, x39, x40, x41, x42, x43, x44, x45, x46, x47, x48], defers := ds } A := by
  refine Code.wp_mono (Q := fun x a' w' => match x with | .normal => Q .normal a' w' | _ => False) (by intro x a' w' h; cases x <;> first | exact h | exact h.elim) ?_
  refine wp_region_held (S := fun V => Keep (fun k => ov.ownBlock = some k) A V) (by kernel_rfl) ?_
  have hS0 : Hid (Keep (fun k => ov.ownBlock = some k) A A.drew) := (Keep.refl _ A).drew
  change wpAnyH Try.prog .any _ _ (fun V => Keep (fun k => ov.ownBlock = some k) A V) 19 (Array.replicate 19 false) _ A.drew
  obtain ⟨V0, hV0⟩ : ∃ V0, A.drew = V0 := ⟨_, rfl⟩
  rw [hV0]
  rw [hV0] at hS0
  have hX0 : Hid (OS B V0 ov on xs) := by
    show OS B V0 ov on xs
    rw [← hV0]
    exact ⟨HX.out.1, HX.out.2⟩
  clear hV0
  refine wpAnyH_take (i := 0) (oi := { dst := some 29, op := Op.move (Operand.tmp 4), type := 45, pos := "tell.go:101", after := #[], guard := none }) (v := ov) rfl (by kernel_rfl) (by kernel_rfl) (by kernel_rfl) (fun _ _ _ h => h.elim) (Or.inl ⟨by rfl, ?y1⟩) hS0.out ?_
  case y1 =>
    intro V hV
    go_simp
  simp only [Act.put, List.setIfInBounds_toArray, List.set_cons_zero, List.set_cons_succ]
  refine wpAnyH_take (i := 1) (oi := { dst := some 30, op := Op.fieldAddr 80 (Operand.tmp 3) 0, type := 0, pos := "tell.go:101", after := #[], guard := none }) (v := .pointer (some ⟨d3, 0, none⟩)) rfl (by kernel_rfl) (by kernel_rfl) (by kernel_rfl) (fun _ _ _ h => h.elim) (Or.inl ⟨by rfl, ?y2⟩) hS0.out ?_
  case y2 =>
    intro V hV
    go_simp
  simp only [Act.put, List.setIfInBounds_toArray, List.set_cons_zero, List.set_cons_succ]
  refine wpAnyH_take (i := 2) (oi := { dst := some 31, op := Op.load 35 (Operand.tmp 30), type := 35, pos := "tell.go:101", after := #[{ on := 1, ground := Ground.data }], guard := none }) (v := .slice (some ⟨gb, off, none⟩) N vc) rfl (by kernel_rfl) (by kernel_rfl) (by kernel_rfl) (fun _ _ _ h => h.elim) (Or.inl ⟨by rfl, ?y3⟩) hS0.out ?_
  case y3 =>
    intro V hV
    have hc : V.cell? ⟨d3, 0, none⟩ = some (.slice (some ⟨gb, off, none⟩) N vc) := (cell_keep hV HD.out.1 HD.out.2).trans cd
    go_simp
  simp only [Act.put, List.setIfInBounds_toArray, List.set_cons_zero, List.set_cons_succ]
  refine wpAnyH_take (i := 3) (oi := { dst := some 32, op := Op.move (Operand.tmp 6), type := 3, pos := "tell.go:101", after := #[], guard := none }) (v := iv (k : Int)) rfl (by kernel_rfl) (by kernel_rfl) (by kernel_rfl) (fun _ _ _ h => h.elim) (Or.inl ⟨by rfl, ?y4⟩) hS0.out ?_
  case y4 =>
    intro V hV
    go_simp
  simp only [Act.put, List.setIfInBounds_toArray, List.set_cons_zero, List.set_cons_succ]
  refine wpAnyH_take (i := 4) (oi := { dst := some 33, op := Op.indexAddr 35 (Operand.tmp 31) (Operand.tmp 32), type := 0, pos := "tell.go:101", after := #[{ on := 2, ground := Ground.data }, { on := 3, ground := Ground.data }], guard := none }) (v := .pointer (some ⟨gb, off + k * 33, none⟩)) rfl (by kernel_rfl) (by kernel_rfl) (by kernel_rfl) (fun _ _ _ h => h.elim) (Or.inl ⟨by rfl, ?y5⟩) hS0.out ?_
  case y5 =>
    intro V hV
    have hcmp := q1
    have hcmp2 := q2
    go_simp
  simp only [Act.put, List.setIfInBounds_toArray, List.set_cons_zero, List.set_cons_succ]
  refine wpAnyH_take (i := 5) (oi := { dst := some 34, op := Op.load 34 (Operand.tmp 33), type := 34, pos := "tell.go:101", after := #[{ on := 4, ground := Ground.data }], guard := none }) (v := .agg y.cells.toArray) rfl (by kernel_rfl) (by kernel_rfl) (by kernel_rfl) (fun _ _ _ h => h.elim) (yieldsIf_load_mid (by rfl) _ _ rfl _ _ rfl (y.cells) _ (fun V hV => rangeAt_same (HR.out) ((show Keep (fun k => ov.ownBlock = some k) A V from hV).block _ (HL.out.1) (HL.out.2))) Try.underlying34 rfl (info34 HV.out.1)) hS0.out ?_
  simp only [Act.put, List.setIfInBounds_toArray, List.set_cons_zero, List.set_cons_succ]
  refine wpAnyH_take (i := 6) (oi := { dst := some 35, op := Op.move (Operand.tmp 7), type := 71, pos := "tell.go:101", after := #[], guard := none }) (v := .pointer (some ⟨lb, 0, none⟩)) rfl (by kernel_rfl) (by kernel_rfl) (by kernel_rfl) (fun _ _ _ h => h.elim) (Or.inl ⟨by rfl, ?y6⟩) hS0.out ?_
  case y6 =>
    intro V hV
    go_simp
  simp only [Act.put, List.setIfInBounds_toArray, List.set_cons_zero, List.set_cons_succ]
  refine wpAnyH_take (i := 7) (oi := { dst := some 36, op := Op.nilCheck (Operand.tmp 35), type := 0, pos := "tell.go:101", after := #[{ on := 6, ground := Ground.data }], guard := none }) (v := .pointer (some ⟨lb, 0, none⟩)) rfl (by kernel_rfl) (by kernel_rfl) (by kernel_rfl) (fun _ _ _ h => h.elim) (Or.inl ⟨by rfl, ?y7⟩) hS0.out ?_
  case y7 =>
    intro V hV
    go_simp
  simp only [Act.put, List.setIfInBounds_toArray, List.set_cons_zero, List.set_cons_succ]
  refine wpAnyH_take (i := 8) (oi := { dst := some 37, op := Op.fieldAddr 86 (Operand.tmp 36) 0, type := 0, pos := "tell.go:101", after := #[{ on := 7, ground := Ground.data }], guard := none }) (v := .pointer (some ⟨lb, 0, none⟩)) rfl (by kernel_rfl) (by kernel_rfl) (by kernel_rfl) (fun _ _ _ h => h.elim) (Or.inl ⟨by rfl, ?y8⟩) hS0.out ?_
  case y8 =>
    intro V hV
    go_simp
  simp only [Act.put, List.setIfInBounds_toArray, List.set_cons_zero, List.set_cons_succ]
  refine wpAnyH_take (i := 9) (oi := { dst := some 38, op := Op.load 9 (Operand.tmp 37), type := 9, pos := "tell.go:101", after := #[{ on := 8, ground := Ground.data }], guard := none }) (v := .string t) rfl (by kernel_rfl) (by kernel_rfl) (by kernel_rfl) (fun _ _ _ h => h.elim) (Or.inl ⟨by rfl, ?y9⟩) hS0.out ?_
  case y9 =>
    intro V hV
    have hc : V.cell? ⟨lb, 0, none⟩ = some (.string t) := (cell_keep hV HLB.out.1 HLB.out.2).trans ct
    go_simp
  simp only [Act.put, List.setIfInBounds_toArray, List.set_cons_zero, List.set_cons_succ]
  refine wpAnyH_take (i := 10) (oi := { dst := some 39, op := Op.move (Operand.tmp 7), type := 71, pos := "tell.go:101", after := #[], guard := none }) (v := .pointer (some ⟨lb, 0, none⟩)) rfl (by kernel_rfl) (by kernel_rfl) (by kernel_rfl) (fun _ _ _ h => h.elim) (Or.inl ⟨by rfl, ?y10⟩) hS0.out ?_
  case y10 =>
    intro V hV
    go_simp
  simp only [Act.put, List.setIfInBounds_toArray, List.set_cons_zero, List.set_cons_succ]
  refine wpAnyH_take (i := 11) (oi := { dst := some 40, op := Op.nilCheck (Operand.tmp 39), type := 0, pos := "tell.go:101", after := #[{ on := 10, ground := Ground.data }], guard := none }) (v := .pointer (some ⟨lb, 0, none⟩)) rfl (by kernel_rfl) (by kernel_rfl) (by kernel_rfl) (fun _ _ _ h => h.elim) (Or.inl ⟨by rfl, ?y11⟩) hS0.out ?_
  case y11 =>
    intro V hV
    go_simp
  simp only [Act.put, List.setIfInBounds_toArray, List.set_cons_zero, List.set_cons_succ]
  refine wpAnyH_take (i := 12) (oi := { dst := some 41, op := Op.fieldAddr 86 (Operand.tmp 40) 3, type := 0, pos := "tell.go:101", after := #[{ on := 11, ground := Ground.data }], guard := none }) (v := .pointer (some ⟨lb, 35, none⟩)) rfl (by kernel_rfl) (by kernel_rfl) (by kernel_rfl) (fun _ _ _ h => h.elim) (Or.inl ⟨by rfl, ?y12⟩) hS0.out ?_
  case y12 =>
    intro V hV
    go_simp
  simp only [Act.put, List.setIfInBounds_toArray, List.set_cons_zero, List.set_cons_succ]
  refine wpAnyH_take (i := 13) (oi := { dst := some 42, op := Op.load 84 (Operand.tmp 41), type := 84, pos := "tell.go:101", after := #[{ on := 12, ground := Ground.data }], guard := none }) (v := .map kb) rfl (by kernel_rfl) (by kernel_rfl) (by kernel_rfl) (fun _ _ _ h => h.elim) (Or.inl ⟨by rfl, ?y13⟩) hS0.out ?_
  case y13 =>
    intro V hV
    have hc : V.cell? ⟨lb, 35, none⟩ = some (.map kb) := (cell_keep hV HLB.out.1 HLB.out.2).trans ck
    go_simp
  simp only [Act.put, List.setIfInBounds_toArray, List.set_cons_zero, List.set_cons_succ]
  refine wpAnyH_take (i := 14) (oi := { dst := some 43, op := Op.call { callee := Callee.builtin Builtin.len, args := #[Operand.tmp 42], argTypes := #[84] }, type := 3, pos := "tell.go:101", after := #[{ on := 13, ground := Ground.data }], guard := none }) (v := iv (kn : Int)) rfl (by kernel_rfl) (by kernel_rfl) (by kernel_rfl) (fun _ _ _ h => h.elim) (Or.inl ⟨by rfl, ?y14⟩) hS0.out ?_
  case y14 =>
    intro V hV
    exact yl_len V 84 _ _ _ rfl rfl (HK.out V hV)
  simp only [Act.put, List.setIfInBounds_toArray, List.set_cons_zero, List.set_cons_succ]
  refine wpAnyH_take (i := 15) (oi := { dst := some 44, op := Op.build 50 #[(0, Operand.tmp 34), (1, Operand.tmp 38), (2, Operand.tmp 43)], type := 50, pos := "tell.go:101", after := #[{ on := 5, ground := Ground.data }, { on := 9, ground := Ground.data }, { on := 14, ground := Ground.data }], guard := none }) (v := .agg (Sx.cells ⟨y, t, kn⟩).toArray) rfl (by kernel_rfl) (by kernel_rfl) (by kernel_rfl) (fun _ _ _ h => h.elim) (Or.inl ⟨by rfl, ?y15⟩) hS0.out ?_
  case y15 =>
    intro V hV
    exact yl_build3 V 50 _ _ _ _ _ _ _ rfl rfl rfl rfl (built50 y t kn HV.out.1)
  simp only [Act.put, List.setIfInBounds_toArray, List.set_cons_zero, List.set_cons_succ]
  refine wpAnyH_ready (rs := [16]) (by kernel_rfl) (by simp) (AllReadyH.cons (i := 16) (o := { dst := some 45, op := Op.buildSlice 45 1 #[(0, Operand.tmp 44)], type := 45, pos := "tell.go:101", after := #[{ on := 15, ground := Ground.data }], guard := none }) rfl ?_ AllReadyH.nil)
  · intro K1 hK1
    refine step_bsS (by rfl) _ rfl ⟨y, t, kn⟩ HV.out rfl ?_
    obtain ⟨V1, hv1⟩ : ∃ V, V0.alloc (.cells (Sx.cells ⟨y, t, kn⟩).toArray 50) = V := ⟨_, rfl⟩
    obtain ⟨r, hr1⟩ : ∃ m, V0.heap.size = m := ⟨_, rfl⟩
    have hb1 : Below V0.heap.size V0 V1 := by rw [← hv1]; exact below_al _ _
    have hR1 : Hid (SsR V1 (some ⟨r, 0, none⟩) 1 [⟨y, t, kn⟩]) := by
      show SsR _ _ _ _
      rw [← hv1, ← hr1]
      exact SsR.one _ _ HV.out
    have hS1 : Hid (Keep (fun k => ov.ownBlock = some k) A V1) := (hS0.out).trans (Keep.below (S := fun _ => False) hb1) (fun _ h _ => h.elim)
    have hX1 : Hid (OS B V1 ov on xs) := hX0.out.below hb1
    rw [hv1, hr1]
    clear hv1 hr1 hb1
    refine hK1.out _ _ hS1.out ?_
    clear hK1
    intro _
    try simp only [Act.put, List.setIfInBounds_toArray, List.set_cons_zero, List.set_cons_succ]
    refine wpAnyH_ready (rs := [17]) (by kernel_rfl) (by simp) (AllReadyH.cons (i := 17) (o := { dst := some 46, op := Op.call { callee := Callee.builtin Builtin.append, args := #[Operand.tmp 29, Operand.tmp 45], argTypes := #[45, 45] }, type := 45, pos := "tell.go:101", after := #[{ on := 0, ground := Ground.data }, { on := 16, ground := Ground.data }, { on := 14, ground := Ground.chain }], guard := none }) rfl ?_ AllReadyH.nil)
    · intro K1 hK1
      obtain ⟨ov', V2, hr2, ho2, hg2, hw2⟩ := run_appS V1 B 45 ov on xs (some ⟨r, 0, none⟩) 1 1 [⟨y, t, kn⟩] hX1.out hR1.out HN.out (Nat.le_trans HB.out (hS1.out).size)
      refine step_apd (by rfl) _ _ rfl hr2 rfl rfl ?_
      have hS2 : Hid (Keep (fun k => ov.ownBlock = some k) A V2) := (hS1.out).trans (Keep.grownS (S := fun k => ov.ownBlock = some k) hg2 (fun _ h => h)) (fun _ h _ => h)
      have hX2 : Hid (OS B V2 ov' (on + 1) (xs ++ [⟨y, t, kn⟩])) := ho2
      clear hr2 ho2 hg2 hw2
      refine hK1.out _ _ hS2.out ?_
      clear hK1
      intro _
      try simp only [Act.put, List.setIfInBounds_toArray, List.set_cons_zero, List.set_cons_succ]
      refine wpAnyH_take (i := 18) (oi := { dst := some 4, op := Op.assign (Operand.tmp 46), type := 45, pos := "tell.go:101", after := #[{ on := 17, ground := Ground.data }, { on := 17, ground := Ground.chain }, { on := 0, ground := Ground.phase }, { on := 1, ground := Ground.phase }, { on := 2, ground := Ground.phase }, { on := 3, ground := Ground.phase }, { on := 4, ground := Ground.phase }, { on := 5, ground := Ground.phase }, { on := 6, ground := Ground.phase }, { on := 7, ground := Ground.phase }, { on := 8, ground := Ground.phase }, { on := 9, ground := Ground.phase }, { on := 10, ground := Ground.phase }, { on := 11, ground := Ground.phase }, { on := 12, ground := Ground.phase }, { on := 13, ground := Ground.phase }, { on := 14, ground := Ground.phase }, { on := 15, ground := Ground.phase }, { on := 16, ground := Ground.phase }, { on := 17, ground := Ground.phase }], guard := none }) (v := ov') rfl (by kernel_rfl) (by kernel_rfl) (by kernel_rfl) (fun _ _ _ h => h.elim) (Or.inl ⟨by rfl, ?y16⟩) hS2.out ?_
      case y16 =>
        intro V hV
        go_simp
      simp only [Act.put, List.setIfInBounds_toArray, List.set_cons_zero, List.set_cons_succ]
      refine wpAnyH_done (by kernel_rfl) ?_ _
      exact hQ V2 r ov' ⟨hS2.out, hX2.out⟩
end Go.Proofs.Ytjcihaohpbmogaa.Oct
