/-
  Layer 19 (audit): Append: what lies there, and its drawn region.
-/
import Derived.Test.YtmmpafaegmejlaaDoorLog
namespace Go.Proofs.YtmmpafaegmejlaaDoor.Oct
open Go.RowKit Sha
set_option linter.unusedSimpArgs false
set_option linter.unusedVariables false

structure Keep (S : Nat → Prop) (w w' : World) : Prop where
  os : w'.os = w.os
  tape : w'.tape = w.tape
  output : w'.output = w.output
  size : w.heap.size ≤ w'.heap.size
  block : ∀ k, k < w.heap.size → ¬ S k → w'.heap[k]? = w.heap[k]?
theorem Keep.refl (S : Nat → Prop) (w : World) : Keep S w w := ⟨rfl, rfl, rfl, Nat.le_refl _, fun _ _ _ => rfl⟩
theorem Keep.trans {S T : Nat → Prop} {w w1 w2 : World} (h : Keep S w w1) (k : Keep T w1 w2) (hs : ∀ j, T j → j < w.heap.size → S j) : Keep S w w2 :=
  ⟨k.os.trans h.os, k.tape.trans h.tape, k.output.trans h.output, Nat.le_trans h.size k.size, fun j hj hn => (k.block j (Nat.lt_of_lt_of_le hj h.size) (fun ht => hn (hs j ht hj))).trans (h.block j hj hn)⟩
theorem Keep.grown {S : Nat → Prop} {w w' : World} {b : Nat} (h : w.grownBy w' (some b)) (hb : S b) : Keep S w w' := ⟨h.os, h.tape, h.output, h.size, fun k hk hn => h.block k hk (fun e => hn (by cases e; exact hb))⟩
theorem Keep.grownO {S : Nat → Prop} {w w' : World} {r : Option Nat} (h : w.grownBy w' r) (hb : ∀ b, r = some b → S b) : Keep S w w' := ⟨h.os, h.tape, h.output, h.size, fun k hk hn => h.block k hk (fun e => hn (hb k e.symm))⟩
theorem Keep.below {S : Nat → Prop} {w w' : World} (h : Below w.heap.size w w') : Keep S w w' := ⟨h.os, h.tape, h.output, h.size, fun k hk _ => h.block k hk⟩
theorem Keep.toBelow {S : Nat → Prop} {B : Nat} {w w' : World} (h : Keep S w w') (hB : B ≤ w.heap.size) (hs : ∀ k, S k → B ≤ k) : Below B w w' :=
  ⟨h.os, h.tape, h.output, h.size, fun k hk => h.block k (by omega) (fun e => by have := hs k e; omega)⟩
theorem Keep.mono {S T : Nat → Prop} {w w' : World} (h : Keep S w w') (hs : ∀ j, j < w.heap.size → S j → T j) : Keep T w w' := ⟨h.os, h.tape, h.output, h.size, fun k hk hn => h.block k hk (fun e => hn (hs k hk e))⟩
theorem Keep.drew {S : Nat → Prop} {w w' : World} (h : Keep S w w') : Keep S w w'.drew := ⟨h.os, h.tape, h.output, h.size, h.block⟩
theorem Keep.blk {S : Nat → Prop} {w w' : World} (h : Keep S w w') {b : Nat} {t : TypeId} {L : List Value} (hb : Blk w b t L) (hn : ¬ S b) : Blk w' b t L := (h.block b hb.lt hn).trans hb
theorem fold_set : ∀ (cs : List Value) (k : Nat) (A : Array Value), A.size = k + cs.length → ((cs.zipIdx k).foldl (fun a x => a.setIfInBounds x.2 x.1) A).toList = A.toList.take k ++ cs
  | [], k, A, h => by
    rw [List.take_of_length_le (by simp at h ⊢; omega)]; simp
  | c :: cs, k, A, h => by
    rw [List.zipIdx_cons, List.foldl_cons, fold_set cs (k + 1) _ (by simp at h ⊢; omega)]
    have hk : k < A.toList.length := by simp at h ⊢; omega
    simp only [Array.toList_setIfInBounds]
    rw [List.take_succ_eq_append_getElem (by simpa using hk), List.take_set_of_le (Nat.le_refl _)]
    simp
theorem run_bs1 (cs : List Value) (hl : cs.length = 36) (W : World) :
    (Instr.buildSlice 27 1 #[(0, .agg cs.toArray)]).run Tryd.prog W = .ok (.slice (some ⟨W.heap.size, 0, none⟩) 1 1) (W.alloc (.cells cs.toArray 37)) := by
  obtain ⟨i, z, hi, hz, hs1, hby, hzs⟩ := sized37
  have e : ∀ A : Array Value, A.size = 36 → List.foldl (fun cs (x : Value × Nat) => cs.setIfInBounds x.2 x.1) A cs.zipIdx = cs.toArray := by
    intro A hA
    apply Array.toList_inj.1
    rw [fold_set cs 0 A (by rw [hl, hA])]
    simp
  simp [Instr.buildSlice, run_underlying elem27, sizeOf, typeInfo, hi, hs1, zeroValue, hz, Instr.fill, Value.cells, hl, hzs, e]
  simp [newRow]
theorem keep_al {S : Nat → Prop} {A V : World} (h : Keep S A V) (o : Obj) : Keep S A (V.alloc o) := h.trans (Keep.below (S := S) (below_al V o)) (fun _ hj _ => hj)
def SC (c : Nat) (v : Value) (k : Nat) : Prop := k = c ∨ v.ownBlock = some k
theorem esr_one {W : World} {b : Nat} {x : En} (hx : x.ok) (h : W.rangeAt b 0 x.cells) (hb : b < W.heap.size) : EsR W (.slice (some ⟨b, 0, none⟩) 1 1) [x] := by
  refine ⟨fun e he => by rw [List.mem_singleton.1 he]; exact hx, some ⟨b, 0, none⟩, 1, rfl, Nat.le_refl _, by unfold maxLen; omega, fun _ => ⟨b, 0, rfl, hb, fun i e he => ?_⟩⟩
  cases i with
  | zero => simp at he; subst he; simpa using h
  | succ i => simp at he
section
variable {ops : Array Oper} {o : Oper} {a : Act} {w : World} {K : Act → World → Prop} {Q : Exit → Act → World → Prop} {E : Prop}
theorem step_bs (hw : Region.wanted o (yielded ops a.tmps) = true) (t : TypeId) (x : Operand) (u : Value) (hop : o.op = .buildSlice t 1 #[(0, x)]) (hx : a.eval x = u) {v : Value} {w' : World} (hrun : (Instr.buildSlice t 1 #[(0, u)]).run Tryd.prog w = .ok v w')
    (hk : K (a.put o.dst v) w') : if Region.wanted o (yielded ops a.tmps) = true then Oper.wp Tryd.prog o a w K Q else E := by
  rw [if_pos hw]
  unfold Oper.wp execOp
  simp [hop, hx, hrun, Result.andThen]
  exact hk
theorem step_app (hw : Region.wanted o (yielded ops a.tmps) = true) (s x : Operand) (hop : o.op = .call { callee := .builtin .append, args := #[s, x], argTypes := #[27, 27] })
    {B : Nat} {v : Value} {l : List En} (h : OwE w B v l) {ad : Option Addr} {m c : Nat} {q : List En} (hq : EsR w (.slice ad m c) q) (hn : l.length + q.length ≤ 1000000) (hB : B ≤ w.heap.size) (hsv : a.eval s = v) (hx : a.eval x = .slice ad m c)
    (hk : ∀ v' w', Hid (OwE w' B v' (l ++ q)) → Hid (w.grownBy w' v.ownBlock) → Hid (v'.ownBlock = v.ownBlock ∨ v'.ownBlock = some w.heap.size) → K (a.put o.dst v') w') : if Region.wanted o (yielded ops a.tmps) = true then Oper.wp Tryd.prog o a w K Q else E := by
  rw [if_pos hw]
  obtain ⟨v', w', hr, h2, h3, h4⟩ := run_app h o.type hq hn hB
  unfold Oper.wp execOp
  simp only [hop, resolve, invoke, builtin, Sem.run_bind, Sem.run_pure, Result.andThen_ok, List.map_toArray, List.map_cons, List.map_nil, hsv, hx, hr]
  exact hk v' w' h2 h3 h4
theorem step_st1 (hw : Region.wanted o (yielded ops a.tmps) = true) (t : TypeId) (x y : Operand) (hop : o.op = .store t x y) (b k : Nat) (v : Value) (T : TypeId) (L : List Value) (hx : a.eval x = .pointer (some ⟨b, k, none⟩)) (hy : a.eval y = v) (hb : Blk w b T L) (hkl : k < L.length)
    (hi : (Tryd.prog.info? t).map (·.size) = some 1) (h1 : v.cells = #[v]) (h2 : v.oneCell' = true) (hk : K (a.put o.dst undef) (w.setCell ⟨b, k, none⟩ v)) : if Region.wanted o (yielded ops a.tmps) = true then Oper.wp Tryd.prog o a w K Q else E := by
  rw [if_pos hw]
  obtain ⟨i, hi2, hi3⟩ := Option.map_eq_some_iff.1 hi
  obtain ⟨u, hu⟩ : ∃ u, L[k]? = some u := ⟨_, List.getElem?_eq_getElem hkl⟩
  have hc := hb.cell hu
  have hf := hb.free k
  unfold Oper.wp execOp
  simp [hop, hx, hy, Instr.storeAt, Instr.sureAddr, storeVar, sizeOf, typeInfo, hi2, hi3, h1, storeCells, run_store _ _ _ _ _ h2, stored, hc, hf, Addr.add_lit, Result.andThen]
  exact hk
end
theorem ow_slice {w : World} {B : Nat} {v : Value} {l : List En} (h : OwE w B v l) : ∃ a c, v = .slice a l.length c := by
  obtain ⟨_, a, c, h, _⟩ := h.esr
  exact ⟨a, c, h⟩
set_option maxRecDepth 100000 in
set_option maxHeartbeats 4000000 in
theorem ap6 {Q : Exit → Act → World → Prop} {x1 x2 x3 x4 x5 x6 x7 x8 x9 x11 x12 x13 x14 x15 x16 x17 x18 x19 x20 x21 x22 x23 x24 x25 x26 x27 x28 x29 x30 x31 x32 x33 x34 x35 x36 x37 x38 x39 x40 x41 x42 x43 x44 x45 x46 x47 : Value} {ds : List Deferred} {A : World} {L c q B : Nat} {v : Value} {l : List En} {x : En}
    (HL : Hid (L < A.heap.size ∧ ¬ SC c v L ∧ q < A.heap.size ∧ ¬ SC c v q)) (cL : A.cell? ⟨L, 0, none⟩ = some (.pointer (some ⟨c, 0, none⟩))) (HR : Hid (A.rangeAt q 0 x.cells)) (HX : Hid x.ok) (HXC : Hid (Blk A c 58 [v])) (HO : Hid (OwE A B v l)) (HN : Hid (l.length ≤ 5000)) (HBB : Hid (B ≤ A.heap.size)) (HNC : Hid (v.ownBlock ≠ some c)) (HCL : Hid (c < A.heap.size))
    (hQ : ∀ V1 v2 nb, Blk V1 c 58 [v2] → OwE V1 B v2 (l ++ [x]) → (v2.ownBlock = v.ownBlock ∨ ∃ g, v2.ownBlock = some g ∧ A.heap.size ≤ g) → Keep (SC c v) A V1 → Q .normal { tmps := #[.pointer (some ⟨L, 0, none⟩), x1, x2, x3, x4, x5, x6, x7, x8, x9, .pointer (some ⟨q, 0, none⟩), x11, x12, x13, x14, x15, x16, x17, x18, x19, x20, x21, x22, x23, x24, x25, x26, x27, x28, x29, x30, .pointer (some ⟨L, 0, none⟩), .pointer (some ⟨L, 0, none⟩), .pointer (some ⟨L, 0, none⟩), .pointer (some ⟨c, 0, none⟩), .pointer (some ⟨L, 0, none⟩), .pointer (some ⟨L, 0, none⟩), .pointer (some ⟨L, 0, none⟩), .pointer (some ⟨c, 0, none⟩), .pointer (some ⟨c, 0, none⟩), .pointer (some ⟨c, 0, none⟩), v, .agg x.cells.toArray, .slice (some ⟨nb, 0, none⟩) 1 1, v2, .pointer (some ⟨c, 0, none⟩), .pointer (some ⟨c, 0, none⟩), x47], defers := ds } V1) :
    (Code.region 6 #[{ dst := some 31, op := Op.move (Operand.tmp 0), type := 25, pos := "audit.go:34", after := #[], guard := none }, { dst := some 32, op := Op.nilCheck (Operand.tmp 31), type := 0, pos := "audit.go:34", after := #[{ on := 0, ground := Ground.data }], guard := none }, { dst := some 33, op := Op.fieldAddr 53 (Operand.tmp 32) 0, type := 0, pos := "audit.go:34", after := #[{ on := 1, ground := Ground.data }], guard := none }, { dst := some 34, op := Op.load 51 (Operand.tmp 33), type := 51, pos := "audit.go:34", after := #[{ on := 2, ground := Ground.data }], guard := none }, { dst := some 35, op := Op.move (Operand.tmp 0), type := 25, pos := "audit.go:34", after := #[], guard := none }, { dst := some 36, op := Op.nilCheck (Operand.tmp 35), type := 0, pos := "audit.go:34", after := #[{ on := 4, ground := Ground.data }], guard := none }, { dst := some 37, op := Op.fieldAddr 53 (Operand.tmp 36) 0, type := 0, pos := "audit.go:34", after := #[{ on := 5, ground := Ground.data }], guard := none }, { dst := some 38, op := Op.load 51 (Operand.tmp 37), type := 51, pos := "audit.go:34", after := #[{ on := 6, ground := Ground.data }], guard := none }, { dst := some 39, op := Op.nilCheck (Operand.tmp 38), type := 0, pos := "audit.go:34", after := #[{ on := 7, ground := Ground.data }], guard := none }, { dst := some 40, op := Op.fieldAddr 58 (Operand.tmp 39) 0, type := 0, pos := "audit.go:34", after := #[{ on := 8, ground := Ground.data }], guard := none }, { dst := some 41, op := Op.load 27 (Operand.tmp 40), type := 27, pos := "audit.go:34", after := #[{ on := 9, ground := Ground.data }], guard := none }, { dst := some 42, op := Op.load 37 (Operand.tmp 10), type := 37, pos := "audit.go:34", after := #[], guard := none }, { dst := some 43, op := Op.buildSlice 27 1 #[(0, Operand.tmp 42)], type := 27, pos := "audit.go:34", after := #[{ on := 11, ground := Ground.data }], guard := none }, { dst := some 44, op := Op.call { callee := Callee.builtin Builtin.append, args := #[Operand.tmp 41, Operand.tmp 43], argTypes := #[27, 27] }, type := 27, pos := "audit.go:34", after := #[{ on := 10, ground := Ground.data }, { on := 12, ground := Ground.data }], guard := none }, { dst := some 45, op := Op.nilCheck (Operand.tmp 34), type := 0, pos := "audit.go:34", after := #[{ on := 3, ground := Ground.data }, { on := 0, ground := Ground.phase }, { on := 1, ground := Ground.phase }, { on := 2, ground := Ground.phase }, { on := 3, ground := Ground.phase }, { on := 4, ground := Ground.phase }, { on := 5, ground := Ground.phase }, { on := 6, ground := Ground.phase }, { on := 7, ground := Ground.phase }, { on := 8, ground := Ground.phase }, { on := 9, ground := Ground.phase }, { on := 10, ground := Ground.phase }, { on := 11, ground := Ground.phase }, { on := 12, ground := Ground.phase }, { on := 13, ground := Ground.phase }], guard := none }, { dst := some 46, op := Op.fieldAddr 58 (Operand.tmp 45) 0, type := 0, pos := "audit.go:34", after := #[{ on := 14, ground := Ground.data }, { on := 0, ground := Ground.phase }, { on := 1, ground := Ground.phase }, { on := 2, ground := Ground.phase }, { on := 3, ground := Ground.phase }, { on := 4, ground := Ground.phase }, { on := 5, ground := Ground.phase }, { on := 6, ground := Ground.phase }, { on := 7, ground := Ground.phase }, { on := 8, ground := Ground.phase }, { on := 9, ground := Ground.phase }, { on := 10, ground := Ground.phase }, { on := 11, ground := Ground.phase }, { on := 12, ground := Ground.phase }, { on := 13, ground := Ground.phase }], guard := none }, { dst := none, op := Op.store 27 (Operand.tmp 46) (Operand.tmp 44), type := 0, pos := "audit.go:34", after := #[{ on := 15, ground := Ground.data }, { on := 13, ground := Ground.data }, { on := 13, ground := Ground.chain }, { on := 0, ground := Ground.phase }, { on := 1, ground := Ground.phase }, { on := 2, ground := Ground.phase }, { on := 3, ground := Ground.phase }, { on := 4, ground := Ground.phase }, { on := 5, ground := Ground.phase }, { on := 6, ground := Ground.phase }, { on := 7, ground := Ground.phase }, { on := 8, ground := Ground.phase }, { on := 9, ground := Ground.phase }, { on := 10, ground := Ground.phase }, { on := 11, ground := Ground.phase }, { on := 12, ground := Ground.phase }, { on := 13, ground := Ground.phase }], guard := none }] true).wp Tryd.prog Q { tmps := #[.pointer (some ⟨L, 0, none⟩), x1, x2, x3, x4, x5, x6, x7, x8, x9, .pointer (some ⟨q, 0, none⟩), x11, x12, x13, x14, x15, x16, x17, x18, x19, x20, x21, x22, x23, x24, x25, x26, x27, x28, x29, x30, x31, x32, x33, x34, x35, x36, x37, x38, x39, x40, x41, x42, x43, x44, x45, x46, x47], defers := ds } A := by
  refine Code.wp_mono (Q := fun x a' w' => match x with | .normal => Q .normal a' w' | _ => False) (by intro x a' w' h; cases x <;> first | exact h | exact h.elim) ?_
  refine wp_region_held (S := fun V => Keep (SC c v) A V) (by kernel_rfl) ?_
  have hS0 : Hid (Keep (SC c v) A A.drew) := (Keep.refl _ A).drew
  change wpAnyH Tryd.prog .any _ _ (fun V => Keep (SC c v) A V) 17 (Array.replicate 17 false) _ A.drew
  obtain ⟨V0, hV0⟩ : ∃ V0, A.drew = V0 := ⟨_, rfl⟩
  rw [hV0]
  rw [hV0] at hS0
  have hX0 : Hid (Blk V0 c 58 [v]) := by rw [← hV0]; exact HXC.out
  have hO0 : Hid (OwE V0 B v l) := by rw [← hV0]; exact HO.out.same (fun _ _ => rfl)
  clear hV0
  refine wpAnyH_take (i := 0) (oi := { dst := some 31, op := Op.move (Operand.tmp 0), type := 25, pos := "audit.go:34", after := #[], guard := none }) (v := .pointer (some ⟨L, 0, none⟩)) rfl (by kernel_rfl) (by kernel_rfl) (by kernel_rfl) (fun _ _ _ h => h.elim) (Or.inl ⟨by rfl, ?y1⟩) hS0.out ?_
  case y1 =>
    intro V hV
    go_simp
  simp only [Act.put, List.setIfInBounds_toArray, List.set_cons_zero, List.set_cons_succ]
  refine wpAnyH_take (i := 1) (oi := { dst := some 32, op := Op.nilCheck (Operand.tmp 31), type := 0, pos := "audit.go:34", after := #[{ on := 0, ground := Ground.data }], guard := none }) (v := .pointer (some ⟨L, 0, none⟩)) rfl (by kernel_rfl) (by kernel_rfl) (by kernel_rfl) (fun _ _ _ h => h.elim) (Or.inl ⟨by rfl, ?y2⟩) hS0.out ?_
  case y2 =>
    intro V hV
    go_simp
  simp only [Act.put, List.setIfInBounds_toArray, List.set_cons_zero, List.set_cons_succ]
  refine wpAnyH_take (i := 2) (oi := { dst := some 33, op := Op.fieldAddr 53 (Operand.tmp 32) 0, type := 0, pos := "audit.go:34", after := #[{ on := 1, ground := Ground.data }], guard := none }) (v := .pointer (some ⟨L, 0, none⟩)) rfl (by kernel_rfl) (by kernel_rfl) (by kernel_rfl) (fun _ _ _ h => h.elim) (Or.inl ⟨by rfl, ?y3⟩) hS0.out ?_
  case y3 =>
    intro V hV
    go_simp
  simp only [Act.put, List.setIfInBounds_toArray, List.set_cons_zero, List.set_cons_succ]
  refine wpAnyH_take (i := 3) (oi := { dst := some 34, op := Op.load 51 (Operand.tmp 33), type := 51, pos := "audit.go:34", after := #[{ on := 2, ground := Ground.data }], guard := none }) (v := .pointer (some ⟨c, 0, none⟩)) rfl (by kernel_rfl) (by kernel_rfl) (by kernel_rfl) (fun _ _ _ h => h.elim) (Or.inl ⟨by rfl, ?y4⟩) hS0.out ?_
  case y4 =>
    intro V hV
    have hc : V.cell? ⟨L, 0, none⟩ = some (.pointer (some ⟨c, 0, none⟩)) := (World.cell?_of_block (a := ⟨L, 0, none⟩) ((show Keep (SC c v) A V from hV).block L HL.out.1 HL.out.2.1)).trans cL
    go_simp
  simp only [Act.put, List.setIfInBounds_toArray, List.set_cons_zero, List.set_cons_succ]
  refine wpAnyH_take (i := 4) (oi := { dst := some 35, op := Op.move (Operand.tmp 0), type := 25, pos := "audit.go:34", after := #[], guard := none }) (v := .pointer (some ⟨L, 0, none⟩)) rfl (by kernel_rfl) (by kernel_rfl) (by kernel_rfl) (fun _ _ _ h => h.elim) (Or.inl ⟨by rfl, ?y5⟩) hS0.out ?_
  case y5 =>
    intro V hV
    go_simp
  simp only [Act.put, List.setIfInBounds_toArray, List.set_cons_zero, List.set_cons_succ]
  refine wpAnyH_take (i := 5) (oi := { dst := some 36, op := Op.nilCheck (Operand.tmp 35), type := 0, pos := "audit.go:34", after := #[{ on := 4, ground := Ground.data }], guard := none }) (v := .pointer (some ⟨L, 0, none⟩)) rfl (by kernel_rfl) (by kernel_rfl) (by kernel_rfl) (fun _ _ _ h => h.elim) (Or.inl ⟨by rfl, ?y6⟩) hS0.out ?_
  case y6 =>
    intro V hV
    go_simp
  simp only [Act.put, List.setIfInBounds_toArray, List.set_cons_zero, List.set_cons_succ]
  refine wpAnyH_take (i := 6) (oi := { dst := some 37, op := Op.fieldAddr 53 (Operand.tmp 36) 0, type := 0, pos := "audit.go:34", after := #[{ on := 5, ground := Ground.data }], guard := none }) (v := .pointer (some ⟨L, 0, none⟩)) rfl (by kernel_rfl) (by kernel_rfl) (by kernel_rfl) (fun _ _ _ h => h.elim) (Or.inl ⟨by rfl, ?y7⟩) hS0.out ?_
  case y7 =>
    intro V hV
    go_simp
  simp only [Act.put, List.setIfInBounds_toArray, List.set_cons_zero, List.set_cons_succ]
  refine wpAnyH_take (i := 7) (oi := { dst := some 38, op := Op.load 51 (Operand.tmp 37), type := 51, pos := "audit.go:34", after := #[{ on := 6, ground := Ground.data }], guard := none }) (v := .pointer (some ⟨c, 0, none⟩)) rfl (by kernel_rfl) (by kernel_rfl) (by kernel_rfl) (fun _ _ _ h => h.elim) (Or.inl ⟨by rfl, ?y8⟩) hS0.out ?_
  case y8 =>
    intro V hV
    have hc : V.cell? ⟨L, 0, none⟩ = some (.pointer (some ⟨c, 0, none⟩)) := (World.cell?_of_block (a := ⟨L, 0, none⟩) ((show Keep (SC c v) A V from hV).block L HL.out.1 HL.out.2.1)).trans cL
    go_simp
  simp only [Act.put, List.setIfInBounds_toArray, List.set_cons_zero, List.set_cons_succ]
  refine wpAnyH_take (i := 8) (oi := { dst := some 39, op := Op.nilCheck (Operand.tmp 38), type := 0, pos := "audit.go:34", after := #[{ on := 7, ground := Ground.data }], guard := none }) (v := .pointer (some ⟨c, 0, none⟩)) rfl (by kernel_rfl) (by kernel_rfl) (by kernel_rfl) (fun _ _ _ h => h.elim) (Or.inl ⟨by rfl, ?y9⟩) hS0.out ?_
  case y9 =>
    intro V hV
    go_simp
  simp only [Act.put, List.setIfInBounds_toArray, List.set_cons_zero, List.set_cons_succ]
  refine wpAnyH_take (i := 9) (oi := { dst := some 40, op := Op.fieldAddr 58 (Operand.tmp 39) 0, type := 0, pos := "audit.go:34", after := #[{ on := 8, ground := Ground.data }], guard := none }) (v := .pointer (some ⟨c, 0, none⟩)) rfl (by kernel_rfl) (by kernel_rfl) (by kernel_rfl) (fun _ _ _ h => h.elim) (Or.inl ⟨by rfl, ?y10⟩) hS0.out ?_
  case y10 =>
    intro V hV
    go_simp
  simp only [Act.put, List.setIfInBounds_toArray, List.set_cons_zero, List.set_cons_succ]
  refine wpAnyH_take (i := 11) (oi := { dst := some 42, op := Op.load 37 (Operand.tmp 10), type := 37, pos := "audit.go:34", after := #[], guard := none }) (v := .agg x.cells.toArray) rfl (by kernel_rfl) (by kernel_rfl) (by kernel_rfl) (fun _ _ _ h => h.elim) (yieldsIf_load_mid (by rfl) _ _ rfl _ _ rfl (x.cells) _ (fun V hV => rangeAt_same (HR.out) ((show Keep (SC c v) A V from hV).block _ (HL.out.2.2.1) (HL.out.2.2.2))) Tryd.underlying37 rfl (info37 HX.out)) hS0.out ?_
  simp only [Act.put, List.setIfInBounds_toArray, List.set_cons_zero, List.set_cons_succ]
  refine wpAnyH_ready (rs := [10, 12]) (by kernel_rfl) (by simp) (AllReadyH.cons (i := 10) (o := { dst := some 41, op := Op.load 27 (Operand.tmp 40), type := 27, pos := "audit.go:34", after := #[{ on := 9, ground := Ground.data }], guard := none }) rfl ?_ (AllReadyH.cons (i := 12) (o := { dst := some 43, op := Op.buildSlice 27 1 #[(0, Operand.tmp 42)], type := 27, pos := "audit.go:34", after := #[{ on := 11, ground := Ground.data }], guard := none }) rfl ?_ AllReadyH.nil))
  · intro K1 hK1
    rw [if_pos (by rfl)]
    have hc : V0.cell? ⟨c, 0, none⟩ = some v := hX0.out.cell rfl
    go_wp2
    clear hc
    refine hK1.out _ _ hS0.out ?_
    clear hK1
    intro _
    try simp only [Act.put, List.setIfInBounds_toArray, List.set_cons_zero, List.set_cons_succ]
    refine wpAnyH_ready (rs := [12]) (by kernel_rfl) (by simp) (AllReadyH.cons (i := 12) (o := { dst := some 43, op := Op.buildSlice 27 1 #[(0, Operand.tmp 42)], type := 27, pos := "audit.go:34", after := #[{ on := 11, ground := Ground.data }], guard := none }) rfl ?_ AllReadyH.nil)
    · intro K1 hK1
      refine step_bs (by rfl) 27 (.tmp 42) _ rfl rfl (run_bs1 x.cells (En.len HX.out) _) ?_
      obtain ⟨V2, hv2⟩ : ∃ V, V0.alloc (.cells x.cells.toArray 37) = V := ⟨_, rfl⟩
      obtain ⟨q2, hq2⟩ : ∃ m, V0.heap.size = m := ⟨_, rfl⟩
      have hS2 : Hid (Keep (SC c v) A V2) := by rw [← hv2]; exact keep_al hS0.out _
      have hX2 : Hid (Blk V2 c 58 [v]) := by rw [← hv2]; exact hX0.out.alloc _
      have hO2 : Hid (OwE V2 B v l) := by rw [← hv2]; exact hO0.out.below (below_al _ _)
      have hR2 : Hid (EsR V2 (.slice (some ⟨q2, 0, none⟩) 1 1) [x]) := by rw [← hv2, ← hq2]; exact esr_one HX.out (Blk.new V0 _ _).range0 (Blk.new V0 _ _).lt
      rw [hv2, hq2]
      clear hv2 hq2
      refine hK1.out _ _ hS2.out ?_
      clear hK1
      intro _
      try simp only [Act.put, List.setIfInBounds_toArray, List.set_cons_zero, List.set_cons_succ]
      refine wpAnyH_ready (rs := [13]) (by kernel_rfl) (by simp) (AllReadyH.cons (i := 13) (o := { dst := some 44, op := Op.call { callee := Callee.builtin Builtin.append, args := #[Operand.tmp 41, Operand.tmp 43], argTypes := #[27, 27] }, type := 27, pos := "audit.go:34", after := #[{ on := 10, ground := Ground.data }, { on := 12, ground := Ground.data }], guard := none }) rfl ?_ AllReadyH.nil)
      · intro K1 hK1
        refine step_app (by rfl) (.tmp 41) (.tmp 43) rfl hO2.out hR2.out (by have := HN.out; simp; omega) (Nat.le_trans HBB.out hS2.out.size) rfl rfl ?_
        intro v3 V3 ho3 hg3 hp3
        have hS3 : Hid (Keep (SC c v) A V3) := hS2.out.trans (Keep.grownO (S := SC c v) hg3.out (fun k hk => .inr hk)) (fun _ hj _ => hj)
        have hX3 : Hid (Blk V3 c 58 [v]) := hX2.out.kept hg3.out (fun hk => HNC.out hk.symm)
        have hP3 : Hid (v3.ownBlock = v.ownBlock ∨ ∃ g, v3.ownBlock = some g ∧ A.heap.size ≤ g) := hp3.out.imp id (fun h => ⟨_, h, hS2.out.size⟩)
        clear hg3 hp3
        refine hK1.out _ _ hS3.out ?_
        clear hK1
        intro _
        try simp only [Act.put, List.setIfInBounds_toArray, List.set_cons_zero, List.set_cons_succ]
        refine wpAnyH_take (i := 14) (oi := { dst := some 45, op := Op.nilCheck (Operand.tmp 34), type := 0, pos := "audit.go:34", after := #[{ on := 3, ground := Ground.data }, { on := 0, ground := Ground.phase }, { on := 1, ground := Ground.phase }, { on := 2, ground := Ground.phase }, { on := 3, ground := Ground.phase }, { on := 4, ground := Ground.phase }, { on := 5, ground := Ground.phase }, { on := 6, ground := Ground.phase }, { on := 7, ground := Ground.phase }, { on := 8, ground := Ground.phase }, { on := 9, ground := Ground.phase }, { on := 10, ground := Ground.phase }, { on := 11, ground := Ground.phase }, { on := 12, ground := Ground.phase }, { on := 13, ground := Ground.phase }], guard := none }) (v := .pointer (some ⟨c, 0, none⟩)) rfl (by kernel_rfl) (by kernel_rfl) (by kernel_rfl) (fun _ _ _ h => h.elim) (Or.inl ⟨by rfl, ?y11⟩) hS3.out ?_
        case y11 =>
          intro V hV
          go_simp
        simp only [Act.put, List.setIfInBounds_toArray, List.set_cons_zero, List.set_cons_succ]
        refine wpAnyH_take (i := 15) (oi := { dst := some 46, op := Op.fieldAddr 58 (Operand.tmp 45) 0, type := 0, pos := "audit.go:34", after := #[{ on := 14, ground := Ground.data }, { on := 0, ground := Ground.phase }, { on := 1, ground := Ground.phase }, { on := 2, ground := Ground.phase }, { on := 3, ground := Ground.phase }, { on := 4, ground := Ground.phase }, { on := 5, ground := Ground.phase }, { on := 6, ground := Ground.phase }, { on := 7, ground := Ground.phase }, { on := 8, ground := Ground.phase }, { on := 9, ground := Ground.phase }, { on := 10, ground := Ground.phase }, { on := 11, ground := Ground.phase }, { on := 12, ground := Ground.phase }, { on := 13, ground := Ground.phase }], guard := none }) (v := .pointer (some ⟨c, 0, none⟩)) rfl (by kernel_rfl) (by kernel_rfl) (by kernel_rfl) (fun _ _ _ h => h.elim) (Or.inl ⟨by rfl, ?y12⟩) hS3.out ?_
        case y12 =>
          intro V hV
          go_simp
        simp only [Act.put, List.setIfInBounds_toArray, List.set_cons_zero, List.set_cons_succ]
        refine wpAnyH_ready (rs := [16]) (by kernel_rfl) (by simp) (AllReadyH.cons (i := 16) (o := { dst := none, op := Op.store 27 (Operand.tmp 46) (Operand.tmp 44), type := 0, pos := "audit.go:34", after := #[{ on := 15, ground := Ground.data }, { on := 13, ground := Ground.data }, { on := 13, ground := Ground.chain }, { on := 0, ground := Ground.phase }, { on := 1, ground := Ground.phase }, { on := 2, ground := Ground.phase }, { on := 3, ground := Ground.phase }, { on := 4, ground := Ground.phase }, { on := 5, ground := Ground.phase }, { on := 6, ground := Ground.phase }, { on := 7, ground := Ground.phase }, { on := 8, ground := Ground.phase }, { on := 9, ground := Ground.phase }, { on := 10, ground := Ground.phase }, { on := 11, ground := Ground.phase }, { on := 12, ground := Ground.phase }, { on := 13, ground := Ground.phase }], guard := none }) rfl ?_ AllReadyH.nil)
        · intro K1 hK1
          obtain ⟨as4, cs4, hsv4⟩ := ow_slice ho3.out
          refine step_st1 (by rfl) 27 (.tmp 46) (.tmp 44) rfl c 0 v3 58 _ rfl rfl hX3.out (by simp) (by kernel_rfl) (by rw [hsv4]; rfl) (by rw [hsv4]; rfl) ?_
          obtain ⟨V4, hv4⟩ : ∃ V, V3.setCell ⟨c, 0, none⟩ v3 = V := ⟨_, rfl⟩
          have hg4 : V3.grownBy V4 (some c) := by rw [← hv4]; exact grown_setCell _ _ _ _
          have hS4 : Hid (Keep (SC c v) A V4) := hS3.out.trans (Keep.grown (S := SC c v) hg4 (.inl rfl)) (fun _ hj _ => hj)
          have hX4 : Hid (Blk V4 c 58 [v3]) := by rw [← hv4]; exact hX3.out.set 0 v3
          have hO4 : Hid (OwE V4 B v3 (l ++ [x])) := ho3.out.same (fun g hg => hg4.block g (ho3.out.lt hg).2 (fun hk => by cases hk; exact hP3.out.elim (fun h => HNC.out (h.symm.trans hg)) (fun ⟨g2, h, h2⟩ => by rw [hg] at h; cases h; have := HCL.out; omega)))
          rw [hv4]
          clear hv4 hg4 hsv4
          refine hK1.out _ _ hS4.out ?_
          clear hK1
          intro _
          try simp only [Act.put, List.setIfInBounds_toArray, List.set_cons_zero, List.set_cons_succ]
          refine wpAnyH_done (by kernel_rfl) ?_ _
          exact hQ V4 _ _ hX4.out hO4.out hP3.out hS4.out
  · intro K1 hK1
    refine step_bs (by rfl) 27 (.tmp 42) _ rfl rfl (run_bs1 x.cells (En.len HX.out) _) ?_
    obtain ⟨V1, hv1⟩ : ∃ V, V0.alloc (.cells x.cells.toArray 37) = V := ⟨_, rfl⟩
    obtain ⟨q1, hq1⟩ : ∃ m, V0.heap.size = m := ⟨_, rfl⟩
    have hS1 : Hid (Keep (SC c v) A V1) := by rw [← hv1]; exact keep_al hS0.out _
    have hX1 : Hid (Blk V1 c 58 [v]) := by rw [← hv1]; exact hX0.out.alloc _
    have hO1 : Hid (OwE V1 B v l) := by rw [← hv1]; exact hO0.out.below (below_al _ _)
    have hR1 : Hid (EsR V1 (.slice (some ⟨q1, 0, none⟩) 1 1) [x]) := by rw [← hv1, ← hq1]; exact esr_one HX.out (Blk.new V0 _ _).range0 (Blk.new V0 _ _).lt
    rw [hv1, hq1]
    clear hv1 hq1
    refine hK1.out _ _ hS1.out ?_
    clear hK1
    intro _
    try simp only [Act.put, List.setIfInBounds_toArray, List.set_cons_zero, List.set_cons_succ]
    refine wpAnyH_ready (rs := [10]) (by kernel_rfl) (by simp) (AllReadyH.cons (i := 10) (o := { dst := some 41, op := Op.load 27 (Operand.tmp 40), type := 27, pos := "audit.go:34", after := #[{ on := 9, ground := Ground.data }], guard := none }) rfl ?_ AllReadyH.nil)
    · intro K1 hK1
      rw [if_pos (by rfl)]
      have hc : V1.cell? ⟨c, 0, none⟩ = some v := hX1.out.cell rfl
      go_wp2
      clear hc
      refine hK1.out _ _ hS1.out ?_
      clear hK1
      intro _
      try simp only [Act.put, List.setIfInBounds_toArray, List.set_cons_zero, List.set_cons_succ]
      refine wpAnyH_ready (rs := [13]) (by kernel_rfl) (by simp) (AllReadyH.cons (i := 13) (o := { dst := some 44, op := Op.call { callee := Callee.builtin Builtin.append, args := #[Operand.tmp 41, Operand.tmp 43], argTypes := #[27, 27] }, type := 27, pos := "audit.go:34", after := #[{ on := 10, ground := Ground.data }, { on := 12, ground := Ground.data }], guard := none }) rfl ?_ AllReadyH.nil)
      · intro K1 hK1
        refine step_app (by rfl) (.tmp 41) (.tmp 43) rfl hO1.out hR1.out (by have := HN.out; simp; omega) (Nat.le_trans HBB.out hS1.out.size) rfl rfl ?_
        intro v3 V3 ho3 hg3 hp3
        have hS3 : Hid (Keep (SC c v) A V3) := hS1.out.trans (Keep.grownO (S := SC c v) hg3.out (fun k hk => .inr hk)) (fun _ hj _ => hj)
        have hX3 : Hid (Blk V3 c 58 [v]) := hX1.out.kept hg3.out (fun hk => HNC.out hk.symm)
        have hP3 : Hid (v3.ownBlock = v.ownBlock ∨ ∃ g, v3.ownBlock = some g ∧ A.heap.size ≤ g) := hp3.out.imp id (fun h => ⟨_, h, hS1.out.size⟩)
        clear hg3 hp3
        refine hK1.out _ _ hS3.out ?_
        clear hK1
        intro _
        try simp only [Act.put, List.setIfInBounds_toArray, List.set_cons_zero, List.set_cons_succ]
        refine wpAnyH_take (i := 14) (oi := { dst := some 45, op := Op.nilCheck (Operand.tmp 34), type := 0, pos := "audit.go:34", after := #[{ on := 3, ground := Ground.data }, { on := 0, ground := Ground.phase }, { on := 1, ground := Ground.phase }, { on := 2, ground := Ground.phase }, { on := 3, ground := Ground.phase }, { on := 4, ground := Ground.phase }, { on := 5, ground := Ground.phase }, { on := 6, ground := Ground.phase }, { on := 7, ground := Ground.phase }, { on := 8, ground := Ground.phase }, { on := 9, ground := Ground.phase }, { on := 10, ground := Ground.phase }, { on := 11, ground := Ground.phase }, { on := 12, ground := Ground.phase }, { on := 13, ground := Ground.phase }], guard := none }) (v := .pointer (some ⟨c, 0, none⟩)) rfl (by kernel_rfl) (by kernel_rfl) (by kernel_rfl) (fun _ _ _ h => h.elim) (Or.inl ⟨by rfl, ?y13⟩) hS3.out ?_
        case y13 =>
          intro V hV
          go_simp
        simp only [Act.put, List.setIfInBounds_toArray, List.set_cons_zero, List.set_cons_succ]
        refine wpAnyH_take (i := 15) (oi := { dst := some 46, op := Op.fieldAddr 58 (Operand.tmp 45) 0, type := 0, pos := "audit.go:34", after := #[{ on := 14, ground := Ground.data }, { on := 0, ground := Ground.phase }, { on := 1, ground := Ground.phase }, { on := 2, ground := Ground.phase }, { on := 3, ground := Ground.phase }, { on := 4, ground := Ground.phase }, { on := 5, ground := Ground.phase }, { on := 6, ground := Ground.phase }, { on := 7, ground := Ground.phase }, { on := 8, ground := Ground.phase }, { on := 9, ground := Ground.phase }, { on := 10, ground := Ground.phase }, { on := 11, ground := Ground.phase }, { on := 12, ground := Ground.phase }, { on := 13, ground := Ground.phase }], guard := none }) (v := .pointer (some ⟨c, 0, none⟩)) rfl (by kernel_rfl) (by kernel_rfl) (by kernel_rfl) (fun _ _ _ h => h.elim) (Or.inl ⟨by rfl, ?y14⟩) hS3.out ?_
        case y14 =>
          intro V hV
          go_simp
        simp only [Act.put, List.setIfInBounds_toArray, List.set_cons_zero, List.set_cons_succ]
        refine wpAnyH_ready (rs := [16]) (by kernel_rfl) (by simp) (AllReadyH.cons (i := 16) (o := { dst := none, op := Op.store 27 (Operand.tmp 46) (Operand.tmp 44), type := 0, pos := "audit.go:34", after := #[{ on := 15, ground := Ground.data }, { on := 13, ground := Ground.data }, { on := 13, ground := Ground.chain }, { on := 0, ground := Ground.phase }, { on := 1, ground := Ground.phase }, { on := 2, ground := Ground.phase }, { on := 3, ground := Ground.phase }, { on := 4, ground := Ground.phase }, { on := 5, ground := Ground.phase }, { on := 6, ground := Ground.phase }, { on := 7, ground := Ground.phase }, { on := 8, ground := Ground.phase }, { on := 9, ground := Ground.phase }, { on := 10, ground := Ground.phase }, { on := 11, ground := Ground.phase }, { on := 12, ground := Ground.phase }, { on := 13, ground := Ground.phase }], guard := none }) rfl ?_ AllReadyH.nil)
        · intro K1 hK1
          obtain ⟨as4, cs4, hsv4⟩ := ow_slice ho3.out
          refine step_st1 (by rfl) 27 (.tmp 46) (.tmp 44) rfl c 0 v3 58 _ rfl rfl hX3.out (by simp) (by kernel_rfl) (by rw [hsv4]; rfl) (by rw [hsv4]; rfl) ?_
          obtain ⟨V4, hv4⟩ : ∃ V, V3.setCell ⟨c, 0, none⟩ v3 = V := ⟨_, rfl⟩
          have hg4 : V3.grownBy V4 (some c) := by rw [← hv4]; exact grown_setCell _ _ _ _
          have hS4 : Hid (Keep (SC c v) A V4) := hS3.out.trans (Keep.grown (S := SC c v) hg4 (.inl rfl)) (fun _ hj _ => hj)
          have hX4 : Hid (Blk V4 c 58 [v3]) := by rw [← hv4]; exact hX3.out.set 0 v3
          have hO4 : Hid (OwE V4 B v3 (l ++ [x])) := ho3.out.same (fun g hg => hg4.block g (ho3.out.lt hg).2 (fun hk => by cases hk; exact hP3.out.elim (fun h => HNC.out (h.symm.trans hg)) (fun ⟨g2, h, h2⟩ => by rw [hg] at h; cases h; have := HCL.out; omega)))
          rw [hv4]
          clear hv4 hg4 hsv4
          refine hK1.out _ _ hS4.out ?_
          clear hK1
          intro _
          try simp only [Act.put, List.setIfInBounds_toArray, List.set_cons_zero, List.set_cons_succ]
          refine wpAnyH_done (by kernel_rfl) ?_ _
          exact hQ V4 _ _ hX4.out hO4.out hP3.out hS4.out
#print axioms ap6
end Go.Proofs.YtmmpafaegmejlaaDoor.Oct
