/-
  Layer 11 (lines): steps of drawn regions; Add: a line is made.
-/
import Derived.Test.YtjcihaohpbmogaaQpAG
import Derived.Deep.MidRow
import Derived.Deep.RegionHeld
import Derived.Maps.AppendAt
/- Layer 11 (lines): steps of drawn regions; Add: a line is made. -/
namespace Go.Proofs.Ytjcihaohpbmogaa.Oct
open Go.RowKit
set_option maxRecDepth 100000
set_option linter.unusedSimpArgs false
set_option linter.unusedVariables false
set_option linter.unusedSectionVars false

theorem step_bs {ops : Array Oper} {op : Oper} {a : Act} {w : World} {K : Act → World → Prop} {Q : Exit → Act → World → Prop} {E : Prop} (hw : Region.wanted op (yielded ops a.tmps) = true) (t n : Nat) (parts : Array (Nat × Operand)) (hop : op.op = .buildSlice t n parts) (r : Value) (W' : World)
    (hr : (Instr.buildSlice t n (parts.map fun (i, x) => (i, a.eval x))).run Try.prog w = .ok r W') (hk : K (a.put op.dst r) W') : if Region.wanted op (yielded ops a.tmps) = true then Oper.wp Try.prog op a w K Q else E := by
  rw [if_pos hw]
  unfold Oper.wp execOp
  simp only [hop, Sem.run_bind, Sem.run_pure, Result.andThen_ok, hr]
  exact hk
theorem step_apd {t : TypeId} {ops : Array Oper} {op : Oper} {a : Act} {K : Act → World → Prop} {Q : Exit → Act → World → Prop} {E : Prop} (hw : Region.wanted op (yielded ops a.tmps) = true) (s x : Operand) (hop : op.op = .call { callee := .builtin .append, args := #[s, x], argTypes := #[t, t] })
    {W W' : World} {v u v' : Value} (hr : (Builtin.append_ #[t, t] op.type #[v, u]).run Try.prog W = .ok v' W') (hs : a.eval s = v) (hx : a.eval x = u) (hk : K (a.put op.dst v') W') : if Region.wanted op (yielded ops a.tmps) = true then Oper.wp Try.prog op a W K Q else E := by
  rw [if_pos hw]
  unfold Oper.wp execOp
  simp only [hop, resolve, invoke, builtin, Sem.run_bind, Sem.run_pure, Result.andThen_ok, List.map_toArray, List.map_cons, List.map_nil, hs, hx, hr]
  exact hk
theorem store_fn {w : World} {a : Addr} {v u : Value} (h1 : v.oneCell' = true) (hc : w.cell? a = some u) (hf : w.frozen? a = false) : (store a v).run Try.prog w = .ok () (w.setCell a v) := by
  simp [run_store _ _ _ _ _ h1, stored, hc, hf]
theorem step_stc {ops : Array Oper} {op : Oper} {a : Act} {w : World} {K : Act → World → Prop} {Q : Exit → Act → World → Prop} {E : Prop} (hw : Region.wanted op (yielded ops a.tmps) = true) (ty : TypeId) (x y : Operand) (ho : op.op = .store ty x y) (hi : (Try.prog.info? ty).map (·.size) = some 1)
    {b i : Nat} {v u : Value} (h1 : v.oneCell' = true) (hvc : v.cells = #[v]) (hx : a.eval x = .pointer (some ⟨b, i, none⟩)) (hy : a.eval y = v) (hc : w.cell? ⟨b, i, none⟩ = some u) (hf : w.frozen? ⟨b, i, none⟩ = false)
    (h : K (a.put op.dst undef) (w.setCell ⟨b, i, none⟩ v)) : if Region.wanted op (yielded ops a.tmps) = true then Oper.wp Try.prog op a w K Q else E := by
  rw [if_pos hw]
  obtain ⟨t, hi, hs⟩ := Option.map_eq_some_iff.1 hi
  have h2 : (store ((⟨b, i, none⟩ : Addr).add 0) v).run Try.prog w = .ok () (w.setCell ⟨b, i, none⟩ v) := store_fn h1 hc hf
  have h3 : (storeVar ty ⟨b, i, none⟩ v).run Try.prog w = .ok () (w.setCell ⟨b, i, none⟩ v) := by simp [storeVar, sizeOf, typeInfo, hi, hs, hvc, storeCells, h2]
  unfold Oper.wp execOp
  simp only [ho, hx, hy, Instr.storeAt, Instr.sureAddr, Sem.run_bind, Sem.run_pure, Result.andThen_ok, h3]
  exact h
theorem ls32 {x : Hs} (h : x.length = 32) : ∃ c0 c1 c2 c3 c4 c5 c6 c7 c8 c9 c10 c11 c12 c13 c14 c15 c16 c17 c18 c19 c20 c21 c22 c23 c24 c25 c26 c27 c28 c29 c30 c31, x = [c0, c1, c2, c3, c4, c5, c6, c7, c8, c9, c10, c11, c12, c13, c14, c15, c16, c17, c18, c19, c20, c21, c22, c23, c24, c25, c26, c27, c28, c29, c30, c31] := by
  obtain ⟨x0, h0⟩ : ∃ y, x = y := ⟨_, rfl⟩
  subst h0
  obtain ⟨c0, x, rfl⟩ : ∃ c t, x = c :: t := List.exists_cons_of_length_pos (by first | omega | (simp only [List.length_cons] at h; omega))
  obtain ⟨c1, x, rfl⟩ : ∃ c t, x = c :: t := List.exists_cons_of_length_pos (by first | omega | (simp only [List.length_cons] at h; omega))
  obtain ⟨c2, x, rfl⟩ : ∃ c t, x = c :: t := List.exists_cons_of_length_pos (by first | omega | (simp only [List.length_cons] at h; omega))
  obtain ⟨c3, x, rfl⟩ : ∃ c t, x = c :: t := List.exists_cons_of_length_pos (by first | omega | (simp only [List.length_cons] at h; omega))
  obtain ⟨c4, x, rfl⟩ : ∃ c t, x = c :: t := List.exists_cons_of_length_pos (by first | omega | (simp only [List.length_cons] at h; omega))
  obtain ⟨c5, x, rfl⟩ : ∃ c t, x = c :: t := List.exists_cons_of_length_pos (by first | omega | (simp only [List.length_cons] at h; omega))
  obtain ⟨c6, x, rfl⟩ : ∃ c t, x = c :: t := List.exists_cons_of_length_pos (by first | omega | (simp only [List.length_cons] at h; omega))
  obtain ⟨c7, x, rfl⟩ : ∃ c t, x = c :: t := List.exists_cons_of_length_pos (by first | omega | (simp only [List.length_cons] at h; omega))
  obtain ⟨c8, x, rfl⟩ : ∃ c t, x = c :: t := List.exists_cons_of_length_pos (by first | omega | (simp only [List.length_cons] at h; omega))
  obtain ⟨c9, x, rfl⟩ : ∃ c t, x = c :: t := List.exists_cons_of_length_pos (by first | omega | (simp only [List.length_cons] at h; omega))
  obtain ⟨c10, x, rfl⟩ : ∃ c t, x = c :: t := List.exists_cons_of_length_pos (by first | omega | (simp only [List.length_cons] at h; omega))
  obtain ⟨c11, x, rfl⟩ : ∃ c t, x = c :: t := List.exists_cons_of_length_pos (by first | omega | (simp only [List.length_cons] at h; omega))
  obtain ⟨c12, x, rfl⟩ : ∃ c t, x = c :: t := List.exists_cons_of_length_pos (by first | omega | (simp only [List.length_cons] at h; omega))
  obtain ⟨c13, x, rfl⟩ : ∃ c t, x = c :: t := List.exists_cons_of_length_pos (by first | omega | (simp only [List.length_cons] at h; omega))
  obtain ⟨c14, x, rfl⟩ : ∃ c t, x = c :: t := List.exists_cons_of_length_pos (by first | omega | (simp only [List.length_cons] at h; omega))
  obtain ⟨c15, x, rfl⟩ : ∃ c t, x = c :: t := List.exists_cons_of_length_pos (by first | omega | (simp only [List.length_cons] at h; omega))
  obtain ⟨c16, x, rfl⟩ : ∃ c t, x = c :: t := List.exists_cons_of_length_pos (by first | omega | (simp only [List.length_cons] at h; omega))
  obtain ⟨c17, x, rfl⟩ : ∃ c t, x = c :: t := List.exists_cons_of_length_pos (by first | omega | (simp only [List.length_cons] at h; omega))
  obtain ⟨c18, x, rfl⟩ : ∃ c t, x = c :: t := List.exists_cons_of_length_pos (by first | omega | (simp only [List.length_cons] at h; omega))
  obtain ⟨c19, x, rfl⟩ : ∃ c t, x = c :: t := List.exists_cons_of_length_pos (by first | omega | (simp only [List.length_cons] at h; omega))
  obtain ⟨c20, x, rfl⟩ : ∃ c t, x = c :: t := List.exists_cons_of_length_pos (by first | omega | (simp only [List.length_cons] at h; omega))
  obtain ⟨c21, x, rfl⟩ : ∃ c t, x = c :: t := List.exists_cons_of_length_pos (by first | omega | (simp only [List.length_cons] at h; omega))
  obtain ⟨c22, x, rfl⟩ : ∃ c t, x = c :: t := List.exists_cons_of_length_pos (by first | omega | (simp only [List.length_cons] at h; omega))
  obtain ⟨c23, x, rfl⟩ : ∃ c t, x = c :: t := List.exists_cons_of_length_pos (by first | omega | (simp only [List.length_cons] at h; omega))
  obtain ⟨c24, x, rfl⟩ : ∃ c t, x = c :: t := List.exists_cons_of_length_pos (by first | omega | (simp only [List.length_cons] at h; omega))
  obtain ⟨c25, x, rfl⟩ : ∃ c t, x = c :: t := List.exists_cons_of_length_pos (by first | omega | (simp only [List.length_cons] at h; omega))
  obtain ⟨c26, x, rfl⟩ : ∃ c t, x = c :: t := List.exists_cons_of_length_pos (by first | omega | (simp only [List.length_cons] at h; omega))
  obtain ⟨c27, x, rfl⟩ : ∃ c t, x = c :: t := List.exists_cons_of_length_pos (by first | omega | (simp only [List.length_cons] at h; omega))
  obtain ⟨c28, x, rfl⟩ : ∃ c t, x = c :: t := List.exists_cons_of_length_pos (by first | omega | (simp only [List.length_cons] at h; omega))
  obtain ⟨c29, x, rfl⟩ : ∃ c t, x = c :: t := List.exists_cons_of_length_pos (by first | omega | (simp only [List.length_cons] at h; omega))
  obtain ⟨c30, x, rfl⟩ : ∃ c t, x = c :: t := List.exists_cons_of_length_pos (by first | omega | (simp only [List.length_cons] at h; omega))
  obtain ⟨c31, x, rfl⟩ : ∃ c t, x = c :: t := List.exists_cons_of_length_pos (by first | omega | (simp only [List.length_cons] at h; omega))
  obtain rfl : x = [] := List.eq_nil_of_length_eq_zero (by simp only [List.length_cons] at h; omega)
  exact ⟨c0, c1, c2, c3, c4, c5, c6, c7, c8, c9, c10, c11, c12, c13, c14, c15, c16, c17, c18, c19, c20, c21, c22, c23, c24, c25, c26, c27, c28, c29, c30, c31, rfl⟩
/-- a new line's cells -/
def lnc (t : BA) (r : Nat) (be : Vx) : List Value := .string t :: .slice (some ⟨r, 0, none⟩) 1 1 :: (be.cells ++ [.map none])
theorem built86 (t : BA) (r : Nat) (be : Vx) (hb : be.ok) : Try.prog.built 86 [(0, .string t), (1, .slice (some ⟨r, 0, none⟩) 1 1), (2, .agg be.cells.toArray)] = some (lnc t r be).toArray := by
  obtain ⟨h, n⟩ := be
  obtain ⟨c0, c1, c2, c3, c4, c5, c6, c7, c8, c9, c10, c11, c12, c13, c14, c15, c16, c17, c18, c19, c20, c21, c22, c23, c24, c25, c26, c27, c28, c29, c30, c31, rfl⟩ := ls32 (x := h) hb
  kernel_rfl
theorem lnc_len (t : BA) (r : Nat) (be : Vx) (hb : be.ok) : (lnc t r be).length = 36 := by unfold lnc; simp [Vx.len hb]
theorem lnc_one (t : BA) (r : Nat) (be : Vx) : ∀ v ∈ lnc t r be, v.oneCell' = true := by
  intro v hv
  unfold lnc at hv
  simp only [List.mem_cons, List.mem_append, List.mem_singleton] at hv
  rcases hv with rfl | rfl | h | rfl | h
  · rfl
  · rfl
  · exact Vx.one be v h
  · rfl
  · cases h
theorem run_box (t : TypeId) (v : Value) (i : TypeInfo) (hi : Try.prog.info? t = some i) (hs : i.size = v.cells.size) (W : World) : (Instr.box t v).run Try.prog W = .ok (.pointer (some ⟨W.heap.size, 0, none⟩)) (W.alloc (.cells v.cells t)) := by
  simp [Instr.box, newVar, newRow, newObj, sizeOf, typeInfo, hi, hs, Result.andThen]
  rfl
theorem step_bs1 {ops : Array Oper} {op : Oper} {a : Act} {w : World} {K : Act → World → Prop} {Q : Exit → Act → World → Prop} {E : Prop} (hw : Region.wanted op (yielded ops a.tmps) = true) (x : Operand) (hop : op.op = .buildSlice 35 1 #[(0, x)]) (v : Vx) (hv : v.ok) (hx : a.eval x = .agg v.cells.toArray)
    (hk : K (a.put op.dst (.slice (some ⟨w.heap.size, 0, none⟩) 1 1)) (w.alloc (.cells v.cells.toArray 34))) : if Region.wanted op (yielded ops a.tmps) = true then Oper.wp Try.prog op a w K Q else E := by
  rw [if_pos hw]
  unfold Oper.wp execOp
  simp only [hop, List.map_toArray, List.map_cons, List.map_nil, hx, Sem.run_bind, Sem.run_pure, Result.andThen_ok, run_bslice1 v hv]
  exact hk
theorem step_box {ops : Array Oper} {op : Oper} {a : Act} {w : World} {K : Act → World → Prop} {Q : Exit → Act → World → Prop} {E : Prop} (hw : Region.wanted op (yielded ops a.tmps) = true) (t : TypeId) (x : Operand) (hop : op.op = .box t x) (u r : Value) (W' : World) (hx : a.eval x = u)
    (hr : (Instr.box t u).run Try.prog w = .ok r W') (hk : K (a.put op.dst r) W') : if Region.wanted op (yielded ops a.tmps) = true then Oper.wp Try.prog op a w K Q else E := by
  rw [if_pos hw]
  unfold Oper.wp execOp
  simp only [hop, hx, Sem.run_bind, Sem.run_pure, Result.andThen_ok, hr]
  exact hk
theorem step_mapUp {ops : Array Oper} {op : Oper} {a : Act} {w : World} {K : Act → World → Prop} {Q : Exit → Act → World → Prop} {E : Prop} (hw : Region.wanted op (yielded ops a.tmps) = true) (t : TypeId) (m x v : Operand) (hop : op.op = .mapUpdate t m x v) (vm vx vv : Value) (hm : a.eval m = vm) (hx : a.eval x = vx) (hvv : a.eval v = vv) (W' : World)
    (hr : (Instr.mapUpdate t vm vx vv).run Try.prog w = .ok () W') (hk : K (a.put op.dst undef) W') : if Region.wanted op (yielded ops a.tmps) = true then Oper.wp Try.prog op a w K Q else E := by
  rw [if_pos hw]
  unfold Oper.wp
  simp only [execOp, hop, hm, hx, hvv, Sem.run_bind, Sem.run_pure, Result.andThen_ok, hr]
  exact hk
theorem yl_build3 {o : Oper} {a : Act} (V : World) (t : TypeId) (x0 x1 x2 : Operand) (u0 u1 u2 : Value) (cells : Array Value) (hop : o.op = .build t #[(0, x0), (1, x1), (2, x2)]) (h0 : a.eval x0 = u0) (h1 : a.eval x1 = u1) (h2 : a.eval x2 = u2) (hb : Try.prog.built t [(0, u0), (1, u1), (2, u2)] = some cells) : (execOp a.eval o).run Try.prog V = .ok (.value (.agg cells)) V := by
  unfold execOp
  have h := run_build (P := Try.prog) V t #[(0, u0), (1, u1), (2, u2)] cells hb
  simp only [hop, List.map_toArray, List.map_cons, List.map_nil, h0, h1, h2, Sem.run_bind, Sem.run_pure, h, Result.andThen_ok]
theorem cell_keep {S : Nat → Prop} {w w' : World} (h : Keep S w w') {b i : Nat} (hb : b < w.heap.size) (hn : ¬ S b) : w'.cell? ⟨b, i, none⟩ = w.cell? ⟨b, i, none⟩ := by
  have := h.block b hb hn
  simp only [World.cell?, this]
set_option maxRecDepth 100000 in
set_option maxHeartbeats 4000000 in
theorem ad11 {Q : Exit → Act → World → Prop} {x1 x2 x3 x5 x6 x7 x8 x9 x10 x11 x16 x17 x18 x19 x20 x21 x22 x23 x24 x25 x26 x27 x28 x29 x30 x31 x32 x33 x34 x35 x36 x37 x38 x39 x40 x41 x42 x43 x44 x45 x46 x47 x48 x49 x50 x51 x52 x53 x54 x55 x56 x57 x58 x59 x60 x61 x62 x63 x64 x65 x66 x67 x68 x69 x70 x71 x72 x73 x74 x75 x76 x77 x78 : Value} {ds : List Deferred} {A : World} {p m d12 d14 d15 tg to tn tc i : Nat} {t : BA} {id ab be : Vx} {M : Kv Vx}
    (HP : Hid (p < A.heap.size ∧ ¬ p = m)) (HTG : Hid (tg < A.heap.size ∧ ¬ tg = m)) (HL : Hid (d14 < A.heap.size ∧ d12 < A.heap.size ∧ d15 < A.heap.size)) (HN : Hid ((¬ d14 = m) ∧ (¬ d12 = m) ∧ ¬ d15 = m)) (HR : Hid (A.rangeAt d14 0 id.cells ∧ A.rangeAt d12 0 ab.cells ∧ A.rangeAt d15 0 be.cells)) (HV : Hid (Vk id ∧ Vk ab ∧ Vk be)) (c0 : A.cell? ⟨p, 0, none⟩ = some (.map (some m))) (ct : A.cell? ⟨tg, to + i, none⟩ = some (.string t)) (HMP : Hid (MP A m M)) (q1 : (i : Int) < (tn : Int)) (q2 : i < tn)
    (hQ : ∀ V3 r b2, (Keep (fun k => k = m) A V3 ∧ Blk V3 r 34 ab.cells ∧ A.heap.size ≤ r ∧ Blk V3 b2 86 (lnc t r be) ∧ r < b2 ∧ MP V3 m (kput M id (.pointer (some ⟨b2, 0, none⟩)))) → Q .normal { tmps := #[.pointer (some ⟨p, 0, none⟩), x1, x2, x3, .slice (some ⟨tg, to, none⟩) tn tc, x5, x6, x7, x8, x9, x10, x11, .pointer (some ⟨d12, 0, none⟩), iv (i : Int), .pointer (some ⟨d14, 0, none⟩), .pointer (some ⟨d15, 0, none⟩), x16, x17, x18, x19, x20, x21, x22, x23, x24, x25, x26, x27, x28, x29, x30, x31, x32, x33, x34, x35, x36, x37, x38, x39, x40, x41, x42, x43, x44, .pointer (some ⟨p, 0, none⟩), .pointer (some ⟨p, 0, none⟩), .pointer (some ⟨p, 0, none⟩), .map (some m), .agg id.cells.toArray, .slice (some ⟨tg, to, none⟩) tn tc, iv (i : Int), .pointer (some ⟨tg, to + i, none⟩), .string t, .agg ab.cells.toArray, .slice (some ⟨r, 0, none⟩) 1 1, .agg be.cells.toArray, .agg (lnc t r be).toArray, .pointer (some ⟨b2, 0, none⟩), x59, x60, x61, x62, x63, x64, x65, x66, x67, x68, x69, x70, x71, x72, x73, x74, x75, x76, x77, x78], defers := ds } V3) :
    (Code.region 11 #[{ dst := some 45, op := Op.move (Operand.tmp 0), type := 25, pos := "change.go:20", after := #[], guard := none }, { dst := some 46, op := Op.nilCheck (Operand.tmp 45), type := 0, pos := "change.go:20", after := #[{ on := 0, ground := Ground.data }], guard := none }, { dst := some 47, op := Op.fieldAddr 67 (Operand.tmp 46) 0, type := 0, pos := "change.go:20", after := #[{ on := 1, ground := Ground.data }], guard := none }, { dst := some 48, op := Op.load 65 (Operand.tmp 47), type := 65, pos := "change.go:20", after := #[{ on := 2, ground := Ground.data }], guard := none }, { dst := some 49, op := Op.load 34 (Operand.tmp 14), type := 34, pos := "change.go:20", after := #[], guard := none }, { dst := some 50, op := Op.move (Operand.tmp 4), type := 36, pos := "change.go:20", after := #[], guard := none }, { dst := some 51, op := Op.move (Operand.tmp 13), type := 3, pos := "change.go:20", after := #[], guard := none }, { dst := some 52, op := Op.indexAddr 36 (Operand.tmp 50) (Operand.tmp 51), type := 0, pos := "change.go:20", after := #[{ on := 5, ground := Ground.data }, { on := 6, ground := Ground.data }], guard := none }, { dst := some 53, op := Op.load 9 (Operand.tmp 52), type := 9, pos := "change.go:20", after := #[{ on := 7, ground := Ground.data }], guard := none }, { dst := some 54, op := Op.load 34 (Operand.tmp 12), type := 34, pos := "change.go:20", after := #[], guard := none }, { dst := some 55, op := Op.buildSlice 35 1 #[(0, Operand.tmp 54)], type := 35, pos := "change.go:20", after := #[{ on := 9, ground := Ground.data }], guard := none }, { dst := some 56, op := Op.load 34 (Operand.tmp 15), type := 34, pos := "change.go:20", after := #[], guard := none }, { dst := some 57, op := Op.build 86 #[(0, Operand.tmp 53), (1, Operand.tmp 55), (2, Operand.tmp 56)], type := 86, pos := "change.go:20", after := #[{ on := 8, ground := Ground.data }, { on := 10, ground := Ground.data }, { on := 11, ground := Ground.data }], guard := none }, { dst := some 58, op := Op.box 86 (Operand.tmp 57), type := 71, pos := "change.go:20", after := #[{ on := 12, ground := Ground.data }], guard := none }, { dst := none, op := Op.mapUpdate 65 (Operand.tmp 48) (Operand.tmp 49) (Operand.tmp 58), type := 0, pos := "change.go:20", after := #[{ on := 3, ground := Ground.data }, { on := 4, ground := Ground.data }, { on := 13, ground := Ground.data }, { on := 0, ground := Ground.phase }, { on := 1, ground := Ground.phase }, { on := 2, ground := Ground.phase }, { on := 3, ground := Ground.phase }, { on := 4, ground := Ground.phase }, { on := 5, ground := Ground.phase }, { on := 6, ground := Ground.phase }, { on := 7, ground := Ground.phase }, { on := 8, ground := Ground.phase }, { on := 9, ground := Ground.phase }, { on := 10, ground := Ground.phase }, { on := 11, ground := Ground.phase }, { on := 12, ground := Ground.phase }, { on := 13, ground := Ground.phase }], guard := none }] true).wp Try.prog Q { tmps := #[.pointer (some ⟨p, 0, none⟩), x1, x2, x3, .slice (some ⟨tg, to, none⟩) tn tc, x5, x6, x7, x8, x9, x10, x11, .pointer (some ⟨d12, 0, none⟩), iv (i : Int), .pointer (some ⟨d14, 0, none⟩), .pointer (some ⟨d15, 0, none⟩), x16, x17, x18, x19, x20, x21, x22, x23, x24, x25, x26, x27, x28, x29, x30, x31, x32, x33, x34, x35, x36, x37, x38, x39, x40, x41, x42, x43, x44, x45, x46, x47, x48, x49, x50, x51, x52, x53, x54, x55, x56, x57, x58, x59, x60, x61, x62, x63, x64, x65, x66, x67, x68, x69, x70, x71, x72, x73, x74, x75, x76, x77, x78], defers := ds } A := by
  refine Code.wp_mono (Q := fun x a' w' => match x with | .normal => Q .normal a' w' | _ => False) (by intro x a' w' h; cases x <;> first | exact h | exact h.elim) ?_
  refine wp_region_held (S := fun V => Keep (fun k => k = m) A V) (by kernel_rfl) ?_
  have hS0 : Hid (Keep (fun k => k = m) A A.drew) := (Keep.refl _ A).drew
  change wpAnyH Try.prog .any _ _ (fun V => Keep (fun k => k = m) A V) 15 (Array.replicate 15 false) _ A.drew
  obtain ⟨V0, hV0⟩ : ∃ V0, A.drew = V0 := ⟨_, rfl⟩
  rw [hV0]
  rw [hV0] at hS0
  have hMP0 : Hid (MP V0 m M) := by
    show MP V0 m M
    rw [← hV0]
    exact HMP.out.same rfl
  clear hV0
  refine wpAnyH_take (i := 0) (oi := { dst := some 45, op := Op.move (Operand.tmp 0), type := 25, pos := "change.go:20", after := #[], guard := none }) (v := .pointer (some ⟨p, 0, none⟩)) rfl (by kernel_rfl) (by kernel_rfl) (by kernel_rfl) (fun _ _ _ h => h.elim) (Or.inl ⟨by rfl, ?y1⟩) hS0.out ?_
  case y1 =>
    intro V hV
    go_simp
  simp only [Act.put, List.setIfInBounds_toArray, List.set_cons_zero, List.set_cons_succ]
  refine wpAnyH_take (i := 1) (oi := { dst := some 46, op := Op.nilCheck (Operand.tmp 45), type := 0, pos := "change.go:20", after := #[{ on := 0, ground := Ground.data }], guard := none }) (v := .pointer (some ⟨p, 0, none⟩)) rfl (by kernel_rfl) (by kernel_rfl) (by kernel_rfl) (fun _ _ _ h => h.elim) (Or.inl ⟨by rfl, ?y2⟩) hS0.out ?_
  case y2 =>
    intro V hV
    go_simp
  simp only [Act.put, List.setIfInBounds_toArray, List.set_cons_zero, List.set_cons_succ]
  refine wpAnyH_take (i := 2) (oi := { dst := some 47, op := Op.fieldAddr 67 (Operand.tmp 46) 0, type := 0, pos := "change.go:20", after := #[{ on := 1, ground := Ground.data }], guard := none }) (v := .pointer (some ⟨p, 0, none⟩)) rfl (by kernel_rfl) (by kernel_rfl) (by kernel_rfl) (fun _ _ _ h => h.elim) (Or.inl ⟨by rfl, ?y3⟩) hS0.out ?_
  case y3 =>
    intro V hV
    go_simp
  simp only [Act.put, List.setIfInBounds_toArray, List.set_cons_zero, List.set_cons_succ]
  refine wpAnyH_take (i := 3) (oi := { dst := some 48, op := Op.load 65 (Operand.tmp 47), type := 65, pos := "change.go:20", after := #[{ on := 2, ground := Ground.data }], guard := none }) (v := .map (some m)) rfl (by kernel_rfl) (by kernel_rfl) (by kernel_rfl) (fun _ _ _ h => h.elim) (Or.inl ⟨by rfl, ?y4⟩) hS0.out ?_
  case y4 =>
    intro V hV
    have hc : V.cell? ⟨p, 0, none⟩ = some (.map (some m)) := (cell_keep hV HP.out.1 HP.out.2).trans c0
    go_simp
  simp only [Act.put, List.setIfInBounds_toArray, List.set_cons_zero, List.set_cons_succ]
  refine wpAnyH_take (i := 4) (oi := { dst := some 49, op := Op.load 34 (Operand.tmp 14), type := 34, pos := "change.go:20", after := #[], guard := none }) (v := .agg id.cells.toArray) rfl (by kernel_rfl) (by kernel_rfl) (by kernel_rfl) (fun _ _ _ h => h.elim) (yieldsIf_load_mid (by rfl) _ _ rfl _ _ rfl (id.cells) _ (fun V hV => rangeAt_same (HR.out.1) ((show Keep (fun k => k = m) A V from hV).block _ (HL.out.1) (HN.out.1))) Try.underlying34 rfl (info34 HV.out.1.1)) hS0.out ?_
  simp only [Act.put, List.setIfInBounds_toArray, List.set_cons_zero, List.set_cons_succ]
  refine wpAnyH_take (i := 5) (oi := { dst := some 50, op := Op.move (Operand.tmp 4), type := 36, pos := "change.go:20", after := #[], guard := none }) (v := .slice (some ⟨tg, to, none⟩) tn tc) rfl (by kernel_rfl) (by kernel_rfl) (by kernel_rfl) (fun _ _ _ h => h.elim) (Or.inl ⟨by rfl, ?y5⟩) hS0.out ?_
  case y5 =>
    intro V hV
    go_simp
  simp only [Act.put, List.setIfInBounds_toArray, List.set_cons_zero, List.set_cons_succ]
  refine wpAnyH_take (i := 6) (oi := { dst := some 51, op := Op.move (Operand.tmp 13), type := 3, pos := "change.go:20", after := #[], guard := none }) (v := iv (i : Int)) rfl (by kernel_rfl) (by kernel_rfl) (by kernel_rfl) (fun _ _ _ h => h.elim) (Or.inl ⟨by rfl, ?y6⟩) hS0.out ?_
  case y6 =>
    intro V hV
    go_simp
  simp only [Act.put, List.setIfInBounds_toArray, List.set_cons_zero, List.set_cons_succ]
  refine wpAnyH_take (i := 7) (oi := { dst := some 52, op := Op.indexAddr 36 (Operand.tmp 50) (Operand.tmp 51), type := 0, pos := "change.go:20", after := #[{ on := 5, ground := Ground.data }, { on := 6, ground := Ground.data }], guard := none }) (v := .pointer (some ⟨tg, to + i, none⟩)) rfl (by kernel_rfl) (by kernel_rfl) (by kernel_rfl) (fun _ _ _ h => h.elim) (Or.inl ⟨by rfl, ?y7⟩) hS0.out ?_
  case y7 =>
    intro V hV
    have hcmp := q1
    have hcmp2 := q2
    go_simp
  simp only [Act.put, List.setIfInBounds_toArray, List.set_cons_zero, List.set_cons_succ]
  refine wpAnyH_take (i := 8) (oi := { dst := some 53, op := Op.load 9 (Operand.tmp 52), type := 9, pos := "change.go:20", after := #[{ on := 7, ground := Ground.data }], guard := none }) (v := .string t) rfl (by kernel_rfl) (by kernel_rfl) (by kernel_rfl) (fun _ _ _ h => h.elim) (Or.inl ⟨by rfl, ?y8⟩) hS0.out ?_
  case y8 =>
    intro V hV
    have hc : V.cell? ⟨tg, to + i, none⟩ = some (.string t) := (cell_keep hV HTG.out.1 HTG.out.2).trans ct
    go_simp
  simp only [Act.put, List.setIfInBounds_toArray, List.set_cons_zero, List.set_cons_succ]
  refine wpAnyH_take (i := 9) (oi := { dst := some 54, op := Op.load 34 (Operand.tmp 12), type := 34, pos := "change.go:20", after := #[], guard := none }) (v := .agg ab.cells.toArray) rfl (by kernel_rfl) (by kernel_rfl) (by kernel_rfl) (fun _ _ _ h => h.elim) (yieldsIf_load_mid (by rfl) _ _ rfl _ _ rfl (ab.cells) _ (fun V hV => rangeAt_same (HR.out.2.1) ((show Keep (fun k => k = m) A V from hV).block _ (HL.out.2.1) (HN.out.2.1))) Try.underlying34 rfl (info34 HV.out.2.1.1)) hS0.out ?_
  simp only [Act.put, List.setIfInBounds_toArray, List.set_cons_zero, List.set_cons_succ]
  refine wpAnyH_take (i := 11) (oi := { dst := some 56, op := Op.load 34 (Operand.tmp 15), type := 34, pos := "change.go:20", after := #[], guard := none }) (v := .agg be.cells.toArray) rfl (by kernel_rfl) (by kernel_rfl) (by kernel_rfl) (fun _ _ _ h => h.elim) (yieldsIf_load_mid (by rfl) _ _ rfl _ _ rfl (be.cells) _ (fun V hV => rangeAt_same (HR.out.2.2) ((show Keep (fun k => k = m) A V from hV).block _ (HL.out.2.2) (HN.out.2.2))) Try.underlying34 rfl (info34 HV.out.2.2.1)) hS0.out ?_
  simp only [Act.put, List.setIfInBounds_toArray, List.set_cons_zero, List.set_cons_succ]
  refine wpAnyH_ready (rs := [10]) (by kernel_rfl) (by simp) (AllReadyH.cons (i := 10) (o := { dst := some 55, op := Op.buildSlice 35 1 #[(0, Operand.tmp 54)], type := 35, pos := "change.go:20", after := #[{ on := 9, ground := Ground.data }], guard := none }) rfl ?_ AllReadyH.nil)
  · intro K1 hK1
    refine step_bs1 (by rfl) _ rfl ab HV.out.2.1.1 rfl ?_
    obtain ⟨r, hr⟩ : ∃ r, V0.heap.size = r := ⟨_, rfl⟩
    obtain ⟨V1, hV1⟩ : ∃ V, V0.alloc (.cells ab.cells.toArray 34) = V := ⟨_, rfl⟩
    have hMP1 : Hid (MP V1 m M) := by
      show MP V1 m M
      rw [← hV1]
      exact hMP0.out.same (Below.heap_alloc V0 _ m hMP0.out.lt)
    have hS1 : Hid (Keep (fun k => k = m) A V1 ∧ Blk V1 r 34 ab.cells ∧ A.heap.size ≤ r) := ⟨(hS0.out).trans (Keep.below (S := fun _ => False) (by rw [← hV1]; exact below_al _ _)) (fun _ h _ => h.elim), by rw [← hV1, ← hr]; exact Blk.new V0 _ _, by rw [← hr]; exact (hS0.out).size⟩
    rw [hV1, hr]
    clear hV1 hr
    refine hK1.out _ _ hS1.out.1 ?_
    clear hK1
    intro _
    try simp only [Act.put, List.setIfInBounds_toArray, List.set_cons_zero, List.set_cons_succ]
    refine wpAnyH_take (i := 12) (oi := { dst := some 57, op := Op.build 86 #[(0, Operand.tmp 53), (1, Operand.tmp 55), (2, Operand.tmp 56)], type := 86, pos := "change.go:20", after := #[{ on := 8, ground := Ground.data }, { on := 10, ground := Ground.data }, { on := 11, ground := Ground.data }], guard := none }) (v := .agg (lnc t r be).toArray) rfl (by kernel_rfl) (by kernel_rfl) (by kernel_rfl) (fun _ _ _ h => h.elim) (Or.inl ⟨by rfl, ?y9⟩) hS1.out.1 ?_
    case y9 =>
      intro V hV
      exact yl_build3 V 86 _ _ _ _ _ _ _ rfl rfl rfl rfl (built86 t r be HV.out.2.2.1)
    simp only [Act.put, List.setIfInBounds_toArray, List.set_cons_zero, List.set_cons_succ]
    refine wpAnyH_ready (rs := [13]) (by kernel_rfl) (by simp) (AllReadyH.cons (i := 13) (o := { dst := some 58, op := Op.box 86 (Operand.tmp 57), type := 71, pos := "change.go:20", after := #[{ on := 12, ground := Ground.data }], guard := none }) rfl ?_ AllReadyH.nil)
    · intro K1 hK1
      refine step_box (by rfl) 86 _ rfl _ (.pointer (some ⟨V1.heap.size, 0, none⟩)) (V1.alloc (.cells (lnc t r be).toArray 86)) rfl (by
        obtain ⟨i0, hi0, hs0⟩ := Option.map_eq_some_iff.1 (show (Try.prog.info? 86).map (·.size) = some 36 by kernel_rfl)
        exact run_box 86 (.agg (lnc t r be).toArray) i0 hi0 (by rw [hs0]; simp [Value.cells, lnc_len t r be HV.out.2.2.1]) V1) ?_
      obtain ⟨b2, hb2⟩ : ∃ r, V1.heap.size = r := ⟨_, rfl⟩
      obtain ⟨V2, hV2⟩ : ∃ V, V1.alloc (.cells (lnc t r be).toArray 86) = V := ⟨_, rfl⟩
      have hMP2 : Hid (MP V2 m M) := by
        show MP V2 m M
        rw [← hV2]
        exact hMP1.out.same (Below.heap_alloc V1 _ m hMP1.out.lt)
      have hS2 : Hid (Keep (fun k => k = m) A V2 ∧ Blk V2 r 34 ab.cells ∧ A.heap.size ≤ r ∧ Blk V2 b2 86 (lnc t r be) ∧ r < b2) := by
        have hbl : Below V1.heap.size V1 V2 := by rw [← hV2]; exact below_al _ _
        exact ⟨(hS1.out.1).trans (Keep.below (S := fun _ => False) hbl) (fun _ h _ => h.elim), hS1.out.2.1.below hbl hS1.out.2.1.lt, hS1.out.2.2, by rw [← hV2, ← hb2]; exact Blk.new V1 _ _, by rw [← hb2]; exact hS1.out.2.1.lt⟩
      rw [hV2, hb2]
      clear hV2 hb2
      refine hK1.out _ _ hS2.out.1 ?_
      clear hK1
      intro _
      try simp only [Act.put, List.setIfInBounds_toArray, List.set_cons_zero, List.set_cons_succ]
      refine wpAnyH_ready (rs := [14]) (by kernel_rfl) (by simp) (AllReadyH.cons (i := 14) (o := { dst := none, op := Op.mapUpdate 65 (Operand.tmp 48) (Operand.tmp 49) (Operand.tmp 58), type := 0, pos := "change.go:20", after := #[{ on := 3, ground := Ground.data }, { on := 4, ground := Ground.data }, { on := 13, ground := Ground.data }, { on := 0, ground := Ground.phase }, { on := 1, ground := Ground.phase }, { on := 2, ground := Ground.phase }, { on := 3, ground := Ground.phase }, { on := 4, ground := Ground.phase }, { on := 5, ground := Ground.phase }, { on := 6, ground := Ground.phase }, { on := 7, ground := Ground.phase }, { on := 8, ground := Ground.phase }, { on := 9, ground := Ground.phase }, { on := 10, ground := Ground.phase }, { on := 11, ground := Ground.phase }, { on := 12, ground := Ground.phase }, { on := 13, ground := Ground.phase }], guard := none }) rfl ?_ AllReadyH.nil)
      · intro K1 hK1
        obtain ⟨V3, r1, r2, r3, r4⟩ := (hMP2.out).put (t := 65) (E := 71) (h := id) Try.underlying65 HV.out.1 (.pointer (some ⟨b2, 0, none⟩))
        refine step_mapUp (by rfl) 65 _ _ _ rfl _ _ _ rfl rfl rfl V3 r1 ?_
        have hS3 : Hid (Keep (fun k => k = m) A V3 ∧ Blk V3 r 34 ab.cells ∧ A.heap.size ≤ r ∧ Blk V3 b2 86 (lnc t r be) ∧ r < b2 ∧ MP V3 m (kput M id (.pointer (some ⟨b2, 0, none⟩)))) := by
          have hlt : m < A.heap.size := HMP.out.lt
          exact ⟨(hS2.out.1).trans (Keep.grown (S := fun k => k = m) r3 rfl) (fun j h _ => h), (r3.block r hS2.out.2.1.lt (fun e => by cases e; have := hS2.out.2.2.1; omega)).trans hS2.out.2.1, hS2.out.2.2.1, (r3.block b2 hS2.out.2.2.2.1.lt (fun e => by cases e; have := hS2.out.2.2.1; have := hS2.out.2.2.2.2; omega)).trans hS2.out.2.2.2.1, hS2.out.2.2.2.2, r2⟩
        clear r1 r2 r3 r4
        refine hK1.out _ _ hS3.out.1 ?_
        clear hK1
        intro _
        try simp only [Act.put, List.setIfInBounds_toArray, List.set_cons_zero, List.set_cons_succ]
        refine wpAnyH_done (by kernel_rfl) ?_ _
        exact hQ V3 r b2 hS3.out
end Go.Proofs.Ytjcihaohpbmogaa.Oct
