/-
  Layer 15 (people): the document's people: with, without.
-/
import Derived.Test.YtfickhhfhdhcbaaWtp
namespace Go.Proofs.Ytfickhhfhdhcbaa.Oct
open Go.RowKit
set_option linter.unusedSimpArgs false
set_option linter.unusedVariables false

/-- what is appended -/
def Rx (w : World) (a : Option Addr) (q sz : Nat) (qs : List Value) : Prop := qs.length = q * sz ∧ (∀ u ∈ qs, u.oneCell' = true) ∧ (0 < q → ∃ g off, a = some ⟨g, off, none⟩ ∧ ∀ j u, qs[j]? = some u → w.cell? ⟨g, off + j, none⟩ = some u)
theorem SV.rx {w : World} {a : Option Addr} {n c sz : Nat} {cs : List Value} (h : SV w (.slice a n c) n sz cs) : Rx w a n sz cs := by
  obtain ⟨a', c', e, h1, h2, h3, h4, h5⟩ := h
  cases e
  refine ⟨h3, h4, fun hp => ?_⟩
  rcases h5 with ⟨_, rfl⟩ | ⟨g, rfl, hg, hc⟩
  · omega
  · exact ⟨g, 0, rfl, fun j u hu => by rw [Nat.zero_add]; exact hc j u hu⟩
theorem run_append_g (w : World) (t ty e : TypeId) (i : TypeInfo) (z : Value) (sz B : Nat) (ht : Try.prog.underlying t = some (.slice e)) (hi : Try.prog.info? e = some i) (hz : i.zero = some z) (hs : i.size = sz) (hby : i.bytes ≤ 1000) (hzs : z.cells.size = sz) (hsz : 0 < sz)
    (v : Value) (n : Nat) (cs : List Value) (h : w.ownsRow B e sz v n cs) (o : Option Addr) (q c : Nat) (qs : List Value) (ho : Rx w o q sz qs) (hB : B ≤ w.heap.size) (hn : n + q ≤ 1000000) :
    ∃ v' w', (Builtin.append_ #[t, t] ty #[v, .slice o q c]).run Try.prog w = .ok v' w' ∧ w'.ownsRow B e sz v' (n + q) (cs ++ qs) ∧ w.grownBy w' v.ownBlock ∧ (v'.ownBlock = v.ownBlock ∨ v'.ownBlock = some w.heap.size) := by
  by_cases hq : q = 0
  · subst hq
    have hqs : qs = [] := List.eq_nil_of_length_eq_zero (by rw [ho.1]; omega)
    subst hqs
    have : ∃ a cap, v = .slice a n cap ∧ n ≤ cap := by
      rcases h.2 with ⟨rfl, rfl⟩ | ⟨g, cap, cur, rfl, _, _, hn, _⟩
      · exact ⟨none, 0, rfl, Nat.le_refl _⟩
      · exact ⟨_, cap, rfl, hn⟩
    obtain ⟨a, cap, rfl, hnc⟩ := this
    exact ⟨_, w, run_append_zero w t ty e i ht hi a o n cap c hnc, by simpa using h, World.grownBy.refl _ _, .inl rfl⟩
  · obtain ⟨g2, off2, rfl, hq2⟩ := ho.2.2 (by omega)
    obtain ⟨v', w', hr, h2, h3, _, h5⟩ := run_append_own_at (P := Try.prog) w B t ty e i z sz i.bytes ht hi hz hs rfl hzs hsz v n cs h ⟨g2, off2, none⟩ q c qs ho.1 (fun j u hu => by rw [Addr.add_lit]; exact hq2 j u hu) ho.2.1 (by unfold maxLen; omega) (Nat.le_trans (Nat.mul_le_mul_left _ hby) (by omega)) hB
    exact ⟨v', w', hr, h2, h3, h5⟩
theorem step_append_g {ops : Array Oper} {o : Oper} {a : Act} {K : Act → World → Prop} {Q : Exit → Act → World → Prop} {E : Prop} (hw : Region.wanted o (yielded ops a.tmps) = true) (s x : Operand) (t : TypeId)
    (hop : o.op = .call { callee := .builtin .append, args := #[s, x], argTypes := #[t, t] }) (w : World) (e : TypeId) (i : TypeInfo) (z : Value) (sz B : Nat) (ht : Try.prog.underlying t = some (.slice e)) (hi : Try.prog.info? e = some i) (hz : i.zero = some z) (hs : i.size = sz) (hby : i.bytes ≤ 1000) (hzs : z.cells.size = sz) (hsz : 0 < sz)
    (v : Value) (n : Nat) (cs : List Value) (h : w.ownsRow B e sz v n cs) (ao : Option Addr) (q c : Nat) (qs : List Value) (hsv : a.eval s = v) (hx : a.eval x = .slice ao q c) (ho : Rx w ao q sz qs) (hB : B ≤ w.heap.size) (hn : n + q ≤ 1000000)
    (hk : ∀ v' w', Hid (w'.ownsRow B e sz v' (n + q) (cs ++ qs)) → Hid (w.grownBy w' v.ownBlock) → Hid (v'.ownBlock = v.ownBlock ∨ v'.ownBlock = some w.heap.size) → K (a.put o.dst v') w') : if Region.wanted o (yielded ops a.tmps) = true then Oper.wp Try.prog o a w K Q else E := by
  rw [if_pos hw]
  obtain ⟨v', w', hr, h2, h3, h4⟩ := run_append_g w t o.type e i z sz B ht hi hz hs hby hzs hsz v n cs h ao q c qs ho hB hn
  unfold Oper.wp execOp
  simp only [hop, resolve, invoke, builtin, Sem.run_bind, Sem.run_pure, Result.andThen_ok, List.map_toArray, List.map_cons, List.map_nil, hsv, hx, hr]
  exact hk v' w' h2 h3 h4
theorem yl_upto {o : Oper} {a : Act} (V : World) (t : TypeId) (x y : Operand) (g n c i : Nat) (hop : o.op = .slice t x none (some y) none) (hx : a.eval x = .slice (some ⟨g, 0, none⟩) n c) (hy : a.eval y = iv (i : Int)) (ht : Try.prog.underlying t = some (.slice (Try.prog.elem t))) {inf : TypeInfo} (hi : Try.prog.info? (Try.prog.elem t) = some inf) (h : i ≤ c) :
    (execOp a.eval o).run Try.prog V = .ok (.value (.slice (some ⟨g, 0, none⟩) i c)) V := by
  unfold execOp
  have hr := run_slice_h (P := Try.prog) V t (some ⟨g, 0, none⟩) n c ht .i64 (i : Int) (by omega) (by omega)
  simp [hop, hx, hy, run_sliceAt_slice V t _ _ _ _ ht, hr, sizeOf, typeInfo, hi, Result.andThen, sliced, Addr.add_lit]
theorem wrap_small {z : Int} (h0 : 0 ≤ z) (h1 : z ≤ 1000001) : IntKind.i64.wrap z = z := by
  rw [IntKind.wrap_i64]
  omega
theorem yl_add1 {o : Oper} {a : Act} (V : World) (x : Operand) (i n : Nat) (hop : o.op = .binOp .add 3 x (.const (.int .i64 1)) 3) (hx : a.eval x = iv (i : Int)) (h : i < n) (hn : n ≤ 1000000) : (execOp a.eval o).run Try.prog V = .ok (.value (iv ((i : Int) + 1))) V := by
  have q1 : (i : Int) < (n : Int) := by omega
  have q2 : (n : Int) ≤ 1000000 := by omega
  unfold execOp
  simp only [hop, hx]
  go_simp
  exact wrap_small (by omega) (by omega)
theorem own_slice {w : World} {B e sz n : Nat} {v : Value} {cs : List Value} (h : w.ownsRow B e sz v n cs) : v.cells = #[v] ∧ v.oneCell' = true := by
  rcases h.2 with ⟨rfl, _⟩ | ⟨g, cap, cur, rfl, _⟩ <;> exact ⟨rfl, rfl⟩
theorem own_same {w w' : World} {B e sz n : Nat} {v : Value} {cs : List Value} (h : w.ownsRow B e sz v n cs) (hs : ∀ g, B ≤ g → g < w.heap.size → w'.heap[g]? = w.heap[g]?) : w'.ownsRow B e sz v n cs := by
  refine ⟨h.1, ?_⟩
  rcases h.2 with hn | ⟨g, cap, cur, rfl, hB, hb, hr⟩
  · exact .inl hn
  · exact .inr ⟨g, cap, cur, rfl, hB, (hs g hB (lt_of_block hb)).trans hb, hr⟩
theorem step_bs0 {ops : Array Oper} {o : Oper} {a : Act} {w : World} {K : Act → World → Prop} {Q : Exit → Act → World → Prop} {E : Prop} (hw : Region.wanted o (yielded ops a.tmps) = true) (t : TypeId) (hop : o.op = .buildSlice t 0 #[]) {v : Value} {w' : World} (hrun : (Instr.buildSlice t 0 #[]).run Try.prog w = .ok v w')
    (hk : K (a.put o.dst v) w') : if Region.wanted o (yielded ops a.tmps) = true then Oper.wp Try.prog o a w K Q else E := by
  rw [if_pos hw]
  unfold Oper.wp execOp
  simp [hop, hrun, Result.andThen]
  exact hk
theorem ownsRow_base {w : World} {B B' e sz n : Nat} {v : Value} {cs : List Value} (h : w.ownsRow B e sz v n cs) (hB : B' ≤ B) : w.ownsRow B' e sz v n cs := by
  refine ⟨h.1, ?_⟩
  rcases h.2 with hn | ⟨g, cap, cur, rfl, h1, h2⟩
  · exact .inl hn
  · exact .inr ⟨g, cap, cur, rfl, Nat.le_trans hB h1, h2⟩
theorem step_bs {ops : Array Oper} {o : Oper} {a : Act} {w : World} {K : Act → World → Prop} {Q : Exit → Act → World → Prop} {E : Prop} (hw : Region.wanted o (yielded ops a.tmps) = true) (t : TypeId) (x : Operand) (u : Value) (hop : o.op = .buildSlice t 1 #[(0, x)]) (hx : a.eval x = u) {v : Value} {w' : World} (hrun : (Instr.buildSlice t 1 #[(0, u)]).run Try.prog w = .ok v w')
    (hk : K (a.put o.dst v) w') : if Region.wanted o (yielded ops a.tmps) = true then Oper.wp Try.prog o a w K Q else E := by
  rw [if_pos hw]
  unfold Oper.wp execOp
  simp [hop, hx, hrun, Result.andThen]
  exact hk
theorem step_st {ops : Array Oper} {o : Oper} {a : Act} {w : World} {K : Act → World → Prop} {Q : Exit → Act → World → Prop} {E : Prop} (hw : Region.wanted o (yielded ops a.tmps) = true) (t : TypeId) (x y : Operand) (hop : o.op = .store t x y) (b k : Nat) (v : Value) (T : TypeId) (L : List Value) (hx : a.eval x = .pointer (some ⟨b, k, none⟩)) (hy : a.eval y = v) (hb : Blk w b T L) (hkl : k < L.length)
    (hi : (Try.prog.info? t).map (·.size) = some 1) (h1 : v.cells = #[v]) (h2 : v.oneCell' = true) (hk : K (a.put o.dst undef) (w.setCell ⟨b, k, none⟩ v)) : if Region.wanted o (yielded ops a.tmps) = true then Oper.wp Try.prog o a w K Q else E := by
  rw [if_pos hw]
  obtain ⟨i, hi2, hi3⟩ := Option.map_eq_some_iff.1 hi
  obtain ⟨u, hu⟩ : ∃ u, L[k]? = some u := ⟨_, List.getElem?_eq_getElem hkl⟩
  have hc := hb.cell hu
  have hf := hb.free k
  unfold Oper.wp execOp
  simp [hop, hx, hy, Instr.storeAt, Instr.sureAddr, storeVar, sizeOf, typeInfo, hi2, hi3, h1, storeCells, run_store _ _ _ _ _ h2, stored, hc, hf, Addr.add_lit, Result.andThen]
  exact hk
theorem yl_from4 {o : Oper} {a : Act} (V : World) (t : TypeId) (x y : Operand) (g n c i off : Nat) (hop : o.op = .slice t x (some y) none none) (hx : a.eval x = .slice (some ⟨g, 0, none⟩) n c) (hy : a.eval y = iv ((i : Int) + 1)) (ht : Try.prog.underlying t = some (.slice (Try.prog.elem t))) {inf : TypeInfo} (hi : Try.prog.info? (Try.prog.elem t) = some inf) (hs : inf.size = 4) (h : i + 1 ≤ n) (ho : off = if c = i + 1 then 0 else (i + 1) * 4) :
    (execOp a.eval o).run Try.prog V = .ok (.value (.slice (some ⟨g, off, none⟩) (n - (i + 1)) (c - (i + 1)))) V := by
  unfold execOp
  have hr := run_slice_l (P := Try.prog) V t (some ⟨g, 0, none⟩) n c ht .i64 ((i : Int) + 1) (by omega) (by omega)
  have e : ((i : Int) + 1).toNat = i + 1 := by omega
  rw [e] at hr
  subst ho
  by_cases hc : c = i + 1
  · subst hc
    simp [hop, hx, hy, run_sliceAt_slice V t _ _ _ _ ht, hr, sizeOf, typeInfo, hi, hs, Result.andThen, sliced, Addr.add_lit]
  · simp [hop, hx, hy, run_sliceAt_slice V t _ _ _ _ ht, hr, sizeOf, typeInfo, hi, hs, Result.andThen, sliced, Addr.add_lit, hc]
theorem u28 : ∃ i : TypeInfo, Try.prog.underlying 28 = some (.slice (Try.prog.elem 28)) ∧ Try.prog.info? (Try.prog.elem 28) = some i ∧ i.size = 4 := by
  have h : (Try.prog.info? (Try.prog.elem 28)).map (·.size) = some 4 := by kernel_rfl
  obtain ⟨i, h1, h2⟩ := Option.map_eq_some_iff.1 h
  exact ⟨i, by kernel_rfl, h1, h2⟩
theorem info75 : ∃ (i : TypeInfo) (z : Value), Try.prog.info? 75 = some i ∧ i.zero = some z ∧ i.size = 4 ∧ i.bytes ≤ 1000 ∧ z.cells.size = 4 := by
  have h : (Try.prog.info? 75).map (fun i => (i.size, decide (i.bytes ≤ 1000), i.zero.map (·.cells.size))) = some (4, true, some 4) := by kernel_rfl
  obtain ⟨i, hi, he⟩ := Option.map_eq_some_iff.1 h
  simp only [Prod.mk.injEq] at he
  obtain ⟨z, hz, hz2⟩ := Option.map_eq_some_iff.1 he.2.2
  exact ⟨i, z, hi, hz, he.1, by simpa using he.2.1, hz2⟩
theorem run_bs28_0 (W : World) : (Instr.buildSlice 28 0 #[]).run Try.prog W = .ok (.slice (some ⟨W.heap.size, 0, none⟩) 0 0) (W.alloc (.cells #[] 75)) := by kernel_rfl
theorem run_bs28 (f : Fc) (W : World) : (Instr.buildSlice 28 1 #[(0, .agg f.cells.toArray)]).run Try.prog W = .ok (.slice (some ⟨W.heap.size, 0, none⟩) 1 1) (W.alloc (.cells f.cells.toArray 75)) := by
  show (Instr.buildSlice 28 1 #[(0, .agg #[hv f.o, hv f.t, hv f.u, iv f.r])]).run Try.prog W = .ok (.slice (some ⟨W.heap.size, 0, none⟩) 1 1) (W.alloc (.cells #[hv f.o, hv f.t, hv f.u, iv f.r] 75))
  unfold hv
  kernel_rfl
theorem rx_from {V : World} {g n c k o1 : Nat} {cs : List Value} (h : Rx V (some ⟨g, 0, none⟩) n 4 cs) (hk : k < n) (hc : n ≤ c) (ho : o1 = if c = k + 1 then 0 else (k + 1) * 4) : Rx V (some ⟨g, o1, none⟩) (n - (k + 1)) 4 (cs.drop ((k + 1) * 4)) := by
  refine ⟨by rw [List.length_drop, h.1]; omega, fun u hu => h.2.1 u (List.mem_of_mem_drop hu), fun hp => ?_⟩
  obtain ⟨g', off, e, hx⟩ := h.2.2 (by omega)
  cases e
  rw [if_neg (by omega)] at ho
  refine ⟨g, o1, rfl, fun j u hu => ?_⟩
  rw [List.getElem?_drop] at hu
  have := hx _ u hu
  rw [Nat.zero_add] at this
  rw [ho]
  exact this
theorem rx_upto {V : World} {g n k : Nat} {cs : List Value} (h : Rx V (some ⟨g, 0, none⟩) n 4 cs) (hk : k < n) : Rx V (some ⟨g, 0, none⟩) k 4 (cs.take (k * 4)) := by
  refine ⟨by rw [List.length_take, h.1]; omega, fun u hu => h.2.1 u (List.mem_of_mem_take hu), fun hp => ?_⟩
  obtain ⟨g', off, e, hx⟩ := h.2.2 (by omega)
  refine ⟨g', off, e, fun j u hu => hx j u ?_⟩
  rw [List.getElem?_take] at hu
  split at hu
  · exact hu
  · cases hu
theorem keepB {S : Nat → Prop} {A V V' : World} (h : Keep S A V) (hb : Below A.heap.size V V') : Keep S A V' := ⟨hb.os.trans h.os, hb.tape.trans h.tape, hb.output.trans h.output, Nat.le_trans h.size hb.size, fun k hk hn => (hb.block k hk).trans (h.block k hk hn)⟩
theorem grown_below {w w' : World} {B e sz n : Nat} {v : Value} {cs : List Value} (h : w.ownsRow B e sz v n cs) (hg : w.grownBy w' v.ownBlock) (hB : B ≤ w.heap.size) : Below B w w' := ⟨hg.os, hg.tape, hg.output, hg.size, fun k hk => hg.block k (by omega) fun e => by have := (h.lt k e.symm).1; omega⟩
set_option maxRecDepth 100000 in
set_option maxHeartbeats 4000000 in
theorem rwo1 {Q : Exit → Act → World → Prop} {x0 x3 x4 x5 x6 x7 x8 x9 x10 x11 x12 x13 x14 x15 x16 x17 x18 : Value} {ds : List Deferred} {A : World} {b2 g n c k o1 : Nat} {cs : List Value} {uv ov : Value} {i0 i1 : TypeInfo} {z : Value}
    (HL : Hid (b2 < A.heap.size)) (HX : Hid (Blk A b2 30 [uv, ov, .slice (some ⟨g, 0, none⟩) n c])) (HR : Hid (∀ V, Keep (fun j => j = b2) A V → Rx V (some ⟨g, 0, none⟩) n 4 cs)) (HN : Hid (k < n ∧ n ≤ c ∧ n ≤ 100000)) (HOF : Hid (o1 = if c = k + 1 then 0 else (k + 1) * 4)) (HI0 : Hid (Try.prog.info? 75 = some i0 ∧ i0.zero = some z ∧ i0.size = 4 ∧ i0.bytes ≤ 1000 ∧ z.cells.size = 4)) (HU : Hid (Try.prog.underlying 28 = some (.slice (Try.prog.elem 28)) ∧ Try.prog.info? (Try.prog.elem 28) = some i1 ∧ i1.size = 4))
    (hQ : ∀ V1 v1 v2 q, V1.ownsRow A.heap.size 75 4 v2 (0 + k + (n - (k + 1))) ([] ++ cs.take (k * 4) ++ cs.drop ((k + 1) * 4)) → Blk V1 b2 30 [uv, ov, v2] → Keep (fun j => j = b2) A V1 → Q .normal { tmps := #[x0, iv (k : Int), .pointer (some ⟨b2, 0, none⟩), x3, x4, .slice (some ⟨q, 0, none⟩) 0 0, .pointer (some ⟨b2, 2, none⟩), .slice (some ⟨g, 0, none⟩) n c, iv (k : Int), .slice (some ⟨g, 0, none⟩) k c, v1, .pointer (some ⟨b2, 2, none⟩), .slice (some ⟨g, 0, none⟩) n c, iv (k : Int), iv ((k : Int) + 1), .slice (some ⟨g, o1, none⟩) (n - (k + 1)) (c - (k + 1)), v2, .pointer (some ⟨b2, 2, none⟩), x18], defers := ds } V1) :
    (Code.region 1 #[{ dst := some 5, op := Op.buildSlice 28 0 #[], type := 28, pos := "ref.go:57", after := #[], guard := none }, { dst := some 6, op := Op.fieldAddr 30 (Operand.tmp 2) 2, type := 0, pos := "ref.go:57", after := #[], guard := none }, { dst := some 7, op := Op.load 28 (Operand.tmp 6), type := 28, pos := "ref.go:57", after := #[{ on := 1, ground := Ground.data }], guard := none }, { dst := some 8, op := Op.move (Operand.tmp 1), type := 3, pos := "ref.go:57", after := #[], guard := none }, { dst := some 9, op := Op.slice 28 (Operand.tmp 7) none (some (Operand.tmp 8)) none, type := 28, pos := "ref.go:57", after := #[{ on := 2, ground := Ground.data }, { on := 3, ground := Ground.data }], guard := none }, { dst := some 10, op := Op.call { callee := Callee.builtin Builtin.append, args := #[Operand.tmp 5, Operand.tmp 9], argTypes := #[28, 28] }, type := 28, pos := "ref.go:57", after := #[{ on := 0, ground := Ground.data }, { on := 4, ground := Ground.data }], guard := none }, { dst := some 11, op := Op.fieldAddr 30 (Operand.tmp 2) 2, type := 0, pos := "ref.go:57", after := #[], guard := none }, { dst := some 12, op := Op.load 28 (Operand.tmp 11), type := 28, pos := "ref.go:57", after := #[{ on := 6, ground := Ground.data }], guard := none }, { dst := some 13, op := Op.move (Operand.tmp 1), type := 3, pos := "ref.go:57", after := #[], guard := none }, { dst := some 14, op := Op.binOp BinOp.add 3 (Operand.tmp 13) (Operand.const (Value.int IntKind.i64 1)) 3, type := 3, pos := "ref.go:57", after := #[{ on := 8, ground := Ground.data }], guard := none }, { dst := some 15, op := Op.slice 28 (Operand.tmp 12) (some (Operand.tmp 14)) none none, type := 28, pos := "ref.go:57", after := #[{ on := 7, ground := Ground.data }, { on := 9, ground := Ground.data }], guard := none }, { dst := some 16, op := Op.call { callee := Callee.builtin Builtin.append, args := #[Operand.tmp 10, Operand.tmp 15], argTypes := #[28, 28] }, type := 28, pos := "ref.go:57", after := #[{ on := 5, ground := Ground.data }, { on := 10, ground := Ground.data }, { on := 5, ground := Ground.chain }], guard := none }, { dst := some 17, op := Op.fieldAddr 30 (Operand.tmp 2) 2, type := 0, pos := "ref.go:57", after := #[{ on := 0, ground := Ground.phase }, { on := 1, ground := Ground.phase }, { on := 2, ground := Ground.phase }, { on := 3, ground := Ground.phase }, { on := 4, ground := Ground.phase }, { on := 5, ground := Ground.phase }, { on := 6, ground := Ground.phase }, { on := 7, ground := Ground.phase }, { on := 8, ground := Ground.phase }, { on := 9, ground := Ground.phase }, { on := 10, ground := Ground.phase }, { on := 11, ground := Ground.phase }], guard := none }, { dst := none, op := Op.store 28 (Operand.tmp 17) (Operand.tmp 16), type := 0, pos := "ref.go:57", after := #[{ on := 12, ground := Ground.data }, { on := 11, ground := Ground.data }, { on := 11, ground := Ground.chain }, { on := 0, ground := Ground.phase }, { on := 1, ground := Ground.phase }, { on := 2, ground := Ground.phase }, { on := 3, ground := Ground.phase }, { on := 4, ground := Ground.phase }, { on := 5, ground := Ground.phase }, { on := 6, ground := Ground.phase }, { on := 7, ground := Ground.phase }, { on := 8, ground := Ground.phase }, { on := 9, ground := Ground.phase }, { on := 10, ground := Ground.phase }, { on := 11, ground := Ground.phase }], guard := none }] true).wp Try.prog Q { tmps := #[x0, iv (k : Int), .pointer (some ⟨b2, 0, none⟩), x3, x4, x5, x6, x7, x8, x9, x10, x11, x12, x13, x14, x15, x16, x17, x18], defers := ds } A := by
  refine Code.wp_mono (Q := fun x a' w' => match x with | .normal => Q .normal a' w' | _ => False) (by intro x a' w' h; cases x <;> first | exact h | exact h.elim) ?_
  refine wp_region_held (S := fun V => Keep (fun j => j = b2) A V) (by kernel_rfl) ?_
  have hS0 : Hid (Keep (fun j => j = b2) A A.drew) := (Keep.refl _ A).drew
  change wpAnyH Try.prog .any _ _ (fun V => Keep (fun j => j = b2) A V) 14 (Array.replicate 14 false) _ A.drew
  obtain ⟨V0, hV0⟩ : ∃ V0, A.drew = V0 := ⟨_, rfl⟩
  rw [hV0]
  rw [hV0] at hS0
  have hX0 : Hid (Blk V0 b2 30 [uv, ov, .slice (some ⟨g, 0, none⟩) n c]) := by rw [← hV0]; exact HX.out
  clear hV0
  refine wpAnyH_take (i := 1) (oi := { dst := some 6, op := Op.fieldAddr 30 (Operand.tmp 2) 2, type := 0, pos := "ref.go:57", after := #[], guard := none }) (v := .pointer (some ⟨b2, 2, none⟩)) rfl (by kernel_rfl) (by kernel_rfl) (by kernel_rfl) (fun _ _ _ h => h.elim) (Or.inl ⟨by rfl, ?y1⟩) hS0.out ?_
  case y1 =>
    intro V hV
    go_simp
  simp only [Act.put, List.setIfInBounds_toArray, List.set_cons_zero, List.set_cons_succ]
  refine wpAnyH_take (i := 3) (oi := { dst := some 8, op := Op.move (Operand.tmp 1), type := 3, pos := "ref.go:57", after := #[], guard := none }) (v := iv (k : Int)) rfl (by kernel_rfl) (by kernel_rfl) (by kernel_rfl) (fun _ _ _ h => h.elim) (Or.inl ⟨by rfl, ?y2⟩) hS0.out ?_
  case y2 =>
    intro V hV
    go_simp
  simp only [Act.put, List.setIfInBounds_toArray, List.set_cons_zero, List.set_cons_succ]
  refine wpAnyH_take (i := 6) (oi := { dst := some 11, op := Op.fieldAddr 30 (Operand.tmp 2) 2, type := 0, pos := "ref.go:57", after := #[], guard := none }) (v := .pointer (some ⟨b2, 2, none⟩)) rfl (by kernel_rfl) (by kernel_rfl) (by kernel_rfl) (fun _ _ _ h => h.elim) (Or.inl ⟨by rfl, ?y3⟩) hS0.out ?_
  case y3 =>
    intro V hV
    go_simp
  simp only [Act.put, List.setIfInBounds_toArray, List.set_cons_zero, List.set_cons_succ]
  refine wpAnyH_take (i := 8) (oi := { dst := some 13, op := Op.move (Operand.tmp 1), type := 3, pos := "ref.go:57", after := #[], guard := none }) (v := iv (k : Int)) rfl (by kernel_rfl) (by kernel_rfl) (by kernel_rfl) (fun _ _ _ h => h.elim) (Or.inl ⟨by rfl, ?y4⟩) hS0.out ?_
  case y4 =>
    intro V hV
    go_simp
  simp only [Act.put, List.setIfInBounds_toArray, List.set_cons_zero, List.set_cons_succ]
  refine wpAnyH_take (i := 9) (oi := { dst := some 14, op := Op.binOp BinOp.add 3 (Operand.tmp 13) (Operand.const (Value.int IntKind.i64 1)) 3, type := 3, pos := "ref.go:57", after := #[{ on := 8, ground := Ground.data }], guard := none }) (v := iv ((k : Int) + 1)) rfl (by kernel_rfl) (by kernel_rfl) (by kernel_rfl) (fun _ _ _ h => h.elim) (Or.inl ⟨by rfl, ?y5⟩) hS0.out ?_
  case y5 =>
    intro V hV
    exact yl_add1 V (.tmp 13) k n rfl rfl (by have := HN.out; omega) (by have := HN.out; omega)
  simp only [Act.put, List.setIfInBounds_toArray, List.set_cons_zero, List.set_cons_succ]
  refine wpAnyH_ready (rs := [0, 2, 7]) (by kernel_rfl) (by simp) (AllReadyH.cons (i := 0) (o := { dst := some 5, op := Op.buildSlice 28 0 #[], type := 28, pos := "ref.go:57", after := #[], guard := none }) rfl ?_ (AllReadyH.cons (i := 2) (o := { dst := some 7, op := Op.load 28 (Operand.tmp 6), type := 28, pos := "ref.go:57", after := #[{ on := 1, ground := Ground.data }], guard := none }) rfl ?_ (AllReadyH.cons (i := 7) (o := { dst := some 12, op := Op.load 28 (Operand.tmp 11), type := 28, pos := "ref.go:57", after := #[{ on := 6, ground := Ground.data }], guard := none }) rfl ?_ AllReadyH.nil)))
  · intro K1 hK1
    refine step_bs0 (by rfl) 28 rfl (run_bs28_0 _) ?_
    have hr1 : V0.heap.size ≥ A.heap.size := hS0.out.size
    obtain ⟨V1, hv1⟩ : ∃ V, V0.alloc (.cells #[] 75) = V := ⟨_, rfl⟩
    have hl1 : Below V0.heap.size V0 V1 := by rw [← hv1]; exact below_al _ _
    have hw1 : Below A.heap.size V0 V1 := hl1.mono hr1
    have hO1 : Hid (V1.ownsRow A.heap.size 75 4 (.slice (some ⟨V0.heap.size, 0, none⟩) 0 0) 0 []) := by rw [← hv1]; exact ownsRow_base (empty_row V0 75 4) hr1
    have hS1 : Hid (Keep (fun j => j = b2) A V1) := keepB hS0.out hw1
    have hX1 : Hid (Blk V1 b2 30 [uv, ov, .slice (some ⟨g, 0, none⟩) n c]) := ((hw1).block b2 HL.out).trans hX0.out
    obtain ⟨q1, hq1⟩ : ∃ m, V0.heap.size = m := ⟨_, rfl⟩
    rw [hq1] at hO1
    rw [hv1, hq1]
    clear hv1 hq1 hw1 hr1 hl1
    refine hK1.out _ _ hS1.out ?_
    clear hK1
    intro _
    try simp only [Act.put, List.setIfInBounds_toArray, List.set_cons_zero, List.set_cons_succ]
    refine wpAnyH_ready (rs := [2, 7]) (by kernel_rfl) (by simp) (AllReadyH.cons (i := 2) (o := { dst := some 7, op := Op.load 28 (Operand.tmp 6), type := 28, pos := "ref.go:57", after := #[{ on := 1, ground := Ground.data }], guard := none }) rfl ?_ (AllReadyH.cons (i := 7) (o := { dst := some 12, op := Op.load 28 (Operand.tmp 11), type := 28, pos := "ref.go:57", after := #[{ on := 6, ground := Ground.data }], guard := none }) rfl ?_ AllReadyH.nil))
    · intro K1 hK1
      rw [if_pos (by rfl)]
      have hc : V1.cell? ⟨b2, 2, none⟩ = some (.slice (some ⟨g, 0, none⟩) n c) := hX1.out.cell rfl
      go_wp2
      clear hc
      refine hK1.out _ _ hS1.out ?_
      clear hK1
      intro _
      try simp only [Act.put, List.setIfInBounds_toArray, List.set_cons_zero, List.set_cons_succ]
      refine wpAnyH_take (i := 4) (oi := { dst := some 9, op := Op.slice 28 (Operand.tmp 7) none (some (Operand.tmp 8)) none, type := 28, pos := "ref.go:57", after := #[{ on := 2, ground := Ground.data }, { on := 3, ground := Ground.data }], guard := none }) (v := .slice (some ⟨g, 0, none⟩) k c) rfl (by kernel_rfl) (by kernel_rfl) (by kernel_rfl) (fun _ _ _ h => h.elim) (Or.inl ⟨by rfl, ?y6⟩) hS1.out ?_
      case y6 =>
        intro V hV
        exact yl_upto V 28 (.tmp 7) (.tmp 8) _ _ _ _ rfl rfl rfl HU.out.1 HU.out.2.1 (by have := HN.out; omega)
      simp only [Act.put, List.setIfInBounds_toArray, List.set_cons_zero, List.set_cons_succ]
      refine wpAnyH_ready (rs := [5, 7]) (by kernel_rfl) (by simp) (AllReadyH.cons (i := 5) (o := { dst := some 10, op := Op.call { callee := Callee.builtin Builtin.append, args := #[Operand.tmp 5, Operand.tmp 9], argTypes := #[28, 28] }, type := 28, pos := "ref.go:57", after := #[{ on := 0, ground := Ground.data }, { on := 4, ground := Ground.data }], guard := none }) rfl ?_ (AllReadyH.cons (i := 7) (o := { dst := some 12, op := Op.load 28 (Operand.tmp 11), type := 28, pos := "ref.go:57", after := #[{ on := 6, ground := Ground.data }], guard := none }) rfl ?_ AllReadyH.nil))
      · intro K1 hK1
        have hd3 := rx_upto (HR.out V1 hS1.out) HN.out.1
        refine step_append_g (by rfl) (.tmp 5) (.tmp 9) 28 rfl _ 75 i0 z 4 A.heap.size Try.underlying28 HI0.out.1 HI0.out.2.1 HI0.out.2.2.1 HI0.out.2.2.2.1 HI0.out.2.2.2.2 (by omega) _ 0 [] hO1.out (some ⟨g, 0, none⟩) (k) c (cs.take (k * 4)) rfl rfl hd3 hS1.out.size (by have := HN.out; omega) ?_
        intro v3 V3 ho3 hg3 hp3
        have hw3 : Below A.heap.size V1 V3 := grown_below hO1.out hg3.out hS1.out.size
        have hS3 : Hid (Keep (fun j => j = b2) A V3) := keepB hS1.out hw3
        have hX3 : Hid (Blk V3 b2 30 [uv, ov, .slice (some ⟨g, 0, none⟩) n c]) := ((hw3).block b2 HL.out).trans hX1.out
        clear hd3 hw3 hg3 hp3
        refine hK1.out _ _ hS3.out ?_
        clear hK1
        intro _
        try simp only [Act.put, List.setIfInBounds_toArray, List.set_cons_zero, List.set_cons_succ]
        refine wpAnyH_ready (rs := [7]) (by kernel_rfl) (by simp) (AllReadyH.cons (i := 7) (o := { dst := some 12, op := Op.load 28 (Operand.tmp 11), type := 28, pos := "ref.go:57", after := #[{ on := 6, ground := Ground.data }], guard := none }) rfl ?_ AllReadyH.nil)
        · intro K1 hK1
          rw [if_pos (by rfl)]
          have hc : V3.cell? ⟨b2, 2, none⟩ = some (.slice (some ⟨g, 0, none⟩) n c) := hX3.out.cell rfl
          go_wp2
          clear hc
          refine hK1.out _ _ hS3.out ?_
          clear hK1
          intro _
          try simp only [Act.put, List.setIfInBounds_toArray, List.set_cons_zero, List.set_cons_succ]
          refine wpAnyH_take (i := 10) (oi := { dst := some 15, op := Op.slice 28 (Operand.tmp 12) (some (Operand.tmp 14)) none none, type := 28, pos := "ref.go:57", after := #[{ on := 7, ground := Ground.data }, { on := 9, ground := Ground.data }], guard := none }) (v := .slice (some ⟨g, o1, none⟩) (n - (k + 1)) (c - (k + 1))) rfl (by kernel_rfl) (by kernel_rfl) (by kernel_rfl) (fun _ _ _ h => h.elim) (Or.inl ⟨by rfl, ?y7⟩) hS3.out ?_
          case y7 =>
            intro V hV
            exact yl_from4 V 28 (.tmp 12) (.tmp 14) _ _ _ _ _ rfl rfl rfl HU.out.1 HU.out.2.1 HU.out.2.2 (by have := HN.out; omega) HOF.out
          simp only [Act.put, List.setIfInBounds_toArray, List.set_cons_zero, List.set_cons_succ]
          refine wpAnyH_ready (rs := [11]) (by kernel_rfl) (by simp) (AllReadyH.cons (i := 11) (o := { dst := some 16, op := Op.call { callee := Callee.builtin Builtin.append, args := #[Operand.tmp 10, Operand.tmp 15], argTypes := #[28, 28] }, type := 28, pos := "ref.go:57", after := #[{ on := 5, ground := Ground.data }, { on := 10, ground := Ground.data }, { on := 5, ground := Ground.chain }], guard := none }) rfl ?_ AllReadyH.nil)
          · intro K1 hK1
            have hd5 := rx_from (HR.out V3 hS3.out) HN.out.1 HN.out.2.1 HOF.out
            refine step_append_g (by rfl) (.tmp 10) (.tmp 15) 28 rfl _ 75 i0 z 4 A.heap.size Try.underlying28 HI0.out.1 HI0.out.2.1 HI0.out.2.2.1 HI0.out.2.2.2.1 HI0.out.2.2.2.2 (by omega) _ (0 + k) ([] ++ cs.take (k * 4)) ho3.out (some ⟨g, o1, none⟩) (n - (k + 1)) (c - (k + 1)) (cs.drop ((k + 1) * 4)) rfl rfl hd5 hS3.out.size (by have := HN.out; omega) ?_
            intro v5 V5 ho5 hg5 hp5
            have hw5 : Below A.heap.size V3 V5 := grown_below ho3.out hg5.out hS3.out.size
            have hS5 : Hid (Keep (fun j => j = b2) A V5) := keepB hS3.out hw5
            have hX5 : Hid (Blk V5 b2 30 [uv, ov, .slice (some ⟨g, 0, none⟩) n c]) := ((hw5).block b2 HL.out).trans hX3.out
            clear hd5 hw5 hg5 hp5
            refine hK1.out _ _ hS5.out ?_
            clear hK1
            intro _
            try simp only [Act.put, List.setIfInBounds_toArray, List.set_cons_zero, List.set_cons_succ]
            refine wpAnyH_take (i := 12) (oi := { dst := some 17, op := Op.fieldAddr 30 (Operand.tmp 2) 2, type := 0, pos := "ref.go:57", after := #[{ on := 0, ground := Ground.phase }, { on := 1, ground := Ground.phase }, { on := 2, ground := Ground.phase }, { on := 3, ground := Ground.phase }, { on := 4, ground := Ground.phase }, { on := 5, ground := Ground.phase }, { on := 6, ground := Ground.phase }, { on := 7, ground := Ground.phase }, { on := 8, ground := Ground.phase }, { on := 9, ground := Ground.phase }, { on := 10, ground := Ground.phase }, { on := 11, ground := Ground.phase }], guard := none }) (v := .pointer (some ⟨b2, 2, none⟩)) rfl (by kernel_rfl) (by kernel_rfl) (by kernel_rfl) (fun _ _ _ h => h.elim) (Or.inl ⟨by rfl, ?y8⟩) hS5.out ?_
            case y8 =>
              intro V hV
              go_simp
            simp only [Act.put, List.setIfInBounds_toArray, List.set_cons_zero, List.set_cons_succ]
            refine wpAnyH_ready (rs := [13]) (by kernel_rfl) (by simp) (AllReadyH.cons (i := 13) (o := { dst := none, op := Op.store 28 (Operand.tmp 17) (Operand.tmp 16), type := 0, pos := "ref.go:57", after := #[{ on := 12, ground := Ground.data }, { on := 11, ground := Ground.data }, { on := 11, ground := Ground.chain }, { on := 0, ground := Ground.phase }, { on := 1, ground := Ground.phase }, { on := 2, ground := Ground.phase }, { on := 3, ground := Ground.phase }, { on := 4, ground := Ground.phase }, { on := 5, ground := Ground.phase }, { on := 6, ground := Ground.phase }, { on := 7, ground := Ground.phase }, { on := 8, ground := Ground.phase }, { on := 9, ground := Ground.phase }, { on := 10, ground := Ground.phase }, { on := 11, ground := Ground.phase }], guard := none }) rfl ?_ AllReadyH.nil)
            · intro K1 hK1
              refine step_st (by rfl) 28 (.tmp 17) (.tmp 16) rfl b2 2 v5 30 _ rfl rfl hX5.out (by simp) (by kernel_rfl) (own_slice ho5.out).1 (own_slice ho5.out).2 ?_
              obtain ⟨V6, hv6⟩ : ∃ V, V5.setCell ⟨b2, 2, none⟩ v5 = V := ⟨_, rfl⟩
              have hg6 : V5.grownBy V6 (some b2) := by rw [← hv6]; exact grown_setCell _ _ _ _
              have hS6 : Hid (Keep (fun j => j = b2) A V6) := hS5.out.trans (Keep.grown (S := fun j => j = b2) hg6 rfl) (fun _ hj _ => hj)
              have hX6 : Hid (Blk V6 b2 30 [uv, ov, v5]) := by rw [← hv6]; exact hX5.out.set 2 v5
              have hO6 : Hid (V6.ownsRow A.heap.size 75 4 v5 (0 + k + (n - (k + 1))) ([] ++ cs.take (k * 4) ++ cs.drop ((k + 1) * 4))) := own_same ho5.out (fun g h1 h2 => hg6.block g h2 (fun e => by cases e; have := HL.out; omega))
              rw [hv6]
              clear hv6 hg6
              refine hK1.out _ _ hS6.out ?_
              clear hK1
              intro _
              try simp only [Act.put, List.setIfInBounds_toArray, List.set_cons_zero, List.set_cons_succ]
              refine wpAnyH_done (by kernel_rfl) ?_ _
              exact hQ V6 _ _ _ hO6.out hX6.out hS6.out
      · intro K1 hK1
        rw [if_pos (by rfl)]
        have hc : V1.cell? ⟨b2, 2, none⟩ = some (.slice (some ⟨g, 0, none⟩) n c) := hX1.out.cell rfl
        go_wp2
        clear hc
        refine hK1.out _ _ hS1.out ?_
        clear hK1
        intro _
        try simp only [Act.put, List.setIfInBounds_toArray, List.set_cons_zero, List.set_cons_succ]
        refine wpAnyH_take (i := 10) (oi := { dst := some 15, op := Op.slice 28 (Operand.tmp 12) (some (Operand.tmp 14)) none none, type := 28, pos := "ref.go:57", after := #[{ on := 7, ground := Ground.data }, { on := 9, ground := Ground.data }], guard := none }) (v := .slice (some ⟨g, o1, none⟩) (n - (k + 1)) (c - (k + 1))) rfl (by kernel_rfl) (by kernel_rfl) (by kernel_rfl) (fun _ _ _ h => h.elim) (Or.inl ⟨by rfl, ?y9⟩) hS1.out ?_
        case y9 =>
          intro V hV
          exact yl_from4 V 28 (.tmp 12) (.tmp 14) _ _ _ _ _ rfl rfl rfl HU.out.1 HU.out.2.1 HU.out.2.2 (by have := HN.out; omega) HOF.out
        simp only [Act.put, List.setIfInBounds_toArray, List.set_cons_zero, List.set_cons_succ]
        refine wpAnyH_ready (rs := [5]) (by kernel_rfl) (by simp) (AllReadyH.cons (i := 5) (o := { dst := some 10, op := Op.call { callee := Callee.builtin Builtin.append, args := #[Operand.tmp 5, Operand.tmp 9], argTypes := #[28, 28] }, type := 28, pos := "ref.go:57", after := #[{ on := 0, ground := Ground.data }, { on := 4, ground := Ground.data }], guard := none }) rfl ?_ AllReadyH.nil)
        · intro K1 hK1
          have hd4 := rx_upto (HR.out V1 hS1.out) HN.out.1
          refine step_append_g (by rfl) (.tmp 5) (.tmp 9) 28 rfl _ 75 i0 z 4 A.heap.size Try.underlying28 HI0.out.1 HI0.out.2.1 HI0.out.2.2.1 HI0.out.2.2.2.1 HI0.out.2.2.2.2 (by omega) _ 0 [] hO1.out (some ⟨g, 0, none⟩) (k) c (cs.take (k * 4)) rfl rfl hd4 hS1.out.size (by have := HN.out; omega) ?_
          intro v4 V4 ho4 hg4 hp4
          have hw4 : Below A.heap.size V1 V4 := grown_below hO1.out hg4.out hS1.out.size
          have hS4 : Hid (Keep (fun j => j = b2) A V4) := keepB hS1.out hw4
          have hX4 : Hid (Blk V4 b2 30 [uv, ov, .slice (some ⟨g, 0, none⟩) n c]) := ((hw4).block b2 HL.out).trans hX1.out
          clear hd4 hw4 hg4 hp4
          refine hK1.out _ _ hS4.out ?_
          clear hK1
          intro _
          try simp only [Act.put, List.setIfInBounds_toArray, List.set_cons_zero, List.set_cons_succ]
          refine wpAnyH_ready (rs := [11]) (by kernel_rfl) (by simp) (AllReadyH.cons (i := 11) (o := { dst := some 16, op := Op.call { callee := Callee.builtin Builtin.append, args := #[Operand.tmp 10, Operand.tmp 15], argTypes := #[28, 28] }, type := 28, pos := "ref.go:57", after := #[{ on := 5, ground := Ground.data }, { on := 10, ground := Ground.data }, { on := 5, ground := Ground.chain }], guard := none }) rfl ?_ AllReadyH.nil)
          · intro K1 hK1
            have hd5 := rx_from (HR.out V4 hS4.out) HN.out.1 HN.out.2.1 HOF.out
            refine step_append_g (by rfl) (.tmp 10) (.tmp 15) 28 rfl _ 75 i0 z 4 A.heap.size Try.underlying28 HI0.out.1 HI0.out.2.1 HI0.out.2.2.1 HI0.out.2.2.2.1 HI0.out.2.2.2.2 (by omega) _ (0 + k) ([] ++ cs.take (k * 4)) ho4.out (some ⟨g, o1, none⟩) (n - (k + 1)) (c - (k + 1)) (cs.drop ((k + 1) * 4)) rfl rfl hd5 hS4.out.size (by have := HN.out; omega) ?_
            intro v5 V5 ho5 hg5 hp5
            have hw5 : Below A.heap.size V4 V5 := grown_below ho4.out hg5.out hS4.out.size
            have hS5 : Hid (Keep (fun j => j = b2) A V5) := keepB hS4.out hw5
            have hX5 : Hid (Blk V5 b2 30 [uv, ov, .slice (some ⟨g, 0, none⟩) n c]) := ((hw5).block b2 HL.out).trans hX4.out
            clear hd5 hw5 hg5 hp5
            refine hK1.out _ _ hS5.out ?_
            clear hK1
            intro _
            try simp only [Act.put, List.setIfInBounds_toArray, List.set_cons_zero, List.set_cons_succ]
            refine wpAnyH_take (i := 12) (oi := { dst := some 17, op := Op.fieldAddr 30 (Operand.tmp 2) 2, type := 0, pos := "ref.go:57", after := #[{ on := 0, ground := Ground.phase }, { on := 1, ground := Ground.phase }, { on := 2, ground := Ground.phase }, { on := 3, ground := Ground.phase }, { on := 4, ground := Ground.phase }, { on := 5, ground := Ground.phase }, { on := 6, ground := Ground.phase }, { on := 7, ground := Ground.phase }, { on := 8, ground := Ground.phase }, { on := 9, ground := Ground.phase }, { on := 10, ground := Ground.phase }, { on := 11, ground := Ground.phase }], guard := none }) (v := .pointer (some ⟨b2, 2, none⟩)) rfl (by kernel_rfl) (by kernel_rfl) (by kernel_rfl) (fun _ _ _ h => h.elim) (Or.inl ⟨by rfl, ?y10⟩) hS5.out ?_
            case y10 =>
              intro V hV
              go_simp
            simp only [Act.put, List.setIfInBounds_toArray, List.set_cons_zero, List.set_cons_succ]
            refine wpAnyH_ready (rs := [13]) (by kernel_rfl) (by simp) (AllReadyH.cons (i := 13) (o := { dst := none, op := Op.store 28 (Operand.tmp 17) (Operand.tmp 16), type := 0, pos := "ref.go:57", after := #[{ on := 12, ground := Ground.data }, { on := 11, ground := Ground.data }, { on := 11, ground := Ground.chain }, { on := 0, ground := Ground.phase }, { on := 1, ground := Ground.phase }, { on := 2, ground := Ground.phase }, { on := 3, ground := Ground.phase }, { on := 4, ground := Ground.phase }, { on := 5, ground := Ground.phase }, { on := 6, ground := Ground.phase }, { on := 7, ground := Ground.phase }, { on := 8, ground := Ground.phase }, { on := 9, ground := Ground.phase }, { on := 10, ground := Ground.phase }, { on := 11, ground := Ground.phase }], guard := none }) rfl ?_ AllReadyH.nil)
            · intro K1 hK1
              refine step_st (by rfl) 28 (.tmp 17) (.tmp 16) rfl b2 2 v5 30 _ rfl rfl hX5.out (by simp) (by kernel_rfl) (own_slice ho5.out).1 (own_slice ho5.out).2 ?_
              obtain ⟨V6, hv6⟩ : ∃ V, V5.setCell ⟨b2, 2, none⟩ v5 = V := ⟨_, rfl⟩
              have hg6 : V5.grownBy V6 (some b2) := by rw [← hv6]; exact grown_setCell _ _ _ _
              have hS6 : Hid (Keep (fun j => j = b2) A V6) := hS5.out.trans (Keep.grown (S := fun j => j = b2) hg6 rfl) (fun _ hj _ => hj)
              have hX6 : Hid (Blk V6 b2 30 [uv, ov, v5]) := by rw [← hv6]; exact hX5.out.set 2 v5
              have hO6 : Hid (V6.ownsRow A.heap.size 75 4 v5 (0 + k + (n - (k + 1))) ([] ++ cs.take (k * 4) ++ cs.drop ((k + 1) * 4))) := own_same ho5.out (fun g h1 h2 => hg6.block g h2 (fun e => by cases e; have := HL.out; omega))
              rw [hv6]
              clear hv6 hg6
              refine hK1.out _ _ hS6.out ?_
              clear hK1
              intro _
              try simp only [Act.put, List.setIfInBounds_toArray, List.set_cons_zero, List.set_cons_succ]
              refine wpAnyH_done (by kernel_rfl) ?_ _
              exact hQ V6 _ _ _ hO6.out hX6.out hS6.out
    · intro K1 hK1
      rw [if_pos (by rfl)]
      have hc : V1.cell? ⟨b2, 2, none⟩ = some (.slice (some ⟨g, 0, none⟩) n c) := hX1.out.cell rfl
      go_wp2
      clear hc
      refine hK1.out _ _ hS1.out ?_
      clear hK1
      intro _
      try simp only [Act.put, List.setIfInBounds_toArray, List.set_cons_zero, List.set_cons_succ]
      refine wpAnyH_take (i := 10) (oi := { dst := some 15, op := Op.slice 28 (Operand.tmp 12) (some (Operand.tmp 14)) none none, type := 28, pos := "ref.go:57", after := #[{ on := 7, ground := Ground.data }, { on := 9, ground := Ground.data }], guard := none }) (v := .slice (some ⟨g, o1, none⟩) (n - (k + 1)) (c - (k + 1))) rfl (by kernel_rfl) (by kernel_rfl) (by kernel_rfl) (fun _ _ _ h => h.elim) (Or.inl ⟨by rfl, ?y11⟩) hS1.out ?_
      case y11 =>
        intro V hV
        exact yl_from4 V 28 (.tmp 12) (.tmp 14) _ _ _ _ _ rfl rfl rfl HU.out.1 HU.out.2.1 HU.out.2.2 (by have := HN.out; omega) HOF.out
      simp only [Act.put, List.setIfInBounds_toArray, List.set_cons_zero, List.set_cons_succ]
      refine wpAnyH_ready (rs := [2]) (by kernel_rfl) (by simp) (AllReadyH.cons (i := 2) (o := { dst := some 7, op := Op.load 28 (Operand.tmp 6), type := 28, pos := "ref.go:57", after := #[{ on := 1, ground := Ground.data }], guard := none }) rfl ?_ AllReadyH.nil)
      · intro K1 hK1
        rw [if_pos (by rfl)]
        have hc : V1.cell? ⟨b2, 2, none⟩ = some (.slice (some ⟨g, 0, none⟩) n c) := hX1.out.cell rfl
        go_wp2
        clear hc
        refine hK1.out _ _ hS1.out ?_
        clear hK1
        intro _
        try simp only [Act.put, List.setIfInBounds_toArray, List.set_cons_zero, List.set_cons_succ]
        refine wpAnyH_take (i := 4) (oi := { dst := some 9, op := Op.slice 28 (Operand.tmp 7) none (some (Operand.tmp 8)) none, type := 28, pos := "ref.go:57", after := #[{ on := 2, ground := Ground.data }, { on := 3, ground := Ground.data }], guard := none }) (v := .slice (some ⟨g, 0, none⟩) k c) rfl (by kernel_rfl) (by kernel_rfl) (by kernel_rfl) (fun _ _ _ h => h.elim) (Or.inl ⟨by rfl, ?y12⟩) hS1.out ?_
        case y12 =>
          intro V hV
          exact yl_upto V 28 (.tmp 7) (.tmp 8) _ _ _ _ rfl rfl rfl HU.out.1 HU.out.2.1 (by have := HN.out; omega)
        simp only [Act.put, List.setIfInBounds_toArray, List.set_cons_zero, List.set_cons_succ]
        refine wpAnyH_ready (rs := [5]) (by kernel_rfl) (by simp) (AllReadyH.cons (i := 5) (o := { dst := some 10, op := Op.call { callee := Callee.builtin Builtin.append, args := #[Operand.tmp 5, Operand.tmp 9], argTypes := #[28, 28] }, type := 28, pos := "ref.go:57", after := #[{ on := 0, ground := Ground.data }, { on := 4, ground := Ground.data }], guard := none }) rfl ?_ AllReadyH.nil)
        · intro K1 hK1
          have hd4 := rx_upto (HR.out V1 hS1.out) HN.out.1
          refine step_append_g (by rfl) (.tmp 5) (.tmp 9) 28 rfl _ 75 i0 z 4 A.heap.size Try.underlying28 HI0.out.1 HI0.out.2.1 HI0.out.2.2.1 HI0.out.2.2.2.1 HI0.out.2.2.2.2 (by omega) _ 0 [] hO1.out (some ⟨g, 0, none⟩) (k) c (cs.take (k * 4)) rfl rfl hd4 hS1.out.size (by have := HN.out; omega) ?_
          intro v4 V4 ho4 hg4 hp4
          have hw4 : Below A.heap.size V1 V4 := grown_below hO1.out hg4.out hS1.out.size
          have hS4 : Hid (Keep (fun j => j = b2) A V4) := keepB hS1.out hw4
          have hX4 : Hid (Blk V4 b2 30 [uv, ov, .slice (some ⟨g, 0, none⟩) n c]) := ((hw4).block b2 HL.out).trans hX1.out
          clear hd4 hw4 hg4 hp4
          refine hK1.out _ _ hS4.out ?_
          clear hK1
          intro _
          try simp only [Act.put, List.setIfInBounds_toArray, List.set_cons_zero, List.set_cons_succ]
          refine wpAnyH_ready (rs := [11]) (by kernel_rfl) (by simp) (AllReadyH.cons (i := 11) (o := { dst := some 16, op := Op.call { callee := Callee.builtin Builtin.append, args := #[Operand.tmp 10, Operand.tmp 15], argTypes := #[28, 28] }, type := 28, pos := "ref.go:57", after := #[{ on := 5, ground := Ground.data }, { on := 10, ground := Ground.data }, { on := 5, ground := Ground.chain }], guard := none }) rfl ?_ AllReadyH.nil)
          · intro K1 hK1
            have hd5 := rx_from (HR.out V4 hS4.out) HN.out.1 HN.out.2.1 HOF.out
            refine step_append_g (by rfl) (.tmp 10) (.tmp 15) 28 rfl _ 75 i0 z 4 A.heap.size Try.underlying28 HI0.out.1 HI0.out.2.1 HI0.out.2.2.1 HI0.out.2.2.2.1 HI0.out.2.2.2.2 (by omega) _ (0 + k) ([] ++ cs.take (k * 4)) ho4.out (some ⟨g, o1, none⟩) (n - (k + 1)) (c - (k + 1)) (cs.drop ((k + 1) * 4)) rfl rfl hd5 hS4.out.size (by have := HN.out; omega) ?_
            intro v5 V5 ho5 hg5 hp5
            have hw5 : Below A.heap.size V4 V5 := grown_below ho4.out hg5.out hS4.out.size
            have hS5 : Hid (Keep (fun j => j = b2) A V5) := keepB hS4.out hw5
            have hX5 : Hid (Blk V5 b2 30 [uv, ov, .slice (some ⟨g, 0, none⟩) n c]) := ((hw5).block b2 HL.out).trans hX4.out
            clear hd5 hw5 hg5 hp5
            refine hK1.out _ _ hS5.out ?_
            clear hK1
            intro _
            try simp only [Act.put, List.setIfInBounds_toArray, List.set_cons_zero, List.set_cons_succ]
            refine wpAnyH_take (i := 12) (oi := { dst := some 17, op := Op.fieldAddr 30 (Operand.tmp 2) 2, type := 0, pos := "ref.go:57", after := #[{ on := 0, ground := Ground.phase }, { on := 1, ground := Ground.phase }, { on := 2, ground := Ground.phase }, { on := 3, ground := Ground.phase }, { on := 4, ground := Ground.phase }, { on := 5, ground := Ground.phase }, { on := 6, ground := Ground.phase }, { on := 7, ground := Ground.phase }, { on := 8, ground := Ground.phase }, { on := 9, ground := Ground.phase }, { on := 10, ground := Ground.phase }, { on := 11, ground := Ground.phase }], guard := none }) (v := .pointer (some ⟨b2, 2, none⟩)) rfl (by kernel_rfl) (by kernel_rfl) (by kernel_rfl) (fun _ _ _ h => h.elim) (Or.inl ⟨by rfl, ?y13⟩) hS5.out ?_
            case y13 =>
              intro V hV
              go_simp
            simp only [Act.put, List.setIfInBounds_toArray, List.set_cons_zero, List.set_cons_succ]
            refine wpAnyH_ready (rs := [13]) (by kernel_rfl) (by simp) (AllReadyH.cons (i := 13) (o := { dst := none, op := Op.store 28 (Operand.tmp 17) (Operand.tmp 16), type := 0, pos := "ref.go:57", after := #[{ on := 12, ground := Ground.data }, { on := 11, ground := Ground.data }, { on := 11, ground := Ground.chain }, { on := 0, ground := Ground.phase }, { on := 1, ground := Ground.phase }, { on := 2, ground := Ground.phase }, { on := 3, ground := Ground.phase }, { on := 4, ground := Ground.phase }, { on := 5, ground := Ground.phase }, { on := 6, ground := Ground.phase }, { on := 7, ground := Ground.phase }, { on := 8, ground := Ground.phase }, { on := 9, ground := Ground.phase }, { on := 10, ground := Ground.phase }, { on := 11, ground := Ground.phase }], guard := none }) rfl ?_ AllReadyH.nil)
            · intro K1 hK1
              refine step_st (by rfl) 28 (.tmp 17) (.tmp 16) rfl b2 2 v5 30 _ rfl rfl hX5.out (by simp) (by kernel_rfl) (own_slice ho5.out).1 (own_slice ho5.out).2 ?_
              obtain ⟨V6, hv6⟩ : ∃ V, V5.setCell ⟨b2, 2, none⟩ v5 = V := ⟨_, rfl⟩
              have hg6 : V5.grownBy V6 (some b2) := by rw [← hv6]; exact grown_setCell _ _ _ _
              have hS6 : Hid (Keep (fun j => j = b2) A V6) := hS5.out.trans (Keep.grown (S := fun j => j = b2) hg6 rfl) (fun _ hj _ => hj)
              have hX6 : Hid (Blk V6 b2 30 [uv, ov, v5]) := by rw [← hv6]; exact hX5.out.set 2 v5
              have hO6 : Hid (V6.ownsRow A.heap.size 75 4 v5 (0 + k + (n - (k + 1))) ([] ++ cs.take (k * 4) ++ cs.drop ((k + 1) * 4))) := own_same ho5.out (fun g h1 h2 => hg6.block g h2 (fun e => by cases e; have := HL.out; omega))
              rw [hv6]
              clear hv6 hg6
              refine hK1.out _ _ hS6.out ?_
              clear hK1
              intro _
              try simp only [Act.put, List.setIfInBounds_toArray, List.set_cons_zero, List.set_cons_succ]
              refine wpAnyH_done (by kernel_rfl) ?_ _
              exact hQ V6 _ _ _ hO6.out hX6.out hS6.out
  · intro K1 hK1
    rw [if_pos (by rfl)]
    have hc : V0.cell? ⟨b2, 2, none⟩ = some (.slice (some ⟨g, 0, none⟩) n c) := hX0.out.cell rfl
    go_wp2
    clear hc
    refine hK1.out _ _ hS0.out ?_
    clear hK1
    intro _
    try simp only [Act.put, List.setIfInBounds_toArray, List.set_cons_zero, List.set_cons_succ]
    refine wpAnyH_take (i := 4) (oi := { dst := some 9, op := Op.slice 28 (Operand.tmp 7) none (some (Operand.tmp 8)) none, type := 28, pos := "ref.go:57", after := #[{ on := 2, ground := Ground.data }, { on := 3, ground := Ground.data }], guard := none }) (v := .slice (some ⟨g, 0, none⟩) k c) rfl (by kernel_rfl) (by kernel_rfl) (by kernel_rfl) (fun _ _ _ h => h.elim) (Or.inl ⟨by rfl, ?y14⟩) hS0.out ?_
    case y14 =>
      intro V hV
      exact yl_upto V 28 (.tmp 7) (.tmp 8) _ _ _ _ rfl rfl rfl HU.out.1 HU.out.2.1 (by have := HN.out; omega)
    simp only [Act.put, List.setIfInBounds_toArray, List.set_cons_zero, List.set_cons_succ]
    refine wpAnyH_ready (rs := [0, 7]) (by kernel_rfl) (by simp) (AllReadyH.cons (i := 0) (o := { dst := some 5, op := Op.buildSlice 28 0 #[], type := 28, pos := "ref.go:57", after := #[], guard := none }) rfl ?_ (AllReadyH.cons (i := 7) (o := { dst := some 12, op := Op.load 28 (Operand.tmp 11), type := 28, pos := "ref.go:57", after := #[{ on := 6, ground := Ground.data }], guard := none }) rfl ?_ AllReadyH.nil))
    · intro K1 hK1
      refine step_bs0 (by rfl) 28 rfl (run_bs28_0 _) ?_
      have hr2 : V0.heap.size ≥ A.heap.size := hS0.out.size
      obtain ⟨V2, hv2⟩ : ∃ V, V0.alloc (.cells #[] 75) = V := ⟨_, rfl⟩
      have hl2 : Below V0.heap.size V0 V2 := by rw [← hv2]; exact below_al _ _
      have hw2 : Below A.heap.size V0 V2 := hl2.mono hr2
      have hO2 : Hid (V2.ownsRow A.heap.size 75 4 (.slice (some ⟨V0.heap.size, 0, none⟩) 0 0) 0 []) := by rw [← hv2]; exact ownsRow_base (empty_row V0 75 4) hr2
      have hS2 : Hid (Keep (fun j => j = b2) A V2) := keepB hS0.out hw2
      have hX2 : Hid (Blk V2 b2 30 [uv, ov, .slice (some ⟨g, 0, none⟩) n c]) := ((hw2).block b2 HL.out).trans hX0.out
      obtain ⟨q2, hq2⟩ : ∃ m, V0.heap.size = m := ⟨_, rfl⟩
      rw [hq2] at hO2
      rw [hv2, hq2]
      clear hv2 hq2 hw2 hr2 hl2
      refine hK1.out _ _ hS2.out ?_
      clear hK1
      intro _
      try simp only [Act.put, List.setIfInBounds_toArray, List.set_cons_zero, List.set_cons_succ]
      refine wpAnyH_ready (rs := [5, 7]) (by kernel_rfl) (by simp) (AllReadyH.cons (i := 5) (o := { dst := some 10, op := Op.call { callee := Callee.builtin Builtin.append, args := #[Operand.tmp 5, Operand.tmp 9], argTypes := #[28, 28] }, type := 28, pos := "ref.go:57", after := #[{ on := 0, ground := Ground.data }, { on := 4, ground := Ground.data }], guard := none }) rfl ?_ (AllReadyH.cons (i := 7) (o := { dst := some 12, op := Op.load 28 (Operand.tmp 11), type := 28, pos := "ref.go:57", after := #[{ on := 6, ground := Ground.data }], guard := none }) rfl ?_ AllReadyH.nil))
      · intro K1 hK1
        have hd3 := rx_upto (HR.out V2 hS2.out) HN.out.1
        refine step_append_g (by rfl) (.tmp 5) (.tmp 9) 28 rfl _ 75 i0 z 4 A.heap.size Try.underlying28 HI0.out.1 HI0.out.2.1 HI0.out.2.2.1 HI0.out.2.2.2.1 HI0.out.2.2.2.2 (by omega) _ 0 [] hO2.out (some ⟨g, 0, none⟩) (k) c (cs.take (k * 4)) rfl rfl hd3 hS2.out.size (by have := HN.out; omega) ?_
        intro v3 V3 ho3 hg3 hp3
        have hw3 : Below A.heap.size V2 V3 := grown_below hO2.out hg3.out hS2.out.size
        have hS3 : Hid (Keep (fun j => j = b2) A V3) := keepB hS2.out hw3
        have hX3 : Hid (Blk V3 b2 30 [uv, ov, .slice (some ⟨g, 0, none⟩) n c]) := ((hw3).block b2 HL.out).trans hX2.out
        clear hd3 hw3 hg3 hp3
        refine hK1.out _ _ hS3.out ?_
        clear hK1
        intro _
        try simp only [Act.put, List.setIfInBounds_toArray, List.set_cons_zero, List.set_cons_succ]
        refine wpAnyH_ready (rs := [7]) (by kernel_rfl) (by simp) (AllReadyH.cons (i := 7) (o := { dst := some 12, op := Op.load 28 (Operand.tmp 11), type := 28, pos := "ref.go:57", after := #[{ on := 6, ground := Ground.data }], guard := none }) rfl ?_ AllReadyH.nil)
        · intro K1 hK1
          rw [if_pos (by rfl)]
          have hc : V3.cell? ⟨b2, 2, none⟩ = some (.slice (some ⟨g, 0, none⟩) n c) := hX3.out.cell rfl
          go_wp2
          clear hc
          refine hK1.out _ _ hS3.out ?_
          clear hK1
          intro _
          try simp only [Act.put, List.setIfInBounds_toArray, List.set_cons_zero, List.set_cons_succ]
          refine wpAnyH_take (i := 10) (oi := { dst := some 15, op := Op.slice 28 (Operand.tmp 12) (some (Operand.tmp 14)) none none, type := 28, pos := "ref.go:57", after := #[{ on := 7, ground := Ground.data }, { on := 9, ground := Ground.data }], guard := none }) (v := .slice (some ⟨g, o1, none⟩) (n - (k + 1)) (c - (k + 1))) rfl (by kernel_rfl) (by kernel_rfl) (by kernel_rfl) (fun _ _ _ h => h.elim) (Or.inl ⟨by rfl, ?y15⟩) hS3.out ?_
          case y15 =>
            intro V hV
            exact yl_from4 V 28 (.tmp 12) (.tmp 14) _ _ _ _ _ rfl rfl rfl HU.out.1 HU.out.2.1 HU.out.2.2 (by have := HN.out; omega) HOF.out
          simp only [Act.put, List.setIfInBounds_toArray, List.set_cons_zero, List.set_cons_succ]
          refine wpAnyH_ready (rs := [11]) (by kernel_rfl) (by simp) (AllReadyH.cons (i := 11) (o := { dst := some 16, op := Op.call { callee := Callee.builtin Builtin.append, args := #[Operand.tmp 10, Operand.tmp 15], argTypes := #[28, 28] }, type := 28, pos := "ref.go:57", after := #[{ on := 5, ground := Ground.data }, { on := 10, ground := Ground.data }, { on := 5, ground := Ground.chain }], guard := none }) rfl ?_ AllReadyH.nil)
          · intro K1 hK1
            have hd5 := rx_from (HR.out V3 hS3.out) HN.out.1 HN.out.2.1 HOF.out
            refine step_append_g (by rfl) (.tmp 10) (.tmp 15) 28 rfl _ 75 i0 z 4 A.heap.size Try.underlying28 HI0.out.1 HI0.out.2.1 HI0.out.2.2.1 HI0.out.2.2.2.1 HI0.out.2.2.2.2 (by omega) _ (0 + k) ([] ++ cs.take (k * 4)) ho3.out (some ⟨g, o1, none⟩) (n - (k + 1)) (c - (k + 1)) (cs.drop ((k + 1) * 4)) rfl rfl hd5 hS3.out.size (by have := HN.out; omega) ?_
            intro v5 V5 ho5 hg5 hp5
            have hw5 : Below A.heap.size V3 V5 := grown_below ho3.out hg5.out hS3.out.size
            have hS5 : Hid (Keep (fun j => j = b2) A V5) := keepB hS3.out hw5
            have hX5 : Hid (Blk V5 b2 30 [uv, ov, .slice (some ⟨g, 0, none⟩) n c]) := ((hw5).block b2 HL.out).trans hX3.out
            clear hd5 hw5 hg5 hp5
            refine hK1.out _ _ hS5.out ?_
            clear hK1
            intro _
            try simp only [Act.put, List.setIfInBounds_toArray, List.set_cons_zero, List.set_cons_succ]
            refine wpAnyH_take (i := 12) (oi := { dst := some 17, op := Op.fieldAddr 30 (Operand.tmp 2) 2, type := 0, pos := "ref.go:57", after := #[{ on := 0, ground := Ground.phase }, { on := 1, ground := Ground.phase }, { on := 2, ground := Ground.phase }, { on := 3, ground := Ground.phase }, { on := 4, ground := Ground.phase }, { on := 5, ground := Ground.phase }, { on := 6, ground := Ground.phase }, { on := 7, ground := Ground.phase }, { on := 8, ground := Ground.phase }, { on := 9, ground := Ground.phase }, { on := 10, ground := Ground.phase }, { on := 11, ground := Ground.phase }], guard := none }) (v := .pointer (some ⟨b2, 2, none⟩)) rfl (by kernel_rfl) (by kernel_rfl) (by kernel_rfl) (fun _ _ _ h => h.elim) (Or.inl ⟨by rfl, ?y16⟩) hS5.out ?_
            case y16 =>
              intro V hV
              go_simp
            simp only [Act.put, List.setIfInBounds_toArray, List.set_cons_zero, List.set_cons_succ]
            refine wpAnyH_ready (rs := [13]) (by kernel_rfl) (by simp) (AllReadyH.cons (i := 13) (o := { dst := none, op := Op.store 28 (Operand.tmp 17) (Operand.tmp 16), type := 0, pos := "ref.go:57", after := #[{ on := 12, ground := Ground.data }, { on := 11, ground := Ground.data }, { on := 11, ground := Ground.chain }, { on := 0, ground := Ground.phase }, { on := 1, ground := Ground.phase }, { on := 2, ground := Ground.phase }, { on := 3, ground := Ground.phase }, { on := 4, ground := Ground.phase }, { on := 5, ground := Ground.phase }, { on := 6, ground := Ground.phase }, { on := 7, ground := Ground.phase }, { on := 8, ground := Ground.phase }, { on := 9, ground := Ground.phase }, { on := 10, ground := Ground.phase }, { on := 11, ground := Ground.phase }], guard := none }) rfl ?_ AllReadyH.nil)
            · intro K1 hK1
              refine step_st (by rfl) 28 (.tmp 17) (.tmp 16) rfl b2 2 v5 30 _ rfl rfl hX5.out (by simp) (by kernel_rfl) (own_slice ho5.out).1 (own_slice ho5.out).2 ?_
              obtain ⟨V6, hv6⟩ : ∃ V, V5.setCell ⟨b2, 2, none⟩ v5 = V := ⟨_, rfl⟩
              have hg6 : V5.grownBy V6 (some b2) := by rw [← hv6]; exact grown_setCell _ _ _ _
              have hS6 : Hid (Keep (fun j => j = b2) A V6) := hS5.out.trans (Keep.grown (S := fun j => j = b2) hg6 rfl) (fun _ hj _ => hj)
              have hX6 : Hid (Blk V6 b2 30 [uv, ov, v5]) := by rw [← hv6]; exact hX5.out.set 2 v5
              have hO6 : Hid (V6.ownsRow A.heap.size 75 4 v5 (0 + k + (n - (k + 1))) ([] ++ cs.take (k * 4) ++ cs.drop ((k + 1) * 4))) := own_same ho5.out (fun g h1 h2 => hg6.block g h2 (fun e => by cases e; have := HL.out; omega))
              rw [hv6]
              clear hv6 hg6
              refine hK1.out _ _ hS6.out ?_
              clear hK1
              intro _
              try simp only [Act.put, List.setIfInBounds_toArray, List.set_cons_zero, List.set_cons_succ]
              refine wpAnyH_done (by kernel_rfl) ?_ _
              exact hQ V6 _ _ _ hO6.out hX6.out hS6.out
      · intro K1 hK1
        rw [if_pos (by rfl)]
        have hc : V2.cell? ⟨b2, 2, none⟩ = some (.slice (some ⟨g, 0, none⟩) n c) := hX2.out.cell rfl
        go_wp2
        clear hc
        refine hK1.out _ _ hS2.out ?_
        clear hK1
        intro _
        try simp only [Act.put, List.setIfInBounds_toArray, List.set_cons_zero, List.set_cons_succ]
        refine wpAnyH_take (i := 10) (oi := { dst := some 15, op := Op.slice 28 (Operand.tmp 12) (some (Operand.tmp 14)) none none, type := 28, pos := "ref.go:57", after := #[{ on := 7, ground := Ground.data }, { on := 9, ground := Ground.data }], guard := none }) (v := .slice (some ⟨g, o1, none⟩) (n - (k + 1)) (c - (k + 1))) rfl (by kernel_rfl) (by kernel_rfl) (by kernel_rfl) (fun _ _ _ h => h.elim) (Or.inl ⟨by rfl, ?y17⟩) hS2.out ?_
        case y17 =>
          intro V hV
          exact yl_from4 V 28 (.tmp 12) (.tmp 14) _ _ _ _ _ rfl rfl rfl HU.out.1 HU.out.2.1 HU.out.2.2 (by have := HN.out; omega) HOF.out
        simp only [Act.put, List.setIfInBounds_toArray, List.set_cons_zero, List.set_cons_succ]
        refine wpAnyH_ready (rs := [5]) (by kernel_rfl) (by simp) (AllReadyH.cons (i := 5) (o := { dst := some 10, op := Op.call { callee := Callee.builtin Builtin.append, args := #[Operand.tmp 5, Operand.tmp 9], argTypes := #[28, 28] }, type := 28, pos := "ref.go:57", after := #[{ on := 0, ground := Ground.data }, { on := 4, ground := Ground.data }], guard := none }) rfl ?_ AllReadyH.nil)
        · intro K1 hK1
          have hd4 := rx_upto (HR.out V2 hS2.out) HN.out.1
          refine step_append_g (by rfl) (.tmp 5) (.tmp 9) 28 rfl _ 75 i0 z 4 A.heap.size Try.underlying28 HI0.out.1 HI0.out.2.1 HI0.out.2.2.1 HI0.out.2.2.2.1 HI0.out.2.2.2.2 (by omega) _ 0 [] hO2.out (some ⟨g, 0, none⟩) (k) c (cs.take (k * 4)) rfl rfl hd4 hS2.out.size (by have := HN.out; omega) ?_
          intro v4 V4 ho4 hg4 hp4
          have hw4 : Below A.heap.size V2 V4 := grown_below hO2.out hg4.out hS2.out.size
          have hS4 : Hid (Keep (fun j => j = b2) A V4) := keepB hS2.out hw4
          have hX4 : Hid (Blk V4 b2 30 [uv, ov, .slice (some ⟨g, 0, none⟩) n c]) := ((hw4).block b2 HL.out).trans hX2.out
          clear hd4 hw4 hg4 hp4
          refine hK1.out _ _ hS4.out ?_
          clear hK1
          intro _
          try simp only [Act.put, List.setIfInBounds_toArray, List.set_cons_zero, List.set_cons_succ]
          refine wpAnyH_ready (rs := [11]) (by kernel_rfl) (by simp) (AllReadyH.cons (i := 11) (o := { dst := some 16, op := Op.call { callee := Callee.builtin Builtin.append, args := #[Operand.tmp 10, Operand.tmp 15], argTypes := #[28, 28] }, type := 28, pos := "ref.go:57", after := #[{ on := 5, ground := Ground.data }, { on := 10, ground := Ground.data }, { on := 5, ground := Ground.chain }], guard := none }) rfl ?_ AllReadyH.nil)
          · intro K1 hK1
            have hd5 := rx_from (HR.out V4 hS4.out) HN.out.1 HN.out.2.1 HOF.out
            refine step_append_g (by rfl) (.tmp 10) (.tmp 15) 28 rfl _ 75 i0 z 4 A.heap.size Try.underlying28 HI0.out.1 HI0.out.2.1 HI0.out.2.2.1 HI0.out.2.2.2.1 HI0.out.2.2.2.2 (by omega) _ (0 + k) ([] ++ cs.take (k * 4)) ho4.out (some ⟨g, o1, none⟩) (n - (k + 1)) (c - (k + 1)) (cs.drop ((k + 1) * 4)) rfl rfl hd5 hS4.out.size (by have := HN.out; omega) ?_
            intro v5 V5 ho5 hg5 hp5
            have hw5 : Below A.heap.size V4 V5 := grown_below ho4.out hg5.out hS4.out.size
            have hS5 : Hid (Keep (fun j => j = b2) A V5) := keepB hS4.out hw5
            have hX5 : Hid (Blk V5 b2 30 [uv, ov, .slice (some ⟨g, 0, none⟩) n c]) := ((hw5).block b2 HL.out).trans hX4.out
            clear hd5 hw5 hg5 hp5
            refine hK1.out _ _ hS5.out ?_
            clear hK1
            intro _
            try simp only [Act.put, List.setIfInBounds_toArray, List.set_cons_zero, List.set_cons_succ]
            refine wpAnyH_take (i := 12) (oi := { dst := some 17, op := Op.fieldAddr 30 (Operand.tmp 2) 2, type := 0, pos := "ref.go:57", after := #[{ on := 0, ground := Ground.phase }, { on := 1, ground := Ground.phase }, { on := 2, ground := Ground.phase }, { on := 3, ground := Ground.phase }, { on := 4, ground := Ground.phase }, { on := 5, ground := Ground.phase }, { on := 6, ground := Ground.phase }, { on := 7, ground := Ground.phase }, { on := 8, ground := Ground.phase }, { on := 9, ground := Ground.phase }, { on := 10, ground := Ground.phase }, { on := 11, ground := Ground.phase }], guard := none }) (v := .pointer (some ⟨b2, 2, none⟩)) rfl (by kernel_rfl) (by kernel_rfl) (by kernel_rfl) (fun _ _ _ h => h.elim) (Or.inl ⟨by rfl, ?y18⟩) hS5.out ?_
            case y18 =>
              intro V hV
              go_simp
            simp only [Act.put, List.setIfInBounds_toArray, List.set_cons_zero, List.set_cons_succ]
            refine wpAnyH_ready (rs := [13]) (by kernel_rfl) (by simp) (AllReadyH.cons (i := 13) (o := { dst := none, op := Op.store 28 (Operand.tmp 17) (Operand.tmp 16), type := 0, pos := "ref.go:57", after := #[{ on := 12, ground := Ground.data }, { on := 11, ground := Ground.data }, { on := 11, ground := Ground.chain }, { on := 0, ground := Ground.phase }, { on := 1, ground := Ground.phase }, { on := 2, ground := Ground.phase }, { on := 3, ground := Ground.phase }, { on := 4, ground := Ground.phase }, { on := 5, ground := Ground.phase }, { on := 6, ground := Ground.phase }, { on := 7, ground := Ground.phase }, { on := 8, ground := Ground.phase }, { on := 9, ground := Ground.phase }, { on := 10, ground := Ground.phase }, { on := 11, ground := Ground.phase }], guard := none }) rfl ?_ AllReadyH.nil)
            · intro K1 hK1
              refine step_st (by rfl) 28 (.tmp 17) (.tmp 16) rfl b2 2 v5 30 _ rfl rfl hX5.out (by simp) (by kernel_rfl) (own_slice ho5.out).1 (own_slice ho5.out).2 ?_
              obtain ⟨V6, hv6⟩ : ∃ V, V5.setCell ⟨b2, 2, none⟩ v5 = V := ⟨_, rfl⟩
              have hg6 : V5.grownBy V6 (some b2) := by rw [← hv6]; exact grown_setCell _ _ _ _
              have hS6 : Hid (Keep (fun j => j = b2) A V6) := hS5.out.trans (Keep.grown (S := fun j => j = b2) hg6 rfl) (fun _ hj _ => hj)
              have hX6 : Hid (Blk V6 b2 30 [uv, ov, v5]) := by rw [← hv6]; exact hX5.out.set 2 v5
              have hO6 : Hid (V6.ownsRow A.heap.size 75 4 v5 (0 + k + (n - (k + 1))) ([] ++ cs.take (k * 4) ++ cs.drop ((k + 1) * 4))) := own_same ho5.out (fun g h1 h2 => hg6.block g h2 (fun e => by cases e; have := HL.out; omega))
              rw [hv6]
              clear hv6 hg6
              refine hK1.out _ _ hS6.out ?_
              clear hK1
              intro _
              try simp only [Act.put, List.setIfInBounds_toArray, List.set_cons_zero, List.set_cons_succ]
              refine wpAnyH_done (by kernel_rfl) ?_ _
              exact hQ V6 _ _ _ hO6.out hX6.out hS6.out
    · intro K1 hK1
      rw [if_pos (by rfl)]
      have hc : V0.cell? ⟨b2, 2, none⟩ = some (.slice (some ⟨g, 0, none⟩) n c) := hX0.out.cell rfl
      go_wp2
      clear hc
      refine hK1.out _ _ hS0.out ?_
      clear hK1
      intro _
      try simp only [Act.put, List.setIfInBounds_toArray, List.set_cons_zero, List.set_cons_succ]
      refine wpAnyH_take (i := 10) (oi := { dst := some 15, op := Op.slice 28 (Operand.tmp 12) (some (Operand.tmp 14)) none none, type := 28, pos := "ref.go:57", after := #[{ on := 7, ground := Ground.data }, { on := 9, ground := Ground.data }], guard := none }) (v := .slice (some ⟨g, o1, none⟩) (n - (k + 1)) (c - (k + 1))) rfl (by kernel_rfl) (by kernel_rfl) (by kernel_rfl) (fun _ _ _ h => h.elim) (Or.inl ⟨by rfl, ?y19⟩) hS0.out ?_
      case y19 =>
        intro V hV
        exact yl_from4 V 28 (.tmp 12) (.tmp 14) _ _ _ _ _ rfl rfl rfl HU.out.1 HU.out.2.1 HU.out.2.2 (by have := HN.out; omega) HOF.out
      simp only [Act.put, List.setIfInBounds_toArray, List.set_cons_zero, List.set_cons_succ]
      refine wpAnyH_ready (rs := [0]) (by kernel_rfl) (by simp) (AllReadyH.cons (i := 0) (o := { dst := some 5, op := Op.buildSlice 28 0 #[], type := 28, pos := "ref.go:57", after := #[], guard := none }) rfl ?_ AllReadyH.nil)
      · intro K1 hK1
        refine step_bs0 (by rfl) 28 rfl (run_bs28_0 _) ?_
        have hr3 : V0.heap.size ≥ A.heap.size := hS0.out.size
        obtain ⟨V3, hv3⟩ : ∃ V, V0.alloc (.cells #[] 75) = V := ⟨_, rfl⟩
        have hl3 : Below V0.heap.size V0 V3 := by rw [← hv3]; exact below_al _ _
        have hw3 : Below A.heap.size V0 V3 := hl3.mono hr3
        have hO3 : Hid (V3.ownsRow A.heap.size 75 4 (.slice (some ⟨V0.heap.size, 0, none⟩) 0 0) 0 []) := by rw [← hv3]; exact ownsRow_base (empty_row V0 75 4) hr3
        have hS3 : Hid (Keep (fun j => j = b2) A V3) := keepB hS0.out hw3
        have hX3 : Hid (Blk V3 b2 30 [uv, ov, .slice (some ⟨g, 0, none⟩) n c]) := ((hw3).block b2 HL.out).trans hX0.out
        obtain ⟨q3, hq3⟩ : ∃ m, V0.heap.size = m := ⟨_, rfl⟩
        rw [hq3] at hO3
        rw [hv3, hq3]
        clear hv3 hq3 hw3 hr3 hl3
        refine hK1.out _ _ hS3.out ?_
        clear hK1
        intro _
        try simp only [Act.put, List.setIfInBounds_toArray, List.set_cons_zero, List.set_cons_succ]
        refine wpAnyH_ready (rs := [5]) (by kernel_rfl) (by simp) (AllReadyH.cons (i := 5) (o := { dst := some 10, op := Op.call { callee := Callee.builtin Builtin.append, args := #[Operand.tmp 5, Operand.tmp 9], argTypes := #[28, 28] }, type := 28, pos := "ref.go:57", after := #[{ on := 0, ground := Ground.data }, { on := 4, ground := Ground.data }], guard := none }) rfl ?_ AllReadyH.nil)
        · intro K1 hK1
          have hd4 := rx_upto (HR.out V3 hS3.out) HN.out.1
          refine step_append_g (by rfl) (.tmp 5) (.tmp 9) 28 rfl _ 75 i0 z 4 A.heap.size Try.underlying28 HI0.out.1 HI0.out.2.1 HI0.out.2.2.1 HI0.out.2.2.2.1 HI0.out.2.2.2.2 (by omega) _ 0 [] hO3.out (some ⟨g, 0, none⟩) (k) c (cs.take (k * 4)) rfl rfl hd4 hS3.out.size (by have := HN.out; omega) ?_
          intro v4 V4 ho4 hg4 hp4
          have hw4 : Below A.heap.size V3 V4 := grown_below hO3.out hg4.out hS3.out.size
          have hS4 : Hid (Keep (fun j => j = b2) A V4) := keepB hS3.out hw4
          have hX4 : Hid (Blk V4 b2 30 [uv, ov, .slice (some ⟨g, 0, none⟩) n c]) := ((hw4).block b2 HL.out).trans hX3.out
          clear hd4 hw4 hg4 hp4
          refine hK1.out _ _ hS4.out ?_
          clear hK1
          intro _
          try simp only [Act.put, List.setIfInBounds_toArray, List.set_cons_zero, List.set_cons_succ]
          refine wpAnyH_ready (rs := [11]) (by kernel_rfl) (by simp) (AllReadyH.cons (i := 11) (o := { dst := some 16, op := Op.call { callee := Callee.builtin Builtin.append, args := #[Operand.tmp 10, Operand.tmp 15], argTypes := #[28, 28] }, type := 28, pos := "ref.go:57", after := #[{ on := 5, ground := Ground.data }, { on := 10, ground := Ground.data }, { on := 5, ground := Ground.chain }], guard := none }) rfl ?_ AllReadyH.nil)
          · intro K1 hK1
            have hd5 := rx_from (HR.out V4 hS4.out) HN.out.1 HN.out.2.1 HOF.out
            refine step_append_g (by rfl) (.tmp 10) (.tmp 15) 28 rfl _ 75 i0 z 4 A.heap.size Try.underlying28 HI0.out.1 HI0.out.2.1 HI0.out.2.2.1 HI0.out.2.2.2.1 HI0.out.2.2.2.2 (by omega) _ (0 + k) ([] ++ cs.take (k * 4)) ho4.out (some ⟨g, o1, none⟩) (n - (k + 1)) (c - (k + 1)) (cs.drop ((k + 1) * 4)) rfl rfl hd5 hS4.out.size (by have := HN.out; omega) ?_
            intro v5 V5 ho5 hg5 hp5
            have hw5 : Below A.heap.size V4 V5 := grown_below ho4.out hg5.out hS4.out.size
            have hS5 : Hid (Keep (fun j => j = b2) A V5) := keepB hS4.out hw5
            have hX5 : Hid (Blk V5 b2 30 [uv, ov, .slice (some ⟨g, 0, none⟩) n c]) := ((hw5).block b2 HL.out).trans hX4.out
            clear hd5 hw5 hg5 hp5
            refine hK1.out _ _ hS5.out ?_
            clear hK1
            intro _
            try simp only [Act.put, List.setIfInBounds_toArray, List.set_cons_zero, List.set_cons_succ]
            refine wpAnyH_take (i := 12) (oi := { dst := some 17, op := Op.fieldAddr 30 (Operand.tmp 2) 2, type := 0, pos := "ref.go:57", after := #[{ on := 0, ground := Ground.phase }, { on := 1, ground := Ground.phase }, { on := 2, ground := Ground.phase }, { on := 3, ground := Ground.phase }, { on := 4, ground := Ground.phase }, { on := 5, ground := Ground.phase }, { on := 6, ground := Ground.phase }, { on := 7, ground := Ground.phase }, { on := 8, ground := Ground.phase }, { on := 9, ground := Ground.phase }, { on := 10, ground := Ground.phase }, { on := 11, ground := Ground.phase }], guard := none }) (v := .pointer (some ⟨b2, 2, none⟩)) rfl (by kernel_rfl) (by kernel_rfl) (by kernel_rfl) (fun _ _ _ h => h.elim) (Or.inl ⟨by rfl, ?y20⟩) hS5.out ?_
            case y20 =>
              intro V hV
              go_simp
            simp only [Act.put, List.setIfInBounds_toArray, List.set_cons_zero, List.set_cons_succ]
            refine wpAnyH_ready (rs := [13]) (by kernel_rfl) (by simp) (AllReadyH.cons (i := 13) (o := { dst := none, op := Op.store 28 (Operand.tmp 17) (Operand.tmp 16), type := 0, pos := "ref.go:57", after := #[{ on := 12, ground := Ground.data }, { on := 11, ground := Ground.data }, { on := 11, ground := Ground.chain }, { on := 0, ground := Ground.phase }, { on := 1, ground := Ground.phase }, { on := 2, ground := Ground.phase }, { on := 3, ground := Ground.phase }, { on := 4, ground := Ground.phase }, { on := 5, ground := Ground.phase }, { on := 6, ground := Ground.phase }, { on := 7, ground := Ground.phase }, { on := 8, ground := Ground.phase }, { on := 9, ground := Ground.phase }, { on := 10, ground := Ground.phase }, { on := 11, ground := Ground.phase }], guard := none }) rfl ?_ AllReadyH.nil)
            · intro K1 hK1
              refine step_st (by rfl) 28 (.tmp 17) (.tmp 16) rfl b2 2 v5 30 _ rfl rfl hX5.out (by simp) (by kernel_rfl) (own_slice ho5.out).1 (own_slice ho5.out).2 ?_
              obtain ⟨V6, hv6⟩ : ∃ V, V5.setCell ⟨b2, 2, none⟩ v5 = V := ⟨_, rfl⟩
              have hg6 : V5.grownBy V6 (some b2) := by rw [← hv6]; exact grown_setCell _ _ _ _
              have hS6 : Hid (Keep (fun j => j = b2) A V6) := hS5.out.trans (Keep.grown (S := fun j => j = b2) hg6 rfl) (fun _ hj _ => hj)
              have hX6 : Hid (Blk V6 b2 30 [uv, ov, v5]) := by rw [← hv6]; exact hX5.out.set 2 v5
              have hO6 : Hid (V6.ownsRow A.heap.size 75 4 v5 (0 + k + (n - (k + 1))) ([] ++ cs.take (k * 4) ++ cs.drop ((k + 1) * 4))) := own_same ho5.out (fun g h1 h2 => hg6.block g h2 (fun e => by cases e; have := HL.out; omega))
              rw [hv6]
              clear hv6 hg6
              refine hK1.out _ _ hS6.out ?_
              clear hK1
              intro _
              try simp only [Act.put, List.setIfInBounds_toArray, List.set_cons_zero, List.set_cons_succ]
              refine wpAnyH_done (by kernel_rfl) ?_ _
              exact hQ V6 _ _ _ hO6.out hX6.out hS6.out
  · intro K1 hK1
    rw [if_pos (by rfl)]
    have hc : V0.cell? ⟨b2, 2, none⟩ = some (.slice (some ⟨g, 0, none⟩) n c) := hX0.out.cell rfl
    go_wp2
    clear hc
    refine hK1.out _ _ hS0.out ?_
    clear hK1
    intro _
    try simp only [Act.put, List.setIfInBounds_toArray, List.set_cons_zero, List.set_cons_succ]
    refine wpAnyH_take (i := 10) (oi := { dst := some 15, op := Op.slice 28 (Operand.tmp 12) (some (Operand.tmp 14)) none none, type := 28, pos := "ref.go:57", after := #[{ on := 7, ground := Ground.data }, { on := 9, ground := Ground.data }], guard := none }) (v := .slice (some ⟨g, o1, none⟩) (n - (k + 1)) (c - (k + 1))) rfl (by kernel_rfl) (by kernel_rfl) (by kernel_rfl) (fun _ _ _ h => h.elim) (Or.inl ⟨by rfl, ?y21⟩) hS0.out ?_
    case y21 =>
      intro V hV
      exact yl_from4 V 28 (.tmp 12) (.tmp 14) _ _ _ _ _ rfl rfl rfl HU.out.1 HU.out.2.1 HU.out.2.2 (by have := HN.out; omega) HOF.out
    simp only [Act.put, List.setIfInBounds_toArray, List.set_cons_zero, List.set_cons_succ]
    refine wpAnyH_ready (rs := [0, 2]) (by kernel_rfl) (by simp) (AllReadyH.cons (i := 0) (o := { dst := some 5, op := Op.buildSlice 28 0 #[], type := 28, pos := "ref.go:57", after := #[], guard := none }) rfl ?_ (AllReadyH.cons (i := 2) (o := { dst := some 7, op := Op.load 28 (Operand.tmp 6), type := 28, pos := "ref.go:57", after := #[{ on := 1, ground := Ground.data }], guard := none }) rfl ?_ AllReadyH.nil))
    · intro K1 hK1
      refine step_bs0 (by rfl) 28 rfl (run_bs28_0 _) ?_
      have hr2 : V0.heap.size ≥ A.heap.size := hS0.out.size
      obtain ⟨V2, hv2⟩ : ∃ V, V0.alloc (.cells #[] 75) = V := ⟨_, rfl⟩
      have hl2 : Below V0.heap.size V0 V2 := by rw [← hv2]; exact below_al _ _
      have hw2 : Below A.heap.size V0 V2 := hl2.mono hr2
      have hO2 : Hid (V2.ownsRow A.heap.size 75 4 (.slice (some ⟨V0.heap.size, 0, none⟩) 0 0) 0 []) := by rw [← hv2]; exact ownsRow_base (empty_row V0 75 4) hr2
      have hS2 : Hid (Keep (fun j => j = b2) A V2) := keepB hS0.out hw2
      have hX2 : Hid (Blk V2 b2 30 [uv, ov, .slice (some ⟨g, 0, none⟩) n c]) := ((hw2).block b2 HL.out).trans hX0.out
      obtain ⟨q2, hq2⟩ : ∃ m, V0.heap.size = m := ⟨_, rfl⟩
      rw [hq2] at hO2
      rw [hv2, hq2]
      clear hv2 hq2 hw2 hr2 hl2
      refine hK1.out _ _ hS2.out ?_
      clear hK1
      intro _
      try simp only [Act.put, List.setIfInBounds_toArray, List.set_cons_zero, List.set_cons_succ]
      refine wpAnyH_ready (rs := [2]) (by kernel_rfl) (by simp) (AllReadyH.cons (i := 2) (o := { dst := some 7, op := Op.load 28 (Operand.tmp 6), type := 28, pos := "ref.go:57", after := #[{ on := 1, ground := Ground.data }], guard := none }) rfl ?_ AllReadyH.nil)
      · intro K1 hK1
        rw [if_pos (by rfl)]
        have hc : V2.cell? ⟨b2, 2, none⟩ = some (.slice (some ⟨g, 0, none⟩) n c) := hX2.out.cell rfl
        go_wp2
        clear hc
        refine hK1.out _ _ hS2.out ?_
        clear hK1
        intro _
        try simp only [Act.put, List.setIfInBounds_toArray, List.set_cons_zero, List.set_cons_succ]
        refine wpAnyH_take (i := 4) (oi := { dst := some 9, op := Op.slice 28 (Operand.tmp 7) none (some (Operand.tmp 8)) none, type := 28, pos := "ref.go:57", after := #[{ on := 2, ground := Ground.data }, { on := 3, ground := Ground.data }], guard := none }) (v := .slice (some ⟨g, 0, none⟩) k c) rfl (by kernel_rfl) (by kernel_rfl) (by kernel_rfl) (fun _ _ _ h => h.elim) (Or.inl ⟨by rfl, ?y22⟩) hS2.out ?_
        case y22 =>
          intro V hV
          exact yl_upto V 28 (.tmp 7) (.tmp 8) _ _ _ _ rfl rfl rfl HU.out.1 HU.out.2.1 (by have := HN.out; omega)
        simp only [Act.put, List.setIfInBounds_toArray, List.set_cons_zero, List.set_cons_succ]
        refine wpAnyH_ready (rs := [5]) (by kernel_rfl) (by simp) (AllReadyH.cons (i := 5) (o := { dst := some 10, op := Op.call { callee := Callee.builtin Builtin.append, args := #[Operand.tmp 5, Operand.tmp 9], argTypes := #[28, 28] }, type := 28, pos := "ref.go:57", after := #[{ on := 0, ground := Ground.data }, { on := 4, ground := Ground.data }], guard := none }) rfl ?_ AllReadyH.nil)
        · intro K1 hK1
          have hd4 := rx_upto (HR.out V2 hS2.out) HN.out.1
          refine step_append_g (by rfl) (.tmp 5) (.tmp 9) 28 rfl _ 75 i0 z 4 A.heap.size Try.underlying28 HI0.out.1 HI0.out.2.1 HI0.out.2.2.1 HI0.out.2.2.2.1 HI0.out.2.2.2.2 (by omega) _ 0 [] hO2.out (some ⟨g, 0, none⟩) (k) c (cs.take (k * 4)) rfl rfl hd4 hS2.out.size (by have := HN.out; omega) ?_
          intro v4 V4 ho4 hg4 hp4
          have hw4 : Below A.heap.size V2 V4 := grown_below hO2.out hg4.out hS2.out.size
          have hS4 : Hid (Keep (fun j => j = b2) A V4) := keepB hS2.out hw4
          have hX4 : Hid (Blk V4 b2 30 [uv, ov, .slice (some ⟨g, 0, none⟩) n c]) := ((hw4).block b2 HL.out).trans hX2.out
          clear hd4 hw4 hg4 hp4
          refine hK1.out _ _ hS4.out ?_
          clear hK1
          intro _
          try simp only [Act.put, List.setIfInBounds_toArray, List.set_cons_zero, List.set_cons_succ]
          refine wpAnyH_ready (rs := [11]) (by kernel_rfl) (by simp) (AllReadyH.cons (i := 11) (o := { dst := some 16, op := Op.call { callee := Callee.builtin Builtin.append, args := #[Operand.tmp 10, Operand.tmp 15], argTypes := #[28, 28] }, type := 28, pos := "ref.go:57", after := #[{ on := 5, ground := Ground.data }, { on := 10, ground := Ground.data }, { on := 5, ground := Ground.chain }], guard := none }) rfl ?_ AllReadyH.nil)
          · intro K1 hK1
            have hd5 := rx_from (HR.out V4 hS4.out) HN.out.1 HN.out.2.1 HOF.out
            refine step_append_g (by rfl) (.tmp 10) (.tmp 15) 28 rfl _ 75 i0 z 4 A.heap.size Try.underlying28 HI0.out.1 HI0.out.2.1 HI0.out.2.2.1 HI0.out.2.2.2.1 HI0.out.2.2.2.2 (by omega) _ (0 + k) ([] ++ cs.take (k * 4)) ho4.out (some ⟨g, o1, none⟩) (n - (k + 1)) (c - (k + 1)) (cs.drop ((k + 1) * 4)) rfl rfl hd5 hS4.out.size (by have := HN.out; omega) ?_
            intro v5 V5 ho5 hg5 hp5
            have hw5 : Below A.heap.size V4 V5 := grown_below ho4.out hg5.out hS4.out.size
            have hS5 : Hid (Keep (fun j => j = b2) A V5) := keepB hS4.out hw5
            have hX5 : Hid (Blk V5 b2 30 [uv, ov, .slice (some ⟨g, 0, none⟩) n c]) := ((hw5).block b2 HL.out).trans hX4.out
            clear hd5 hw5 hg5 hp5
            refine hK1.out _ _ hS5.out ?_
            clear hK1
            intro _
            try simp only [Act.put, List.setIfInBounds_toArray, List.set_cons_zero, List.set_cons_succ]
            refine wpAnyH_take (i := 12) (oi := { dst := some 17, op := Op.fieldAddr 30 (Operand.tmp 2) 2, type := 0, pos := "ref.go:57", after := #[{ on := 0, ground := Ground.phase }, { on := 1, ground := Ground.phase }, { on := 2, ground := Ground.phase }, { on := 3, ground := Ground.phase }, { on := 4, ground := Ground.phase }, { on := 5, ground := Ground.phase }, { on := 6, ground := Ground.phase }, { on := 7, ground := Ground.phase }, { on := 8, ground := Ground.phase }, { on := 9, ground := Ground.phase }, { on := 10, ground := Ground.phase }, { on := 11, ground := Ground.phase }], guard := none }) (v := .pointer (some ⟨b2, 2, none⟩)) rfl (by kernel_rfl) (by kernel_rfl) (by kernel_rfl) (fun _ _ _ h => h.elim) (Or.inl ⟨by rfl, ?y23⟩) hS5.out ?_
            case y23 =>
              intro V hV
              go_simp
            simp only [Act.put, List.setIfInBounds_toArray, List.set_cons_zero, List.set_cons_succ]
            refine wpAnyH_ready (rs := [13]) (by kernel_rfl) (by simp) (AllReadyH.cons (i := 13) (o := { dst := none, op := Op.store 28 (Operand.tmp 17) (Operand.tmp 16), type := 0, pos := "ref.go:57", after := #[{ on := 12, ground := Ground.data }, { on := 11, ground := Ground.data }, { on := 11, ground := Ground.chain }, { on := 0, ground := Ground.phase }, { on := 1, ground := Ground.phase }, { on := 2, ground := Ground.phase }, { on := 3, ground := Ground.phase }, { on := 4, ground := Ground.phase }, { on := 5, ground := Ground.phase }, { on := 6, ground := Ground.phase }, { on := 7, ground := Ground.phase }, { on := 8, ground := Ground.phase }, { on := 9, ground := Ground.phase }, { on := 10, ground := Ground.phase }, { on := 11, ground := Ground.phase }], guard := none }) rfl ?_ AllReadyH.nil)
            · intro K1 hK1
              refine step_st (by rfl) 28 (.tmp 17) (.tmp 16) rfl b2 2 v5 30 _ rfl rfl hX5.out (by simp) (by kernel_rfl) (own_slice ho5.out).1 (own_slice ho5.out).2 ?_
              obtain ⟨V6, hv6⟩ : ∃ V, V5.setCell ⟨b2, 2, none⟩ v5 = V := ⟨_, rfl⟩
              have hg6 : V5.grownBy V6 (some b2) := by rw [← hv6]; exact grown_setCell _ _ _ _
              have hS6 : Hid (Keep (fun j => j = b2) A V6) := hS5.out.trans (Keep.grown (S := fun j => j = b2) hg6 rfl) (fun _ hj _ => hj)
              have hX6 : Hid (Blk V6 b2 30 [uv, ov, v5]) := by rw [← hv6]; exact hX5.out.set 2 v5
              have hO6 : Hid (V6.ownsRow A.heap.size 75 4 v5 (0 + k + (n - (k + 1))) ([] ++ cs.take (k * 4) ++ cs.drop ((k + 1) * 4))) := own_same ho5.out (fun g h1 h2 => hg6.block g h2 (fun e => by cases e; have := HL.out; omega))
              rw [hv6]
              clear hv6 hg6
              refine hK1.out _ _ hS6.out ?_
              clear hK1
              intro _
              try simp only [Act.put, List.setIfInBounds_toArray, List.set_cons_zero, List.set_cons_succ]
              refine wpAnyH_done (by kernel_rfl) ?_ _
              exact hQ V6 _ _ _ hO6.out hX6.out hS6.out
    · intro K1 hK1
      rw [if_pos (by rfl)]
      have hc : V0.cell? ⟨b2, 2, none⟩ = some (.slice (some ⟨g, 0, none⟩) n c) := hX0.out.cell rfl
      go_wp2
      clear hc
      refine hK1.out _ _ hS0.out ?_
      clear hK1
      intro _
      try simp only [Act.put, List.setIfInBounds_toArray, List.set_cons_zero, List.set_cons_succ]
      refine wpAnyH_take (i := 4) (oi := { dst := some 9, op := Op.slice 28 (Operand.tmp 7) none (some (Operand.tmp 8)) none, type := 28, pos := "ref.go:57", after := #[{ on := 2, ground := Ground.data }, { on := 3, ground := Ground.data }], guard := none }) (v := .slice (some ⟨g, 0, none⟩) k c) rfl (by kernel_rfl) (by kernel_rfl) (by kernel_rfl) (fun _ _ _ h => h.elim) (Or.inl ⟨by rfl, ?y24⟩) hS0.out ?_
      case y24 =>
        intro V hV
        exact yl_upto V 28 (.tmp 7) (.tmp 8) _ _ _ _ rfl rfl rfl HU.out.1 HU.out.2.1 (by have := HN.out; omega)
      simp only [Act.put, List.setIfInBounds_toArray, List.set_cons_zero, List.set_cons_succ]
      refine wpAnyH_ready (rs := [0]) (by kernel_rfl) (by simp) (AllReadyH.cons (i := 0) (o := { dst := some 5, op := Op.buildSlice 28 0 #[], type := 28, pos := "ref.go:57", after := #[], guard := none }) rfl ?_ AllReadyH.nil)
      · intro K1 hK1
        refine step_bs0 (by rfl) 28 rfl (run_bs28_0 _) ?_
        have hr3 : V0.heap.size ≥ A.heap.size := hS0.out.size
        obtain ⟨V3, hv3⟩ : ∃ V, V0.alloc (.cells #[] 75) = V := ⟨_, rfl⟩
        have hl3 : Below V0.heap.size V0 V3 := by rw [← hv3]; exact below_al _ _
        have hw3 : Below A.heap.size V0 V3 := hl3.mono hr3
        have hO3 : Hid (V3.ownsRow A.heap.size 75 4 (.slice (some ⟨V0.heap.size, 0, none⟩) 0 0) 0 []) := by rw [← hv3]; exact ownsRow_base (empty_row V0 75 4) hr3
        have hS3 : Hid (Keep (fun j => j = b2) A V3) := keepB hS0.out hw3
        have hX3 : Hid (Blk V3 b2 30 [uv, ov, .slice (some ⟨g, 0, none⟩) n c]) := ((hw3).block b2 HL.out).trans hX0.out
        obtain ⟨q3, hq3⟩ : ∃ m, V0.heap.size = m := ⟨_, rfl⟩
        rw [hq3] at hO3
        rw [hv3, hq3]
        clear hv3 hq3 hw3 hr3 hl3
        refine hK1.out _ _ hS3.out ?_
        clear hK1
        intro _
        try simp only [Act.put, List.setIfInBounds_toArray, List.set_cons_zero, List.set_cons_succ]
        refine wpAnyH_ready (rs := [5]) (by kernel_rfl) (by simp) (AllReadyH.cons (i := 5) (o := { dst := some 10, op := Op.call { callee := Callee.builtin Builtin.append, args := #[Operand.tmp 5, Operand.tmp 9], argTypes := #[28, 28] }, type := 28, pos := "ref.go:57", after := #[{ on := 0, ground := Ground.data }, { on := 4, ground := Ground.data }], guard := none }) rfl ?_ AllReadyH.nil)
        · intro K1 hK1
          have hd4 := rx_upto (HR.out V3 hS3.out) HN.out.1
          refine step_append_g (by rfl) (.tmp 5) (.tmp 9) 28 rfl _ 75 i0 z 4 A.heap.size Try.underlying28 HI0.out.1 HI0.out.2.1 HI0.out.2.2.1 HI0.out.2.2.2.1 HI0.out.2.2.2.2 (by omega) _ 0 [] hO3.out (some ⟨g, 0, none⟩) (k) c (cs.take (k * 4)) rfl rfl hd4 hS3.out.size (by have := HN.out; omega) ?_
          intro v4 V4 ho4 hg4 hp4
          have hw4 : Below A.heap.size V3 V4 := grown_below hO3.out hg4.out hS3.out.size
          have hS4 : Hid (Keep (fun j => j = b2) A V4) := keepB hS3.out hw4
          have hX4 : Hid (Blk V4 b2 30 [uv, ov, .slice (some ⟨g, 0, none⟩) n c]) := ((hw4).block b2 HL.out).trans hX3.out
          clear hd4 hw4 hg4 hp4
          refine hK1.out _ _ hS4.out ?_
          clear hK1
          intro _
          try simp only [Act.put, List.setIfInBounds_toArray, List.set_cons_zero, List.set_cons_succ]
          refine wpAnyH_ready (rs := [11]) (by kernel_rfl) (by simp) (AllReadyH.cons (i := 11) (o := { dst := some 16, op := Op.call { callee := Callee.builtin Builtin.append, args := #[Operand.tmp 10, Operand.tmp 15], argTypes := #[28, 28] }, type := 28, pos := "ref.go:57", after := #[{ on := 5, ground := Ground.data }, { on := 10, ground := Ground.data }, { on := 5, ground := Ground.chain }], guard := none }) rfl ?_ AllReadyH.nil)
          · intro K1 hK1
            have hd5 := rx_from (HR.out V4 hS4.out) HN.out.1 HN.out.2.1 HOF.out
            refine step_append_g (by rfl) (.tmp 10) (.tmp 15) 28 rfl _ 75 i0 z 4 A.heap.size Try.underlying28 HI0.out.1 HI0.out.2.1 HI0.out.2.2.1 HI0.out.2.2.2.1 HI0.out.2.2.2.2 (by omega) _ (0 + k) ([] ++ cs.take (k * 4)) ho4.out (some ⟨g, o1, none⟩) (n - (k + 1)) (c - (k + 1)) (cs.drop ((k + 1) * 4)) rfl rfl hd5 hS4.out.size (by have := HN.out; omega) ?_
            intro v5 V5 ho5 hg5 hp5
            have hw5 : Below A.heap.size V4 V5 := grown_below ho4.out hg5.out hS4.out.size
            have hS5 : Hid (Keep (fun j => j = b2) A V5) := keepB hS4.out hw5
            have hX5 : Hid (Blk V5 b2 30 [uv, ov, .slice (some ⟨g, 0, none⟩) n c]) := ((hw5).block b2 HL.out).trans hX4.out
            clear hd5 hw5 hg5 hp5
            refine hK1.out _ _ hS5.out ?_
            clear hK1
            intro _
            try simp only [Act.put, List.setIfInBounds_toArray, List.set_cons_zero, List.set_cons_succ]
            refine wpAnyH_take (i := 12) (oi := { dst := some 17, op := Op.fieldAddr 30 (Operand.tmp 2) 2, type := 0, pos := "ref.go:57", after := #[{ on := 0, ground := Ground.phase }, { on := 1, ground := Ground.phase }, { on := 2, ground := Ground.phase }, { on := 3, ground := Ground.phase }, { on := 4, ground := Ground.phase }, { on := 5, ground := Ground.phase }, { on := 6, ground := Ground.phase }, { on := 7, ground := Ground.phase }, { on := 8, ground := Ground.phase }, { on := 9, ground := Ground.phase }, { on := 10, ground := Ground.phase }, { on := 11, ground := Ground.phase }], guard := none }) (v := .pointer (some ⟨b2, 2, none⟩)) rfl (by kernel_rfl) (by kernel_rfl) (by kernel_rfl) (fun _ _ _ h => h.elim) (Or.inl ⟨by rfl, ?y25⟩) hS5.out ?_
            case y25 =>
              intro V hV
              go_simp
            simp only [Act.put, List.setIfInBounds_toArray, List.set_cons_zero, List.set_cons_succ]
            refine wpAnyH_ready (rs := [13]) (by kernel_rfl) (by simp) (AllReadyH.cons (i := 13) (o := { dst := none, op := Op.store 28 (Operand.tmp 17) (Operand.tmp 16), type := 0, pos := "ref.go:57", after := #[{ on := 12, ground := Ground.data }, { on := 11, ground := Ground.data }, { on := 11, ground := Ground.chain }, { on := 0, ground := Ground.phase }, { on := 1, ground := Ground.phase }, { on := 2, ground := Ground.phase }, { on := 3, ground := Ground.phase }, { on := 4, ground := Ground.phase }, { on := 5, ground := Ground.phase }, { on := 6, ground := Ground.phase }, { on := 7, ground := Ground.phase }, { on := 8, ground := Ground.phase }, { on := 9, ground := Ground.phase }, { on := 10, ground := Ground.phase }, { on := 11, ground := Ground.phase }], guard := none }) rfl ?_ AllReadyH.nil)
            · intro K1 hK1
              refine step_st (by rfl) 28 (.tmp 17) (.tmp 16) rfl b2 2 v5 30 _ rfl rfl hX5.out (by simp) (by kernel_rfl) (own_slice ho5.out).1 (own_slice ho5.out).2 ?_
              obtain ⟨V6, hv6⟩ : ∃ V, V5.setCell ⟨b2, 2, none⟩ v5 = V := ⟨_, rfl⟩
              have hg6 : V5.grownBy V6 (some b2) := by rw [← hv6]; exact grown_setCell _ _ _ _
              have hS6 : Hid (Keep (fun j => j = b2) A V6) := hS5.out.trans (Keep.grown (S := fun j => j = b2) hg6 rfl) (fun _ hj _ => hj)
              have hX6 : Hid (Blk V6 b2 30 [uv, ov, v5]) := by rw [← hv6]; exact hX5.out.set 2 v5
              have hO6 : Hid (V6.ownsRow A.heap.size 75 4 v5 (0 + k + (n - (k + 1))) ([] ++ cs.take (k * 4) ++ cs.drop ((k + 1) * 4))) := own_same ho5.out (fun g h1 h2 => hg6.block g h2 (fun e => by cases e; have := HL.out; omega))
              rw [hv6]
              clear hv6 hg6
              refine hK1.out _ _ hS6.out ?_
              clear hK1
              intro _
              try simp only [Act.put, List.setIfInBounds_toArray, List.set_cons_zero, List.set_cons_succ]
              refine wpAnyH_done (by kernel_rfl) ?_ _
              exact hQ V6 _ _ _ hO6.out hX6.out hS6.out
#print axioms rwo1
theorem rx_one {V : World} {nb : Nat} {f : Fc} (h : Blk V nb 75 f.cells) : Rx V (some ⟨nb, 0, none⟩) 1 4 f.cells := by
  refine ⟨rfl, fun u hu => ?_, fun _ => ⟨nb, 0, rfl, fun j u hu => by rw [Nat.zero_add]; exact h.cell hu⟩⟩
  simp [Fc.cells] at hu
  rcases hu with rfl | rfl | rfl | rfl <;> rfl
set_option maxRecDepth 100000 in
set_option maxHeartbeats 4000000 in
theorem rwi1 {Q : Exit → Act → World → Prop} {x0 x1 x4 x5 x6 x7 x8 x9 x10 x11 x12 x13 : Value} {ds : List Deferred} {A : World} {b2 b3 n c : Nat} {fa : Option Addr} {cs : List Value} {f : Fc} {uv ov : Value} {i0 : TypeInfo} {z : Value}
    (HL : Hid (b2 < A.heap.size)) (HX : Hid (Blk A b2 30 [uv, ov, .slice fa n c])) (HR : Hid (∀ V, Keep (fun j => j = b2) A V → Rx V fa n 4 cs)) (HN : Hid (n ≤ 100000)) (HI0 : Hid (Try.prog.info? 75 = some i0 ∧ i0.zero = some z ∧ i0.size = 4 ∧ i0.bytes ≤ 1000 ∧ z.cells.size = 4)) (HF3 : Hid (A.rangeAt b3 0 f.cells ∧ b3 < A.heap.size ∧ ¬ (b3 = b2)))
    (hQ : ∀ V1 v1 v2 q nb, V1.ownsRow A.heap.size 75 4 v2 (0 + n + 1) ([] ++ cs ++ f.cells) → Blk V1 b2 30 [uv, ov, v2] → Keep (fun j => j = b2) A V1 → Q .normal { tmps := #[x0, x1, .pointer (some ⟨b2, 0, none⟩), .pointer (some ⟨b3, 0, none⟩), x4, .slice (some ⟨q, 0, none⟩) 0 0, .pointer (some ⟨b2, 2, none⟩), .slice fa n c, v1, .agg f.cells.toArray, .slice (some ⟨nb, 0, none⟩) 1 1, v2, .pointer (some ⟨b2, 2, none⟩), x13], defers := ds } V1) :
    (Code.region 1 #[{ dst := some 5, op := Op.buildSlice 28 0 #[], type := 28, pos := "ref.go:62", after := #[], guard := none }, { dst := some 6, op := Op.fieldAddr 30 (Operand.tmp 2) 2, type := 0, pos := "ref.go:62", after := #[], guard := none }, { dst := some 7, op := Op.load 28 (Operand.tmp 6), type := 28, pos := "ref.go:62", after := #[{ on := 1, ground := Ground.data }], guard := none }, { dst := some 8, op := Op.call { callee := Callee.builtin Builtin.append, args := #[Operand.tmp 5, Operand.tmp 7], argTypes := #[28, 28] }, type := 28, pos := "ref.go:62", after := #[{ on := 0, ground := Ground.data }, { on := 2, ground := Ground.data }], guard := none }, { dst := some 9, op := Op.load 75 (Operand.tmp 3), type := 75, pos := "ref.go:62", after := #[], guard := none }, { dst := some 10, op := Op.buildSlice 28 1 #[(0, Operand.tmp 9)], type := 28, pos := "ref.go:62", after := #[{ on := 4, ground := Ground.data }], guard := none }, { dst := some 11, op := Op.call { callee := Callee.builtin Builtin.append, args := #[Operand.tmp 8, Operand.tmp 10], argTypes := #[28, 28] }, type := 28, pos := "ref.go:62", after := #[{ on := 3, ground := Ground.data }, { on := 5, ground := Ground.data }, { on := 3, ground := Ground.chain }], guard := none }, { dst := some 12, op := Op.fieldAddr 30 (Operand.tmp 2) 2, type := 0, pos := "ref.go:62", after := #[{ on := 0, ground := Ground.phase }, { on := 1, ground := Ground.phase }, { on := 2, ground := Ground.phase }, { on := 3, ground := Ground.phase }, { on := 4, ground := Ground.phase }, { on := 5, ground := Ground.phase }, { on := 6, ground := Ground.phase }], guard := none }, { dst := none, op := Op.store 28 (Operand.tmp 12) (Operand.tmp 11), type := 0, pos := "ref.go:62", after := #[{ on := 7, ground := Ground.data }, { on := 6, ground := Ground.data }, { on := 6, ground := Ground.chain }, { on := 0, ground := Ground.phase }, { on := 1, ground := Ground.phase }, { on := 2, ground := Ground.phase }, { on := 3, ground := Ground.phase }, { on := 4, ground := Ground.phase }, { on := 5, ground := Ground.phase }, { on := 6, ground := Ground.phase }], guard := none }] true).wp Try.prog Q { tmps := #[x0, x1, .pointer (some ⟨b2, 0, none⟩), .pointer (some ⟨b3, 0, none⟩), x4, x5, x6, x7, x8, x9, x10, x11, x12, x13], defers := ds } A := by
  refine Code.wp_mono (Q := fun x a' w' => match x with | .normal => Q .normal a' w' | _ => False) (by intro x a' w' h; cases x <;> first | exact h | exact h.elim) ?_
  refine wp_region_held (S := fun V => Keep (fun j => j = b2) A V) (by kernel_rfl) ?_
  have hS0 : Hid (Keep (fun j => j = b2) A A.drew) := (Keep.refl _ A).drew
  change wpAnyH Try.prog .any _ _ (fun V => Keep (fun j => j = b2) A V) 9 (Array.replicate 9 false) _ A.drew
  obtain ⟨V0, hV0⟩ : ∃ V0, A.drew = V0 := ⟨_, rfl⟩
  rw [hV0]
  rw [hV0] at hS0
  have hX0 : Hid (Blk V0 b2 30 [uv, ov, .slice fa n c]) := by rw [← hV0]; exact HX.out
  clear hV0
  refine wpAnyH_take (i := 1) (oi := { dst := some 6, op := Op.fieldAddr 30 (Operand.tmp 2) 2, type := 0, pos := "ref.go:62", after := #[], guard := none }) (v := .pointer (some ⟨b2, 2, none⟩)) rfl (by kernel_rfl) (by kernel_rfl) (by kernel_rfl) (fun _ _ _ h => h.elim) (Or.inl ⟨by rfl, ?y1⟩) hS0.out ?_
  case y1 =>
    intro V hV
    go_simp
  simp only [Act.put, List.setIfInBounds_toArray, List.set_cons_zero, List.set_cons_succ]
  refine wpAnyH_take (i := 4) (oi := { dst := some 9, op := Op.load 75 (Operand.tmp 3), type := 75, pos := "ref.go:62", after := #[], guard := none }) (v := .agg f.cells.toArray) rfl (by kernel_rfl) (by kernel_rfl) (by kernel_rfl) (fun _ _ _ h => h.elim) (yieldsIf_load_mid (by rfl) _ _ rfl _ _ rfl (f.cells) _ (fun V hV => rangeAt_same (HF3.out.1) ((show Keep (fun j => j = b2) A V from hV).block _ (HF3.out.2.1) (HF3.out.2.2))) Try.underlying75 rfl ((by kernel_rfl))) hS0.out ?_
  simp only [Act.put, List.setIfInBounds_toArray, List.set_cons_zero, List.set_cons_succ]
  refine wpAnyH_ready (rs := [0, 2, 5]) (by kernel_rfl) (by simp) (AllReadyH.cons (i := 0) (o := { dst := some 5, op := Op.buildSlice 28 0 #[], type := 28, pos := "ref.go:62", after := #[], guard := none }) rfl ?_ (AllReadyH.cons (i := 2) (o := { dst := some 7, op := Op.load 28 (Operand.tmp 6), type := 28, pos := "ref.go:62", after := #[{ on := 1, ground := Ground.data }], guard := none }) rfl ?_ (AllReadyH.cons (i := 5) (o := { dst := some 10, op := Op.buildSlice 28 1 #[(0, Operand.tmp 9)], type := 28, pos := "ref.go:62", after := #[{ on := 4, ground := Ground.data }], guard := none }) rfl ?_ AllReadyH.nil)))
  · intro K1 hK1
    refine step_bs0 (by rfl) 28 rfl (run_bs28_0 _) ?_
    have hr1 : V0.heap.size ≥ A.heap.size := hS0.out.size
    obtain ⟨V1, hv1⟩ : ∃ V, V0.alloc (.cells #[] 75) = V := ⟨_, rfl⟩
    have hl1 : Below V0.heap.size V0 V1 := by rw [← hv1]; exact below_al _ _
    have hw1 : Below A.heap.size V0 V1 := hl1.mono hr1
    have hO1 : Hid (V1.ownsRow A.heap.size 75 4 (.slice (some ⟨V0.heap.size, 0, none⟩) 0 0) 0 []) := by rw [← hv1]; exact ownsRow_base (empty_row V0 75 4) hr1
    have hS1 : Hid (Keep (fun j => j = b2) A V1) := keepB hS0.out hw1
    have hX1 : Hid (Blk V1 b2 30 [uv, ov, .slice fa n c]) := ((hw1).block b2 HL.out).trans hX0.out
    obtain ⟨q1, hq1⟩ : ∃ m, V0.heap.size = m := ⟨_, rfl⟩
    rw [hq1] at hO1
    rw [hv1, hq1]
    clear hv1 hq1 hw1 hr1 hl1
    refine hK1.out _ _ hS1.out ?_
    clear hK1
    intro _
    try simp only [Act.put, List.setIfInBounds_toArray, List.set_cons_zero, List.set_cons_succ]
    refine wpAnyH_ready (rs := [2, 5]) (by kernel_rfl) (by simp) (AllReadyH.cons (i := 2) (o := { dst := some 7, op := Op.load 28 (Operand.tmp 6), type := 28, pos := "ref.go:62", after := #[{ on := 1, ground := Ground.data }], guard := none }) rfl ?_ (AllReadyH.cons (i := 5) (o := { dst := some 10, op := Op.buildSlice 28 1 #[(0, Operand.tmp 9)], type := 28, pos := "ref.go:62", after := #[{ on := 4, ground := Ground.data }], guard := none }) rfl ?_ AllReadyH.nil))
    · intro K1 hK1
      rw [if_pos (by rfl)]
      have hc : V1.cell? ⟨b2, 2, none⟩ = some (.slice fa n c) := hX1.out.cell rfl
      go_wp2
      clear hc
      refine hK1.out _ _ hS1.out ?_
      clear hK1
      intro _
      try simp only [Act.put, List.setIfInBounds_toArray, List.set_cons_zero, List.set_cons_succ]
      refine wpAnyH_ready (rs := [3, 5]) (by kernel_rfl) (by simp) (AllReadyH.cons (i := 3) (o := { dst := some 8, op := Op.call { callee := Callee.builtin Builtin.append, args := #[Operand.tmp 5, Operand.tmp 7], argTypes := #[28, 28] }, type := 28, pos := "ref.go:62", after := #[{ on := 0, ground := Ground.data }, { on := 2, ground := Ground.data }], guard := none }) rfl ?_ (AllReadyH.cons (i := 5) (o := { dst := some 10, op := Op.buildSlice 28 1 #[(0, Operand.tmp 9)], type := 28, pos := "ref.go:62", after := #[{ on := 4, ground := Ground.data }], guard := none }) rfl ?_ AllReadyH.nil))
      · intro K1 hK1
        have hd3 := HR.out V1 hS1.out
        refine step_append_g (by rfl) (.tmp 5) (.tmp 7) 28 rfl _ 75 i0 z 4 A.heap.size Try.underlying28 HI0.out.1 HI0.out.2.1 HI0.out.2.2.1 HI0.out.2.2.2.1 HI0.out.2.2.2.2 (by omega) _ 0 [] hO1.out fa (n) c cs rfl rfl hd3 hS1.out.size (by have := HN.out; omega) ?_
        intro v3 V3 ho3 hg3 hp3
        have hw3 : Below A.heap.size V1 V3 := grown_below hO1.out hg3.out hS1.out.size
        have hS3 : Hid (Keep (fun j => j = b2) A V3) := keepB hS1.out hw3
        have hX3 : Hid (Blk V3 b2 30 [uv, ov, .slice fa n c]) := ((hw3).block b2 HL.out).trans hX1.out
        clear hd3 hw3 hg3 hp3
        refine hK1.out _ _ hS3.out ?_
        clear hK1
        intro _
        try simp only [Act.put, List.setIfInBounds_toArray, List.set_cons_zero, List.set_cons_succ]
        refine wpAnyH_ready (rs := [5]) (by kernel_rfl) (by simp) (AllReadyH.cons (i := 5) (o := { dst := some 10, op := Op.buildSlice 28 1 #[(0, Operand.tmp 9)], type := 28, pos := "ref.go:62", after := #[{ on := 4, ground := Ground.data }], guard := none }) rfl ?_ AllReadyH.nil)
        · intro K1 hK1
          refine step_bs (by rfl) 28 (.tmp 9) _ rfl rfl (run_bs28 f _) ?_
          have hr4 : V3.heap.size ≥ A.heap.size := hS3.out.size
          obtain ⟨V4, hv4⟩ : ∃ V, V3.alloc (.cells f.cells.toArray 75) = V := ⟨_, rfl⟩
          have hl4 : Below V3.heap.size V3 V4 := by rw [← hv4]; exact below_al _ _
          have hw4 : Below A.heap.size V3 V4 := hl4.mono hr4
          have hS4 : Hid (Keep (fun j => j = b2) A V4) := keepB hS3.out hw4
          have hX4 : Hid (Blk V4 b2 30 [uv, ov, .slice fa n c]) := ((hw4).block b2 HL.out).trans hX3.out
          obtain ⟨nb, hnb⟩ : ∃ m, V3.heap.size = m := ⟨_, rfl⟩
          have hM4 : Hid (Blk V4 nb 75 f.cells) := by show Blk _ _ _ _; rw [← hv4, ← hnb]; simpa using Blk.new V3 f.cells.toArray 75
          have hO4 : Hid (V4.ownsRow A.heap.size 75 4 v3 (0 + n) ([] ++ cs)) := ownsRow_below ho3.out hl4
          have hN4 : Hid (Blk V4 nb 75 f.cells ∧ v3.ownBlock ≠ some nb) := ⟨hM4.out, fun e => by have h1 := (ho3.out.lt _ e).2; omega⟩
          rw [hv4, hnb]
          clear hv4 hnb hw4 hr4 hl4
          refine hK1.out _ _ hS4.out ?_
          clear hK1
          intro _
          try simp only [Act.put, List.setIfInBounds_toArray, List.set_cons_zero, List.set_cons_succ]
          refine wpAnyH_ready (rs := [6]) (by kernel_rfl) (by simp) (AllReadyH.cons (i := 6) (o := { dst := some 11, op := Op.call { callee := Callee.builtin Builtin.append, args := #[Operand.tmp 8, Operand.tmp 10], argTypes := #[28, 28] }, type := 28, pos := "ref.go:62", after := #[{ on := 3, ground := Ground.data }, { on := 5, ground := Ground.data }, { on := 3, ground := Ground.chain }], guard := none }) rfl ?_ AllReadyH.nil)
          · intro K1 hK1
            have hd5 := rx_one hN4.out.1
            refine step_append_g (by rfl) (.tmp 8) (.tmp 10) 28 rfl _ 75 i0 z 4 A.heap.size Try.underlying28 HI0.out.1 HI0.out.2.1 HI0.out.2.2.1 HI0.out.2.2.2.1 HI0.out.2.2.2.2 (by omega) _ (0 + n) ([] ++ cs) hO4.out (some ⟨nb, 0, none⟩) (1) 1 f.cells rfl rfl hd5 hS4.out.size (by have := HN.out; omega) ?_
            intro v5 V5 ho5 hg5 hp5
            have hw5 : Below A.heap.size V4 V5 := grown_below hO4.out hg5.out hS4.out.size
            have hS5 : Hid (Keep (fun j => j = b2) A V5) := keepB hS4.out hw5
            have hX5 : Hid (Blk V5 b2 30 [uv, ov, .slice fa n c]) := ((hw5).block b2 HL.out).trans hX4.out
            clear hd5 hw5 hg5 hp5
            refine hK1.out _ _ hS5.out ?_
            clear hK1
            intro _
            try simp only [Act.put, List.setIfInBounds_toArray, List.set_cons_zero, List.set_cons_succ]
            refine wpAnyH_take (i := 7) (oi := { dst := some 12, op := Op.fieldAddr 30 (Operand.tmp 2) 2, type := 0, pos := "ref.go:62", after := #[{ on := 0, ground := Ground.phase }, { on := 1, ground := Ground.phase }, { on := 2, ground := Ground.phase }, { on := 3, ground := Ground.phase }, { on := 4, ground := Ground.phase }, { on := 5, ground := Ground.phase }, { on := 6, ground := Ground.phase }], guard := none }) (v := .pointer (some ⟨b2, 2, none⟩)) rfl (by kernel_rfl) (by kernel_rfl) (by kernel_rfl) (fun _ _ _ h => h.elim) (Or.inl ⟨by rfl, ?y2⟩) hS5.out ?_
            case y2 =>
              intro V hV
              go_simp
            simp only [Act.put, List.setIfInBounds_toArray, List.set_cons_zero, List.set_cons_succ]
            refine wpAnyH_ready (rs := [8]) (by kernel_rfl) (by simp) (AllReadyH.cons (i := 8) (o := { dst := none, op := Op.store 28 (Operand.tmp 12) (Operand.tmp 11), type := 0, pos := "ref.go:62", after := #[{ on := 7, ground := Ground.data }, { on := 6, ground := Ground.data }, { on := 6, ground := Ground.chain }, { on := 0, ground := Ground.phase }, { on := 1, ground := Ground.phase }, { on := 2, ground := Ground.phase }, { on := 3, ground := Ground.phase }, { on := 4, ground := Ground.phase }, { on := 5, ground := Ground.phase }, { on := 6, ground := Ground.phase }], guard := none }) rfl ?_ AllReadyH.nil)
            · intro K1 hK1
              refine step_st (by rfl) 28 (.tmp 12) (.tmp 11) rfl b2 2 v5 30 _ rfl rfl hX5.out (by simp) (by kernel_rfl) (own_slice ho5.out).1 (own_slice ho5.out).2 ?_
              obtain ⟨V6, hv6⟩ : ∃ V, V5.setCell ⟨b2, 2, none⟩ v5 = V := ⟨_, rfl⟩
              have hg6 : V5.grownBy V6 (some b2) := by rw [← hv6]; exact grown_setCell _ _ _ _
              have hS6 : Hid (Keep (fun j => j = b2) A V6) := hS5.out.trans (Keep.grown (S := fun j => j = b2) hg6 rfl) (fun _ hj _ => hj)
              have hX6 : Hid (Blk V6 b2 30 [uv, ov, v5]) := by rw [← hv6]; exact hX5.out.set 2 v5
              have hO6 : Hid (V6.ownsRow A.heap.size 75 4 v5 (0 + n + 1) ([] ++ cs ++ f.cells)) := own_same ho5.out (fun g h1 h2 => hg6.block g h2 (fun e => by cases e; have := HL.out; omega))
              rw [hv6]
              clear hv6 hg6
              refine hK1.out _ _ hS6.out ?_
              clear hK1
              intro _
              try simp only [Act.put, List.setIfInBounds_toArray, List.set_cons_zero, List.set_cons_succ]
              refine wpAnyH_done (by kernel_rfl) ?_ _
              exact hQ V6 _ _ _ _ hO6.out hX6.out hS6.out
      · intro K1 hK1
        refine step_bs (by rfl) 28 (.tmp 9) _ rfl rfl (run_bs28 f _) ?_
        have hr3 : V1.heap.size ≥ A.heap.size := hS1.out.size
        obtain ⟨V3, hv3⟩ : ∃ V, V1.alloc (.cells f.cells.toArray 75) = V := ⟨_, rfl⟩
        have hl3 : Below V1.heap.size V1 V3 := by rw [← hv3]; exact below_al _ _
        have hw3 : Below A.heap.size V1 V3 := hl3.mono hr3
        have hS3 : Hid (Keep (fun j => j = b2) A V3) := keepB hS1.out hw3
        have hX3 : Hid (Blk V3 b2 30 [uv, ov, .slice fa n c]) := ((hw3).block b2 HL.out).trans hX1.out
        obtain ⟨nb, hnb⟩ : ∃ m, V1.heap.size = m := ⟨_, rfl⟩
        have hM3 : Hid (Blk V3 nb 75 f.cells) := by show Blk _ _ _ _; rw [← hv3, ← hnb]; simpa using Blk.new V1 f.cells.toArray 75
        have hO3 : Hid (V3.ownsRow A.heap.size 75 4 (.slice (some ⟨q1, 0, none⟩) 0 0) 0 []) := ownsRow_below hO1.out hl3
        have hN3 : Hid (Blk V3 nb 75 f.cells ∧ (Value.slice (some ⟨q1, 0, none⟩) 0 0).ownBlock ≠ some nb) := ⟨hM3.out, fun e => by have h1 := (hO1.out.lt _ e).2; omega⟩
        rw [hv3, hnb]
        clear hv3 hnb hw3 hr3 hl3
        refine hK1.out _ _ hS3.out ?_
        clear hK1
        intro _
        try simp only [Act.put, List.setIfInBounds_toArray, List.set_cons_zero, List.set_cons_succ]
        refine wpAnyH_ready (rs := [3]) (by kernel_rfl) (by simp) (AllReadyH.cons (i := 3) (o := { dst := some 8, op := Op.call { callee := Callee.builtin Builtin.append, args := #[Operand.tmp 5, Operand.tmp 7], argTypes := #[28, 28] }, type := 28, pos := "ref.go:62", after := #[{ on := 0, ground := Ground.data }, { on := 2, ground := Ground.data }], guard := none }) rfl ?_ AllReadyH.nil)
        · intro K1 hK1
          have hd4 := HR.out V3 hS3.out
          refine step_append_g (by rfl) (.tmp 5) (.tmp 7) 28 rfl _ 75 i0 z 4 A.heap.size Try.underlying28 HI0.out.1 HI0.out.2.1 HI0.out.2.2.1 HI0.out.2.2.2.1 HI0.out.2.2.2.2 (by omega) _ 0 [] hO3.out fa (n) c cs rfl rfl hd4 hS3.out.size (by have := HN.out; omega) ?_
          intro v4 V4 ho4 hg4 hp4
          have hw4 : Below A.heap.size V3 V4 := grown_below hO3.out hg4.out hS3.out.size
          have hS4 : Hid (Keep (fun j => j = b2) A V4) := keepB hS3.out hw4
          have hX4 : Hid (Blk V4 b2 30 [uv, ov, .slice fa n c]) := ((hw4).block b2 HL.out).trans hX3.out
          have hN4 : Hid (Blk V4 nb 75 f.cells ∧ v4.ownBlock ≠ some nb) := ⟨hN3.out.1.kept hg4.out (fun e => hN3.out.2 e.symm), fun e => by
            rcases hp4.out with e2 | e2
            · exact hN3.out.2 (by rw [← e2]; exact e)
            · have h1 := hN3.out.1.lt
              rw [e2] at e
              cases e
              omega⟩
          clear hd4 hw4 hg4 hp4
          refine hK1.out _ _ hS4.out ?_
          clear hK1
          intro _
          try simp only [Act.put, List.setIfInBounds_toArray, List.set_cons_zero, List.set_cons_succ]
          refine wpAnyH_ready (rs := [6]) (by kernel_rfl) (by simp) (AllReadyH.cons (i := 6) (o := { dst := some 11, op := Op.call { callee := Callee.builtin Builtin.append, args := #[Operand.tmp 8, Operand.tmp 10], argTypes := #[28, 28] }, type := 28, pos := "ref.go:62", after := #[{ on := 3, ground := Ground.data }, { on := 5, ground := Ground.data }, { on := 3, ground := Ground.chain }], guard := none }) rfl ?_ AllReadyH.nil)
          · intro K1 hK1
            have hd5 := rx_one hN4.out.1
            refine step_append_g (by rfl) (.tmp 8) (.tmp 10) 28 rfl _ 75 i0 z 4 A.heap.size Try.underlying28 HI0.out.1 HI0.out.2.1 HI0.out.2.2.1 HI0.out.2.2.2.1 HI0.out.2.2.2.2 (by omega) _ (0 + n) ([] ++ cs) ho4.out (some ⟨nb, 0, none⟩) (1) 1 f.cells rfl rfl hd5 hS4.out.size (by have := HN.out; omega) ?_
            intro v5 V5 ho5 hg5 hp5
            have hw5 : Below A.heap.size V4 V5 := grown_below ho4.out hg5.out hS4.out.size
            have hS5 : Hid (Keep (fun j => j = b2) A V5) := keepB hS4.out hw5
            have hX5 : Hid (Blk V5 b2 30 [uv, ov, .slice fa n c]) := ((hw5).block b2 HL.out).trans hX4.out
            clear hd5 hw5 hg5 hp5
            refine hK1.out _ _ hS5.out ?_
            clear hK1
            intro _
            try simp only [Act.put, List.setIfInBounds_toArray, List.set_cons_zero, List.set_cons_succ]
            refine wpAnyH_take (i := 7) (oi := { dst := some 12, op := Op.fieldAddr 30 (Operand.tmp 2) 2, type := 0, pos := "ref.go:62", after := #[{ on := 0, ground := Ground.phase }, { on := 1, ground := Ground.phase }, { on := 2, ground := Ground.phase }, { on := 3, ground := Ground.phase }, { on := 4, ground := Ground.phase }, { on := 5, ground := Ground.phase }, { on := 6, ground := Ground.phase }], guard := none }) (v := .pointer (some ⟨b2, 2, none⟩)) rfl (by kernel_rfl) (by kernel_rfl) (by kernel_rfl) (fun _ _ _ h => h.elim) (Or.inl ⟨by rfl, ?y3⟩) hS5.out ?_
            case y3 =>
              intro V hV
              go_simp
            simp only [Act.put, List.setIfInBounds_toArray, List.set_cons_zero, List.set_cons_succ]
            refine wpAnyH_ready (rs := [8]) (by kernel_rfl) (by simp) (AllReadyH.cons (i := 8) (o := { dst := none, op := Op.store 28 (Operand.tmp 12) (Operand.tmp 11), type := 0, pos := "ref.go:62", after := #[{ on := 7, ground := Ground.data }, { on := 6, ground := Ground.data }, { on := 6, ground := Ground.chain }, { on := 0, ground := Ground.phase }, { on := 1, ground := Ground.phase }, { on := 2, ground := Ground.phase }, { on := 3, ground := Ground.phase }, { on := 4, ground := Ground.phase }, { on := 5, ground := Ground.phase }, { on := 6, ground := Ground.phase }], guard := none }) rfl ?_ AllReadyH.nil)
            · intro K1 hK1
              refine step_st (by rfl) 28 (.tmp 12) (.tmp 11) rfl b2 2 v5 30 _ rfl rfl hX5.out (by simp) (by kernel_rfl) (own_slice ho5.out).1 (own_slice ho5.out).2 ?_
              obtain ⟨V6, hv6⟩ : ∃ V, V5.setCell ⟨b2, 2, none⟩ v5 = V := ⟨_, rfl⟩
              have hg6 : V5.grownBy V6 (some b2) := by rw [← hv6]; exact grown_setCell _ _ _ _
              have hS6 : Hid (Keep (fun j => j = b2) A V6) := hS5.out.trans (Keep.grown (S := fun j => j = b2) hg6 rfl) (fun _ hj _ => hj)
              have hX6 : Hid (Blk V6 b2 30 [uv, ov, v5]) := by rw [← hv6]; exact hX5.out.set 2 v5
              have hO6 : Hid (V6.ownsRow A.heap.size 75 4 v5 (0 + n + 1) ([] ++ cs ++ f.cells)) := own_same ho5.out (fun g h1 h2 => hg6.block g h2 (fun e => by cases e; have := HL.out; omega))
              rw [hv6]
              clear hv6 hg6
              refine hK1.out _ _ hS6.out ?_
              clear hK1
              intro _
              try simp only [Act.put, List.setIfInBounds_toArray, List.set_cons_zero, List.set_cons_succ]
              refine wpAnyH_done (by kernel_rfl) ?_ _
              exact hQ V6 _ _ _ _ hO6.out hX6.out hS6.out
    · intro K1 hK1
      refine step_bs (by rfl) 28 (.tmp 9) _ rfl rfl (run_bs28 f _) ?_
      have hr2 : V1.heap.size ≥ A.heap.size := hS1.out.size
      obtain ⟨V2, hv2⟩ : ∃ V, V1.alloc (.cells f.cells.toArray 75) = V := ⟨_, rfl⟩
      have hl2 : Below V1.heap.size V1 V2 := by rw [← hv2]; exact below_al _ _
      have hw2 : Below A.heap.size V1 V2 := hl2.mono hr2
      have hS2 : Hid (Keep (fun j => j = b2) A V2) := keepB hS1.out hw2
      have hX2 : Hid (Blk V2 b2 30 [uv, ov, .slice fa n c]) := ((hw2).block b2 HL.out).trans hX1.out
      obtain ⟨nb, hnb⟩ : ∃ m, V1.heap.size = m := ⟨_, rfl⟩
      have hM2 : Hid (Blk V2 nb 75 f.cells) := by show Blk _ _ _ _; rw [← hv2, ← hnb]; simpa using Blk.new V1 f.cells.toArray 75
      have hO2 : Hid (V2.ownsRow A.heap.size 75 4 (.slice (some ⟨q1, 0, none⟩) 0 0) 0 []) := ownsRow_below hO1.out hl2
      have hN2 : Hid (Blk V2 nb 75 f.cells ∧ (Value.slice (some ⟨q1, 0, none⟩) 0 0).ownBlock ≠ some nb) := ⟨hM2.out, fun e => by have h1 := (hO1.out.lt _ e).2; omega⟩
      rw [hv2, hnb]
      clear hv2 hnb hw2 hr2 hl2
      refine hK1.out _ _ hS2.out ?_
      clear hK1
      intro _
      try simp only [Act.put, List.setIfInBounds_toArray, List.set_cons_zero, List.set_cons_succ]
      refine wpAnyH_ready (rs := [2]) (by kernel_rfl) (by simp) (AllReadyH.cons (i := 2) (o := { dst := some 7, op := Op.load 28 (Operand.tmp 6), type := 28, pos := "ref.go:62", after := #[{ on := 1, ground := Ground.data }], guard := none }) rfl ?_ AllReadyH.nil)
      · intro K1 hK1
        rw [if_pos (by rfl)]
        have hc : V2.cell? ⟨b2, 2, none⟩ = some (.slice fa n c) := hX2.out.cell rfl
        go_wp2
        clear hc
        refine hK1.out _ _ hS2.out ?_
        clear hK1
        intro _
        try simp only [Act.put, List.setIfInBounds_toArray, List.set_cons_zero, List.set_cons_succ]
        refine wpAnyH_ready (rs := [3]) (by kernel_rfl) (by simp) (AllReadyH.cons (i := 3) (o := { dst := some 8, op := Op.call { callee := Callee.builtin Builtin.append, args := #[Operand.tmp 5, Operand.tmp 7], argTypes := #[28, 28] }, type := 28, pos := "ref.go:62", after := #[{ on := 0, ground := Ground.data }, { on := 2, ground := Ground.data }], guard := none }) rfl ?_ AllReadyH.nil)
        · intro K1 hK1
          have hd4 := HR.out V2 hS2.out
          refine step_append_g (by rfl) (.tmp 5) (.tmp 7) 28 rfl _ 75 i0 z 4 A.heap.size Try.underlying28 HI0.out.1 HI0.out.2.1 HI0.out.2.2.1 HI0.out.2.2.2.1 HI0.out.2.2.2.2 (by omega) _ 0 [] hO2.out fa (n) c cs rfl rfl hd4 hS2.out.size (by have := HN.out; omega) ?_
          intro v4 V4 ho4 hg4 hp4
          have hw4 : Below A.heap.size V2 V4 := grown_below hO2.out hg4.out hS2.out.size
          have hS4 : Hid (Keep (fun j => j = b2) A V4) := keepB hS2.out hw4
          have hX4 : Hid (Blk V4 b2 30 [uv, ov, .slice fa n c]) := ((hw4).block b2 HL.out).trans hX2.out
          have hN4 : Hid (Blk V4 nb 75 f.cells ∧ v4.ownBlock ≠ some nb) := ⟨hN2.out.1.kept hg4.out (fun e => hN2.out.2 e.symm), fun e => by
            rcases hp4.out with e2 | e2
            · exact hN2.out.2 (by rw [← e2]; exact e)
            · have h1 := hN2.out.1.lt
              rw [e2] at e
              cases e
              omega⟩
          clear hd4 hw4 hg4 hp4
          refine hK1.out _ _ hS4.out ?_
          clear hK1
          intro _
          try simp only [Act.put, List.setIfInBounds_toArray, List.set_cons_zero, List.set_cons_succ]
          refine wpAnyH_ready (rs := [6]) (by kernel_rfl) (by simp) (AllReadyH.cons (i := 6) (o := { dst := some 11, op := Op.call { callee := Callee.builtin Builtin.append, args := #[Operand.tmp 8, Operand.tmp 10], argTypes := #[28, 28] }, type := 28, pos := "ref.go:62", after := #[{ on := 3, ground := Ground.data }, { on := 5, ground := Ground.data }, { on := 3, ground := Ground.chain }], guard := none }) rfl ?_ AllReadyH.nil)
          · intro K1 hK1
            have hd5 := rx_one hN4.out.1
            refine step_append_g (by rfl) (.tmp 8) (.tmp 10) 28 rfl _ 75 i0 z 4 A.heap.size Try.underlying28 HI0.out.1 HI0.out.2.1 HI0.out.2.2.1 HI0.out.2.2.2.1 HI0.out.2.2.2.2 (by omega) _ (0 + n) ([] ++ cs) ho4.out (some ⟨nb, 0, none⟩) (1) 1 f.cells rfl rfl hd5 hS4.out.size (by have := HN.out; omega) ?_
            intro v5 V5 ho5 hg5 hp5
            have hw5 : Below A.heap.size V4 V5 := grown_below ho4.out hg5.out hS4.out.size
            have hS5 : Hid (Keep (fun j => j = b2) A V5) := keepB hS4.out hw5
            have hX5 : Hid (Blk V5 b2 30 [uv, ov, .slice fa n c]) := ((hw5).block b2 HL.out).trans hX4.out
            clear hd5 hw5 hg5 hp5
            refine hK1.out _ _ hS5.out ?_
            clear hK1
            intro _
            try simp only [Act.put, List.setIfInBounds_toArray, List.set_cons_zero, List.set_cons_succ]
            refine wpAnyH_take (i := 7) (oi := { dst := some 12, op := Op.fieldAddr 30 (Operand.tmp 2) 2, type := 0, pos := "ref.go:62", after := #[{ on := 0, ground := Ground.phase }, { on := 1, ground := Ground.phase }, { on := 2, ground := Ground.phase }, { on := 3, ground := Ground.phase }, { on := 4, ground := Ground.phase }, { on := 5, ground := Ground.phase }, { on := 6, ground := Ground.phase }], guard := none }) (v := .pointer (some ⟨b2, 2, none⟩)) rfl (by kernel_rfl) (by kernel_rfl) (by kernel_rfl) (fun _ _ _ h => h.elim) (Or.inl ⟨by rfl, ?y4⟩) hS5.out ?_
            case y4 =>
              intro V hV
              go_simp
            simp only [Act.put, List.setIfInBounds_toArray, List.set_cons_zero, List.set_cons_succ]
            refine wpAnyH_ready (rs := [8]) (by kernel_rfl) (by simp) (AllReadyH.cons (i := 8) (o := { dst := none, op := Op.store 28 (Operand.tmp 12) (Operand.tmp 11), type := 0, pos := "ref.go:62", after := #[{ on := 7, ground := Ground.data }, { on := 6, ground := Ground.data }, { on := 6, ground := Ground.chain }, { on := 0, ground := Ground.phase }, { on := 1, ground := Ground.phase }, { on := 2, ground := Ground.phase }, { on := 3, ground := Ground.phase }, { on := 4, ground := Ground.phase }, { on := 5, ground := Ground.phase }, { on := 6, ground := Ground.phase }], guard := none }) rfl ?_ AllReadyH.nil)
            · intro K1 hK1
              refine step_st (by rfl) 28 (.tmp 12) (.tmp 11) rfl b2 2 v5 30 _ rfl rfl hX5.out (by simp) (by kernel_rfl) (own_slice ho5.out).1 (own_slice ho5.out).2 ?_
              obtain ⟨V6, hv6⟩ : ∃ V, V5.setCell ⟨b2, 2, none⟩ v5 = V := ⟨_, rfl⟩
              have hg6 : V5.grownBy V6 (some b2) := by rw [← hv6]; exact grown_setCell _ _ _ _
              have hS6 : Hid (Keep (fun j => j = b2) A V6) := hS5.out.trans (Keep.grown (S := fun j => j = b2) hg6 rfl) (fun _ hj _ => hj)
              have hX6 : Hid (Blk V6 b2 30 [uv, ov, v5]) := by rw [← hv6]; exact hX5.out.set 2 v5
              have hO6 : Hid (V6.ownsRow A.heap.size 75 4 v5 (0 + n + 1) ([] ++ cs ++ f.cells)) := own_same ho5.out (fun g h1 h2 => hg6.block g h2 (fun e => by cases e; have := HL.out; omega))
              rw [hv6]
              clear hv6 hg6
              refine hK1.out _ _ hS6.out ?_
              clear hK1
              intro _
              try simp only [Act.put, List.setIfInBounds_toArray, List.set_cons_zero, List.set_cons_succ]
              refine wpAnyH_done (by kernel_rfl) ?_ _
              exact hQ V6 _ _ _ _ hO6.out hX6.out hS6.out
  · intro K1 hK1
    rw [if_pos (by rfl)]
    have hc : V0.cell? ⟨b2, 2, none⟩ = some (.slice fa n c) := hX0.out.cell rfl
    go_wp2
    clear hc
    refine hK1.out _ _ hS0.out ?_
    clear hK1
    intro _
    try simp only [Act.put, List.setIfInBounds_toArray, List.set_cons_zero, List.set_cons_succ]
    refine wpAnyH_ready (rs := [0, 5]) (by kernel_rfl) (by simp) (AllReadyH.cons (i := 0) (o := { dst := some 5, op := Op.buildSlice 28 0 #[], type := 28, pos := "ref.go:62", after := #[], guard := none }) rfl ?_ (AllReadyH.cons (i := 5) (o := { dst := some 10, op := Op.buildSlice 28 1 #[(0, Operand.tmp 9)], type := 28, pos := "ref.go:62", after := #[{ on := 4, ground := Ground.data }], guard := none }) rfl ?_ AllReadyH.nil))
    · intro K1 hK1
      refine step_bs0 (by rfl) 28 rfl (run_bs28_0 _) ?_
      have hr2 : V0.heap.size ≥ A.heap.size := hS0.out.size
      obtain ⟨V2, hv2⟩ : ∃ V, V0.alloc (.cells #[] 75) = V := ⟨_, rfl⟩
      have hl2 : Below V0.heap.size V0 V2 := by rw [← hv2]; exact below_al _ _
      have hw2 : Below A.heap.size V0 V2 := hl2.mono hr2
      have hO2 : Hid (V2.ownsRow A.heap.size 75 4 (.slice (some ⟨V0.heap.size, 0, none⟩) 0 0) 0 []) := by rw [← hv2]; exact ownsRow_base (empty_row V0 75 4) hr2
      have hS2 : Hid (Keep (fun j => j = b2) A V2) := keepB hS0.out hw2
      have hX2 : Hid (Blk V2 b2 30 [uv, ov, .slice fa n c]) := ((hw2).block b2 HL.out).trans hX0.out
      obtain ⟨q2, hq2⟩ : ∃ m, V0.heap.size = m := ⟨_, rfl⟩
      rw [hq2] at hO2
      rw [hv2, hq2]
      clear hv2 hq2 hw2 hr2 hl2
      refine hK1.out _ _ hS2.out ?_
      clear hK1
      intro _
      try simp only [Act.put, List.setIfInBounds_toArray, List.set_cons_zero, List.set_cons_succ]
      refine wpAnyH_ready (rs := [3, 5]) (by kernel_rfl) (by simp) (AllReadyH.cons (i := 3) (o := { dst := some 8, op := Op.call { callee := Callee.builtin Builtin.append, args := #[Operand.tmp 5, Operand.tmp 7], argTypes := #[28, 28] }, type := 28, pos := "ref.go:62", after := #[{ on := 0, ground := Ground.data }, { on := 2, ground := Ground.data }], guard := none }) rfl ?_ (AllReadyH.cons (i := 5) (o := { dst := some 10, op := Op.buildSlice 28 1 #[(0, Operand.tmp 9)], type := 28, pos := "ref.go:62", after := #[{ on := 4, ground := Ground.data }], guard := none }) rfl ?_ AllReadyH.nil))
      · intro K1 hK1
        have hd3 := HR.out V2 hS2.out
        refine step_append_g (by rfl) (.tmp 5) (.tmp 7) 28 rfl _ 75 i0 z 4 A.heap.size Try.underlying28 HI0.out.1 HI0.out.2.1 HI0.out.2.2.1 HI0.out.2.2.2.1 HI0.out.2.2.2.2 (by omega) _ 0 [] hO2.out fa (n) c cs rfl rfl hd3 hS2.out.size (by have := HN.out; omega) ?_
        intro v3 V3 ho3 hg3 hp3
        have hw3 : Below A.heap.size V2 V3 := grown_below hO2.out hg3.out hS2.out.size
        have hS3 : Hid (Keep (fun j => j = b2) A V3) := keepB hS2.out hw3
        have hX3 : Hid (Blk V3 b2 30 [uv, ov, .slice fa n c]) := ((hw3).block b2 HL.out).trans hX2.out
        clear hd3 hw3 hg3 hp3
        refine hK1.out _ _ hS3.out ?_
        clear hK1
        intro _
        try simp only [Act.put, List.setIfInBounds_toArray, List.set_cons_zero, List.set_cons_succ]
        refine wpAnyH_ready (rs := [5]) (by kernel_rfl) (by simp) (AllReadyH.cons (i := 5) (o := { dst := some 10, op := Op.buildSlice 28 1 #[(0, Operand.tmp 9)], type := 28, pos := "ref.go:62", after := #[{ on := 4, ground := Ground.data }], guard := none }) rfl ?_ AllReadyH.nil)
        · intro K1 hK1
          refine step_bs (by rfl) 28 (.tmp 9) _ rfl rfl (run_bs28 f _) ?_
          have hr4 : V3.heap.size ≥ A.heap.size := hS3.out.size
          obtain ⟨V4, hv4⟩ : ∃ V, V3.alloc (.cells f.cells.toArray 75) = V := ⟨_, rfl⟩
          have hl4 : Below V3.heap.size V3 V4 := by rw [← hv4]; exact below_al _ _
          have hw4 : Below A.heap.size V3 V4 := hl4.mono hr4
          have hS4 : Hid (Keep (fun j => j = b2) A V4) := keepB hS3.out hw4
          have hX4 : Hid (Blk V4 b2 30 [uv, ov, .slice fa n c]) := ((hw4).block b2 HL.out).trans hX3.out
          obtain ⟨nb, hnb⟩ : ∃ m, V3.heap.size = m := ⟨_, rfl⟩
          have hM4 : Hid (Blk V4 nb 75 f.cells) := by show Blk _ _ _ _; rw [← hv4, ← hnb]; simpa using Blk.new V3 f.cells.toArray 75
          have hO4 : Hid (V4.ownsRow A.heap.size 75 4 v3 (0 + n) ([] ++ cs)) := ownsRow_below ho3.out hl4
          have hN4 : Hid (Blk V4 nb 75 f.cells ∧ v3.ownBlock ≠ some nb) := ⟨hM4.out, fun e => by have h1 := (ho3.out.lt _ e).2; omega⟩
          rw [hv4, hnb]
          clear hv4 hnb hw4 hr4 hl4
          refine hK1.out _ _ hS4.out ?_
          clear hK1
          intro _
          try simp only [Act.put, List.setIfInBounds_toArray, List.set_cons_zero, List.set_cons_succ]
          refine wpAnyH_ready (rs := [6]) (by kernel_rfl) (by simp) (AllReadyH.cons (i := 6) (o := { dst := some 11, op := Op.call { callee := Callee.builtin Builtin.append, args := #[Operand.tmp 8, Operand.tmp 10], argTypes := #[28, 28] }, type := 28, pos := "ref.go:62", after := #[{ on := 3, ground := Ground.data }, { on := 5, ground := Ground.data }, { on := 3, ground := Ground.chain }], guard := none }) rfl ?_ AllReadyH.nil)
          · intro K1 hK1
            have hd5 := rx_one hN4.out.1
            refine step_append_g (by rfl) (.tmp 8) (.tmp 10) 28 rfl _ 75 i0 z 4 A.heap.size Try.underlying28 HI0.out.1 HI0.out.2.1 HI0.out.2.2.1 HI0.out.2.2.2.1 HI0.out.2.2.2.2 (by omega) _ (0 + n) ([] ++ cs) hO4.out (some ⟨nb, 0, none⟩) (1) 1 f.cells rfl rfl hd5 hS4.out.size (by have := HN.out; omega) ?_
            intro v5 V5 ho5 hg5 hp5
            have hw5 : Below A.heap.size V4 V5 := grown_below hO4.out hg5.out hS4.out.size
            have hS5 : Hid (Keep (fun j => j = b2) A V5) := keepB hS4.out hw5
            have hX5 : Hid (Blk V5 b2 30 [uv, ov, .slice fa n c]) := ((hw5).block b2 HL.out).trans hX4.out
            clear hd5 hw5 hg5 hp5
            refine hK1.out _ _ hS5.out ?_
            clear hK1
            intro _
            try simp only [Act.put, List.setIfInBounds_toArray, List.set_cons_zero, List.set_cons_succ]
            refine wpAnyH_take (i := 7) (oi := { dst := some 12, op := Op.fieldAddr 30 (Operand.tmp 2) 2, type := 0, pos := "ref.go:62", after := #[{ on := 0, ground := Ground.phase }, { on := 1, ground := Ground.phase }, { on := 2, ground := Ground.phase }, { on := 3, ground := Ground.phase }, { on := 4, ground := Ground.phase }, { on := 5, ground := Ground.phase }, { on := 6, ground := Ground.phase }], guard := none }) (v := .pointer (some ⟨b2, 2, none⟩)) rfl (by kernel_rfl) (by kernel_rfl) (by kernel_rfl) (fun _ _ _ h => h.elim) (Or.inl ⟨by rfl, ?y5⟩) hS5.out ?_
            case y5 =>
              intro V hV
              go_simp
            simp only [Act.put, List.setIfInBounds_toArray, List.set_cons_zero, List.set_cons_succ]
            refine wpAnyH_ready (rs := [8]) (by kernel_rfl) (by simp) (AllReadyH.cons (i := 8) (o := { dst := none, op := Op.store 28 (Operand.tmp 12) (Operand.tmp 11), type := 0, pos := "ref.go:62", after := #[{ on := 7, ground := Ground.data }, { on := 6, ground := Ground.data }, { on := 6, ground := Ground.chain }, { on := 0, ground := Ground.phase }, { on := 1, ground := Ground.phase }, { on := 2, ground := Ground.phase }, { on := 3, ground := Ground.phase }, { on := 4, ground := Ground.phase }, { on := 5, ground := Ground.phase }, { on := 6, ground := Ground.phase }], guard := none }) rfl ?_ AllReadyH.nil)
            · intro K1 hK1
              refine step_st (by rfl) 28 (.tmp 12) (.tmp 11) rfl b2 2 v5 30 _ rfl rfl hX5.out (by simp) (by kernel_rfl) (own_slice ho5.out).1 (own_slice ho5.out).2 ?_
              obtain ⟨V6, hv6⟩ : ∃ V, V5.setCell ⟨b2, 2, none⟩ v5 = V := ⟨_, rfl⟩
              have hg6 : V5.grownBy V6 (some b2) := by rw [← hv6]; exact grown_setCell _ _ _ _
              have hS6 : Hid (Keep (fun j => j = b2) A V6) := hS5.out.trans (Keep.grown (S := fun j => j = b2) hg6 rfl) (fun _ hj _ => hj)
              have hX6 : Hid (Blk V6 b2 30 [uv, ov, v5]) := by rw [← hv6]; exact hX5.out.set 2 v5
              have hO6 : Hid (V6.ownsRow A.heap.size 75 4 v5 (0 + n + 1) ([] ++ cs ++ f.cells)) := own_same ho5.out (fun g h1 h2 => hg6.block g h2 (fun e => by cases e; have := HL.out; omega))
              rw [hv6]
              clear hv6 hg6
              refine hK1.out _ _ hS6.out ?_
              clear hK1
              intro _
              try simp only [Act.put, List.setIfInBounds_toArray, List.set_cons_zero, List.set_cons_succ]
              refine wpAnyH_done (by kernel_rfl) ?_ _
              exact hQ V6 _ _ _ _ hO6.out hX6.out hS6.out
      · intro K1 hK1
        refine step_bs (by rfl) 28 (.tmp 9) _ rfl rfl (run_bs28 f _) ?_
        have hr3 : V2.heap.size ≥ A.heap.size := hS2.out.size
        obtain ⟨V3, hv3⟩ : ∃ V, V2.alloc (.cells f.cells.toArray 75) = V := ⟨_, rfl⟩
        have hl3 : Below V2.heap.size V2 V3 := by rw [← hv3]; exact below_al _ _
        have hw3 : Below A.heap.size V2 V3 := hl3.mono hr3
        have hS3 : Hid (Keep (fun j => j = b2) A V3) := keepB hS2.out hw3
        have hX3 : Hid (Blk V3 b2 30 [uv, ov, .slice fa n c]) := ((hw3).block b2 HL.out).trans hX2.out
        obtain ⟨nb, hnb⟩ : ∃ m, V2.heap.size = m := ⟨_, rfl⟩
        have hM3 : Hid (Blk V3 nb 75 f.cells) := by show Blk _ _ _ _; rw [← hv3, ← hnb]; simpa using Blk.new V2 f.cells.toArray 75
        have hO3 : Hid (V3.ownsRow A.heap.size 75 4 (.slice (some ⟨q2, 0, none⟩) 0 0) 0 []) := ownsRow_below hO2.out hl3
        have hN3 : Hid (Blk V3 nb 75 f.cells ∧ (Value.slice (some ⟨q2, 0, none⟩) 0 0).ownBlock ≠ some nb) := ⟨hM3.out, fun e => by have h1 := (hO2.out.lt _ e).2; omega⟩
        rw [hv3, hnb]
        clear hv3 hnb hw3 hr3 hl3
        refine hK1.out _ _ hS3.out ?_
        clear hK1
        intro _
        try simp only [Act.put, List.setIfInBounds_toArray, List.set_cons_zero, List.set_cons_succ]
        refine wpAnyH_ready (rs := [3]) (by kernel_rfl) (by simp) (AllReadyH.cons (i := 3) (o := { dst := some 8, op := Op.call { callee := Callee.builtin Builtin.append, args := #[Operand.tmp 5, Operand.tmp 7], argTypes := #[28, 28] }, type := 28, pos := "ref.go:62", after := #[{ on := 0, ground := Ground.data }, { on := 2, ground := Ground.data }], guard := none }) rfl ?_ AllReadyH.nil)
        · intro K1 hK1
          have hd4 := HR.out V3 hS3.out
          refine step_append_g (by rfl) (.tmp 5) (.tmp 7) 28 rfl _ 75 i0 z 4 A.heap.size Try.underlying28 HI0.out.1 HI0.out.2.1 HI0.out.2.2.1 HI0.out.2.2.2.1 HI0.out.2.2.2.2 (by omega) _ 0 [] hO3.out fa (n) c cs rfl rfl hd4 hS3.out.size (by have := HN.out; omega) ?_
          intro v4 V4 ho4 hg4 hp4
          have hw4 : Below A.heap.size V3 V4 := grown_below hO3.out hg4.out hS3.out.size
          have hS4 : Hid (Keep (fun j => j = b2) A V4) := keepB hS3.out hw4
          have hX4 : Hid (Blk V4 b2 30 [uv, ov, .slice fa n c]) := ((hw4).block b2 HL.out).trans hX3.out
          have hN4 : Hid (Blk V4 nb 75 f.cells ∧ v4.ownBlock ≠ some nb) := ⟨hN3.out.1.kept hg4.out (fun e => hN3.out.2 e.symm), fun e => by
            rcases hp4.out with e2 | e2
            · exact hN3.out.2 (by rw [← e2]; exact e)
            · have h1 := hN3.out.1.lt
              rw [e2] at e
              cases e
              omega⟩
          clear hd4 hw4 hg4 hp4
          refine hK1.out _ _ hS4.out ?_
          clear hK1
          intro _
          try simp only [Act.put, List.setIfInBounds_toArray, List.set_cons_zero, List.set_cons_succ]
          refine wpAnyH_ready (rs := [6]) (by kernel_rfl) (by simp) (AllReadyH.cons (i := 6) (o := { dst := some 11, op := Op.call { callee := Callee.builtin Builtin.append, args := #[Operand.tmp 8, Operand.tmp 10], argTypes := #[28, 28] }, type := 28, pos := "ref.go:62", after := #[{ on := 3, ground := Ground.data }, { on := 5, ground := Ground.data }, { on := 3, ground := Ground.chain }], guard := none }) rfl ?_ AllReadyH.nil)
          · intro K1 hK1
            have hd5 := rx_one hN4.out.1
            refine step_append_g (by rfl) (.tmp 8) (.tmp 10) 28 rfl _ 75 i0 z 4 A.heap.size Try.underlying28 HI0.out.1 HI0.out.2.1 HI0.out.2.2.1 HI0.out.2.2.2.1 HI0.out.2.2.2.2 (by omega) _ (0 + n) ([] ++ cs) ho4.out (some ⟨nb, 0, none⟩) (1) 1 f.cells rfl rfl hd5 hS4.out.size (by have := HN.out; omega) ?_
            intro v5 V5 ho5 hg5 hp5
            have hw5 : Below A.heap.size V4 V5 := grown_below ho4.out hg5.out hS4.out.size
            have hS5 : Hid (Keep (fun j => j = b2) A V5) := keepB hS4.out hw5
            have hX5 : Hid (Blk V5 b2 30 [uv, ov, .slice fa n c]) := ((hw5).block b2 HL.out).trans hX4.out
            clear hd5 hw5 hg5 hp5
            refine hK1.out _ _ hS5.out ?_
            clear hK1
            intro _
            try simp only [Act.put, List.setIfInBounds_toArray, List.set_cons_zero, List.set_cons_succ]
            refine wpAnyH_take (i := 7) (oi := { dst := some 12, op := Op.fieldAddr 30 (Operand.tmp 2) 2, type := 0, pos := "ref.go:62", after := #[{ on := 0, ground := Ground.phase }, { on := 1, ground := Ground.phase }, { on := 2, ground := Ground.phase }, { on := 3, ground := Ground.phase }, { on := 4, ground := Ground.phase }, { on := 5, ground := Ground.phase }, { on := 6, ground := Ground.phase }], guard := none }) (v := .pointer (some ⟨b2, 2, none⟩)) rfl (by kernel_rfl) (by kernel_rfl) (by kernel_rfl) (fun _ _ _ h => h.elim) (Or.inl ⟨by rfl, ?y6⟩) hS5.out ?_
            case y6 =>
              intro V hV
              go_simp
            simp only [Act.put, List.setIfInBounds_toArray, List.set_cons_zero, List.set_cons_succ]
            refine wpAnyH_ready (rs := [8]) (by kernel_rfl) (by simp) (AllReadyH.cons (i := 8) (o := { dst := none, op := Op.store 28 (Operand.tmp 12) (Operand.tmp 11), type := 0, pos := "ref.go:62", after := #[{ on := 7, ground := Ground.data }, { on := 6, ground := Ground.data }, { on := 6, ground := Ground.chain }, { on := 0, ground := Ground.phase }, { on := 1, ground := Ground.phase }, { on := 2, ground := Ground.phase }, { on := 3, ground := Ground.phase }, { on := 4, ground := Ground.phase }, { on := 5, ground := Ground.phase }, { on := 6, ground := Ground.phase }], guard := none }) rfl ?_ AllReadyH.nil)
            · intro K1 hK1
              refine step_st (by rfl) 28 (.tmp 12) (.tmp 11) rfl b2 2 v5 30 _ rfl rfl hX5.out (by simp) (by kernel_rfl) (own_slice ho5.out).1 (own_slice ho5.out).2 ?_
              obtain ⟨V6, hv6⟩ : ∃ V, V5.setCell ⟨b2, 2, none⟩ v5 = V := ⟨_, rfl⟩
              have hg6 : V5.grownBy V6 (some b2) := by rw [← hv6]; exact grown_setCell _ _ _ _
              have hS6 : Hid (Keep (fun j => j = b2) A V6) := hS5.out.trans (Keep.grown (S := fun j => j = b2) hg6 rfl) (fun _ hj _ => hj)
              have hX6 : Hid (Blk V6 b2 30 [uv, ov, v5]) := by rw [← hv6]; exact hX5.out.set 2 v5
              have hO6 : Hid (V6.ownsRow A.heap.size 75 4 v5 (0 + n + 1) ([] ++ cs ++ f.cells)) := own_same ho5.out (fun g h1 h2 => hg6.block g h2 (fun e => by cases e; have := HL.out; omega))
              rw [hv6]
              clear hv6 hg6
              refine hK1.out _ _ hS6.out ?_
              clear hK1
              intro _
              try simp only [Act.put, List.setIfInBounds_toArray, List.set_cons_zero, List.set_cons_succ]
              refine wpAnyH_done (by kernel_rfl) ?_ _
              exact hQ V6 _ _ _ _ hO6.out hX6.out hS6.out
    · intro K1 hK1
      refine step_bs (by rfl) 28 (.tmp 9) _ rfl rfl (run_bs28 f _) ?_
      have hr2 : V0.heap.size ≥ A.heap.size := hS0.out.size
      obtain ⟨V2, hv2⟩ : ∃ V, V0.alloc (.cells f.cells.toArray 75) = V := ⟨_, rfl⟩
      have hl2 : Below V0.heap.size V0 V2 := by rw [← hv2]; exact below_al _ _
      have hw2 : Below A.heap.size V0 V2 := hl2.mono hr2
      have hS2 : Hid (Keep (fun j => j = b2) A V2) := keepB hS0.out hw2
      have hX2 : Hid (Blk V2 b2 30 [uv, ov, .slice fa n c]) := ((hw2).block b2 HL.out).trans hX0.out
      obtain ⟨nb, hnb⟩ : ∃ m, V0.heap.size = m := ⟨_, rfl⟩
      have hM2 : Hid (Blk V2 nb 75 f.cells) := by show Blk _ _ _ _; rw [← hv2, ← hnb]; simpa using Blk.new V0 f.cells.toArray 75
      rw [hv2, hnb]
      clear hv2 hnb hw2 hr2 hl2
      refine hK1.out _ _ hS2.out ?_
      clear hK1
      intro _
      try simp only [Act.put, List.setIfInBounds_toArray, List.set_cons_zero, List.set_cons_succ]
      refine wpAnyH_ready (rs := [0]) (by kernel_rfl) (by simp) (AllReadyH.cons (i := 0) (o := { dst := some 5, op := Op.buildSlice 28 0 #[], type := 28, pos := "ref.go:62", after := #[], guard := none }) rfl ?_ AllReadyH.nil)
      · intro K1 hK1
        refine step_bs0 (by rfl) 28 rfl (run_bs28_0 _) ?_
        have hr3 : V2.heap.size ≥ A.heap.size := hS2.out.size
        obtain ⟨V3, hv3⟩ : ∃ V, V2.alloc (.cells #[] 75) = V := ⟨_, rfl⟩
        have hl3 : Below V2.heap.size V2 V3 := by rw [← hv3]; exact below_al _ _
        have hw3 : Below A.heap.size V2 V3 := hl3.mono hr3
        have hO3 : Hid (V3.ownsRow A.heap.size 75 4 (.slice (some ⟨V2.heap.size, 0, none⟩) 0 0) 0 []) := by rw [← hv3]; exact ownsRow_base (empty_row V2 75 4) hr3
        have hS3 : Hid (Keep (fun j => j = b2) A V3) := keepB hS2.out hw3
        have hX3 : Hid (Blk V3 b2 30 [uv, ov, .slice fa n c]) := ((hw3).block b2 HL.out).trans hX2.out
        have hN3 : Hid (Blk V3 nb 75 f.cells ∧ (Value.slice (some ⟨V2.heap.size, 0, none⟩) 0 0).ownBlock ≠ some nb) := ⟨hM2.out.below hl3 hM2.out.lt, fun e => by have h1 := hM2.out.lt; simp [Value.ownBlock] at e; omega⟩
        obtain ⟨q3, hq3⟩ : ∃ m, V2.heap.size = m := ⟨_, rfl⟩
        rw [hq3] at hO3
        rw [hq3] at hN3
        rw [hv3, hq3]
        clear hv3 hq3 hw3 hr3 hl3
        refine hK1.out _ _ hS3.out ?_
        clear hK1
        intro _
        try simp only [Act.put, List.setIfInBounds_toArray, List.set_cons_zero, List.set_cons_succ]
        refine wpAnyH_ready (rs := [3]) (by kernel_rfl) (by simp) (AllReadyH.cons (i := 3) (o := { dst := some 8, op := Op.call { callee := Callee.builtin Builtin.append, args := #[Operand.tmp 5, Operand.tmp 7], argTypes := #[28, 28] }, type := 28, pos := "ref.go:62", after := #[{ on := 0, ground := Ground.data }, { on := 2, ground := Ground.data }], guard := none }) rfl ?_ AllReadyH.nil)
        · intro K1 hK1
          have hd4 := HR.out V3 hS3.out
          refine step_append_g (by rfl) (.tmp 5) (.tmp 7) 28 rfl _ 75 i0 z 4 A.heap.size Try.underlying28 HI0.out.1 HI0.out.2.1 HI0.out.2.2.1 HI0.out.2.2.2.1 HI0.out.2.2.2.2 (by omega) _ 0 [] hO3.out fa (n) c cs rfl rfl hd4 hS3.out.size (by have := HN.out; omega) ?_
          intro v4 V4 ho4 hg4 hp4
          have hw4 : Below A.heap.size V3 V4 := grown_below hO3.out hg4.out hS3.out.size
          have hS4 : Hid (Keep (fun j => j = b2) A V4) := keepB hS3.out hw4
          have hX4 : Hid (Blk V4 b2 30 [uv, ov, .slice fa n c]) := ((hw4).block b2 HL.out).trans hX3.out
          have hN4 : Hid (Blk V4 nb 75 f.cells ∧ v4.ownBlock ≠ some nb) := ⟨hN3.out.1.kept hg4.out (fun e => hN3.out.2 e.symm), fun e => by
            rcases hp4.out with e2 | e2
            · exact hN3.out.2 (by rw [← e2]; exact e)
            · have h1 := hN3.out.1.lt
              rw [e2] at e
              cases e
              omega⟩
          clear hd4 hw4 hg4 hp4
          refine hK1.out _ _ hS4.out ?_
          clear hK1
          intro _
          try simp only [Act.put, List.setIfInBounds_toArray, List.set_cons_zero, List.set_cons_succ]
          refine wpAnyH_ready (rs := [6]) (by kernel_rfl) (by simp) (AllReadyH.cons (i := 6) (o := { dst := some 11, op := Op.call { callee := Callee.builtin Builtin.append, args := #[Operand.tmp 8, Operand.tmp 10], argTypes := #[28, 28] }, type := 28, pos := "ref.go:62", after := #[{ on := 3, ground := Ground.data }, { on := 5, ground := Ground.data }, { on := 3, ground := Ground.chain }], guard := none }) rfl ?_ AllReadyH.nil)
          · intro K1 hK1
            have hd5 := rx_one hN4.out.1
            refine step_append_g (by rfl) (.tmp 8) (.tmp 10) 28 rfl _ 75 i0 z 4 A.heap.size Try.underlying28 HI0.out.1 HI0.out.2.1 HI0.out.2.2.1 HI0.out.2.2.2.1 HI0.out.2.2.2.2 (by omega) _ (0 + n) ([] ++ cs) ho4.out (some ⟨nb, 0, none⟩) (1) 1 f.cells rfl rfl hd5 hS4.out.size (by have := HN.out; omega) ?_
            intro v5 V5 ho5 hg5 hp5
            have hw5 : Below A.heap.size V4 V5 := grown_below ho4.out hg5.out hS4.out.size
            have hS5 : Hid (Keep (fun j => j = b2) A V5) := keepB hS4.out hw5
            have hX5 : Hid (Blk V5 b2 30 [uv, ov, .slice fa n c]) := ((hw5).block b2 HL.out).trans hX4.out
            clear hd5 hw5 hg5 hp5
            refine hK1.out _ _ hS5.out ?_
            clear hK1
            intro _
            try simp only [Act.put, List.setIfInBounds_toArray, List.set_cons_zero, List.set_cons_succ]
            refine wpAnyH_take (i := 7) (oi := { dst := some 12, op := Op.fieldAddr 30 (Operand.tmp 2) 2, type := 0, pos := "ref.go:62", after := #[{ on := 0, ground := Ground.phase }, { on := 1, ground := Ground.phase }, { on := 2, ground := Ground.phase }, { on := 3, ground := Ground.phase }, { on := 4, ground := Ground.phase }, { on := 5, ground := Ground.phase }, { on := 6, ground := Ground.phase }], guard := none }) (v := .pointer (some ⟨b2, 2, none⟩)) rfl (by kernel_rfl) (by kernel_rfl) (by kernel_rfl) (fun _ _ _ h => h.elim) (Or.inl ⟨by rfl, ?y7⟩) hS5.out ?_
            case y7 =>
              intro V hV
              go_simp
            simp only [Act.put, List.setIfInBounds_toArray, List.set_cons_zero, List.set_cons_succ]
            refine wpAnyH_ready (rs := [8]) (by kernel_rfl) (by simp) (AllReadyH.cons (i := 8) (o := { dst := none, op := Op.store 28 (Operand.tmp 12) (Operand.tmp 11), type := 0, pos := "ref.go:62", after := #[{ on := 7, ground := Ground.data }, { on := 6, ground := Ground.data }, { on := 6, ground := Ground.chain }, { on := 0, ground := Ground.phase }, { on := 1, ground := Ground.phase }, { on := 2, ground := Ground.phase }, { on := 3, ground := Ground.phase }, { on := 4, ground := Ground.phase }, { on := 5, ground := Ground.phase }, { on := 6, ground := Ground.phase }], guard := none }) rfl ?_ AllReadyH.nil)
            · intro K1 hK1
              refine step_st (by rfl) 28 (.tmp 12) (.tmp 11) rfl b2 2 v5 30 _ rfl rfl hX5.out (by simp) (by kernel_rfl) (own_slice ho5.out).1 (own_slice ho5.out).2 ?_
              obtain ⟨V6, hv6⟩ : ∃ V, V5.setCell ⟨b2, 2, none⟩ v5 = V := ⟨_, rfl⟩
              have hg6 : V5.grownBy V6 (some b2) := by rw [← hv6]; exact grown_setCell _ _ _ _
              have hS6 : Hid (Keep (fun j => j = b2) A V6) := hS5.out.trans (Keep.grown (S := fun j => j = b2) hg6 rfl) (fun _ hj _ => hj)
              have hX6 : Hid (Blk V6 b2 30 [uv, ov, v5]) := by rw [← hv6]; exact hX5.out.set 2 v5
              have hO6 : Hid (V6.ownsRow A.heap.size 75 4 v5 (0 + n + 1) ([] ++ cs ++ f.cells)) := own_same ho5.out (fun g h1 h2 => hg6.block g h2 (fun e => by cases e; have := HL.out; omega))
              rw [hv6]
              clear hv6 hg6
              refine hK1.out _ _ hS6.out ?_
              clear hK1
              intro _
              try simp only [Act.put, List.setIfInBounds_toArray, List.set_cons_zero, List.set_cons_succ]
              refine wpAnyH_done (by kernel_rfl) ?_ _
              exact hQ V6 _ _ _ _ hO6.out hX6.out hS6.out
  · intro K1 hK1
    refine step_bs (by rfl) 28 (.tmp 9) _ rfl rfl (run_bs28 f _) ?_
    have hr1 : V0.heap.size ≥ A.heap.size := hS0.out.size
    obtain ⟨V1, hv1⟩ : ∃ V, V0.alloc (.cells f.cells.toArray 75) = V := ⟨_, rfl⟩
    have hl1 : Below V0.heap.size V0 V1 := by rw [← hv1]; exact below_al _ _
    have hw1 : Below A.heap.size V0 V1 := hl1.mono hr1
    have hS1 : Hid (Keep (fun j => j = b2) A V1) := keepB hS0.out hw1
    have hX1 : Hid (Blk V1 b2 30 [uv, ov, .slice fa n c]) := ((hw1).block b2 HL.out).trans hX0.out
    obtain ⟨nb, hnb⟩ : ∃ m, V0.heap.size = m := ⟨_, rfl⟩
    have hM1 : Hid (Blk V1 nb 75 f.cells) := by show Blk _ _ _ _; rw [← hv1, ← hnb]; simpa using Blk.new V0 f.cells.toArray 75
    rw [hv1, hnb]
    clear hv1 hnb hw1 hr1 hl1
    refine hK1.out _ _ hS1.out ?_
    clear hK1
    intro _
    try simp only [Act.put, List.setIfInBounds_toArray, List.set_cons_zero, List.set_cons_succ]
    refine wpAnyH_ready (rs := [0, 2]) (by kernel_rfl) (by simp) (AllReadyH.cons (i := 0) (o := { dst := some 5, op := Op.buildSlice 28 0 #[], type := 28, pos := "ref.go:62", after := #[], guard := none }) rfl ?_ (AllReadyH.cons (i := 2) (o := { dst := some 7, op := Op.load 28 (Operand.tmp 6), type := 28, pos := "ref.go:62", after := #[{ on := 1, ground := Ground.data }], guard := none }) rfl ?_ AllReadyH.nil))
    · intro K1 hK1
      refine step_bs0 (by rfl) 28 rfl (run_bs28_0 _) ?_
      have hr2 : V1.heap.size ≥ A.heap.size := hS1.out.size
      obtain ⟨V2, hv2⟩ : ∃ V, V1.alloc (.cells #[] 75) = V := ⟨_, rfl⟩
      have hl2 : Below V1.heap.size V1 V2 := by rw [← hv2]; exact below_al _ _
      have hw2 : Below A.heap.size V1 V2 := hl2.mono hr2
      have hO2 : Hid (V2.ownsRow A.heap.size 75 4 (.slice (some ⟨V1.heap.size, 0, none⟩) 0 0) 0 []) := by rw [← hv2]; exact ownsRow_base (empty_row V1 75 4) hr2
      have hS2 : Hid (Keep (fun j => j = b2) A V2) := keepB hS1.out hw2
      have hX2 : Hid (Blk V2 b2 30 [uv, ov, .slice fa n c]) := ((hw2).block b2 HL.out).trans hX1.out
      have hN2 : Hid (Blk V2 nb 75 f.cells ∧ (Value.slice (some ⟨V1.heap.size, 0, none⟩) 0 0).ownBlock ≠ some nb) := ⟨hM1.out.below hl2 hM1.out.lt, fun e => by have h1 := hM1.out.lt; simp [Value.ownBlock] at e; omega⟩
      obtain ⟨q2, hq2⟩ : ∃ m, V1.heap.size = m := ⟨_, rfl⟩
      rw [hq2] at hO2
      rw [hq2] at hN2
      rw [hv2, hq2]
      clear hv2 hq2 hw2 hr2 hl2
      refine hK1.out _ _ hS2.out ?_
      clear hK1
      intro _
      try simp only [Act.put, List.setIfInBounds_toArray, List.set_cons_zero, List.set_cons_succ]
      refine wpAnyH_ready (rs := [2]) (by kernel_rfl) (by simp) (AllReadyH.cons (i := 2) (o := { dst := some 7, op := Op.load 28 (Operand.tmp 6), type := 28, pos := "ref.go:62", after := #[{ on := 1, ground := Ground.data }], guard := none }) rfl ?_ AllReadyH.nil)
      · intro K1 hK1
        rw [if_pos (by rfl)]
        have hc : V2.cell? ⟨b2, 2, none⟩ = some (.slice fa n c) := hX2.out.cell rfl
        go_wp2
        clear hc
        refine hK1.out _ _ hS2.out ?_
        clear hK1
        intro _
        try simp only [Act.put, List.setIfInBounds_toArray, List.set_cons_zero, List.set_cons_succ]
        refine wpAnyH_ready (rs := [3]) (by kernel_rfl) (by simp) (AllReadyH.cons (i := 3) (o := { dst := some 8, op := Op.call { callee := Callee.builtin Builtin.append, args := #[Operand.tmp 5, Operand.tmp 7], argTypes := #[28, 28] }, type := 28, pos := "ref.go:62", after := #[{ on := 0, ground := Ground.data }, { on := 2, ground := Ground.data }], guard := none }) rfl ?_ AllReadyH.nil)
        · intro K1 hK1
          have hd4 := HR.out V2 hS2.out
          refine step_append_g (by rfl) (.tmp 5) (.tmp 7) 28 rfl _ 75 i0 z 4 A.heap.size Try.underlying28 HI0.out.1 HI0.out.2.1 HI0.out.2.2.1 HI0.out.2.2.2.1 HI0.out.2.2.2.2 (by omega) _ 0 [] hO2.out fa (n) c cs rfl rfl hd4 hS2.out.size (by have := HN.out; omega) ?_
          intro v4 V4 ho4 hg4 hp4
          have hw4 : Below A.heap.size V2 V4 := grown_below hO2.out hg4.out hS2.out.size
          have hS4 : Hid (Keep (fun j => j = b2) A V4) := keepB hS2.out hw4
          have hX4 : Hid (Blk V4 b2 30 [uv, ov, .slice fa n c]) := ((hw4).block b2 HL.out).trans hX2.out
          have hN4 : Hid (Blk V4 nb 75 f.cells ∧ v4.ownBlock ≠ some nb) := ⟨hN2.out.1.kept hg4.out (fun e => hN2.out.2 e.symm), fun e => by
            rcases hp4.out with e2 | e2
            · exact hN2.out.2 (by rw [← e2]; exact e)
            · have h1 := hN2.out.1.lt
              rw [e2] at e
              cases e
              omega⟩
          clear hd4 hw4 hg4 hp4
          refine hK1.out _ _ hS4.out ?_
          clear hK1
          intro _
          try simp only [Act.put, List.setIfInBounds_toArray, List.set_cons_zero, List.set_cons_succ]
          refine wpAnyH_ready (rs := [6]) (by kernel_rfl) (by simp) (AllReadyH.cons (i := 6) (o := { dst := some 11, op := Op.call { callee := Callee.builtin Builtin.append, args := #[Operand.tmp 8, Operand.tmp 10], argTypes := #[28, 28] }, type := 28, pos := "ref.go:62", after := #[{ on := 3, ground := Ground.data }, { on := 5, ground := Ground.data }, { on := 3, ground := Ground.chain }], guard := none }) rfl ?_ AllReadyH.nil)
          · intro K1 hK1
            have hd5 := rx_one hN4.out.1
            refine step_append_g (by rfl) (.tmp 8) (.tmp 10) 28 rfl _ 75 i0 z 4 A.heap.size Try.underlying28 HI0.out.1 HI0.out.2.1 HI0.out.2.2.1 HI0.out.2.2.2.1 HI0.out.2.2.2.2 (by omega) _ (0 + n) ([] ++ cs) ho4.out (some ⟨nb, 0, none⟩) (1) 1 f.cells rfl rfl hd5 hS4.out.size (by have := HN.out; omega) ?_
            intro v5 V5 ho5 hg5 hp5
            have hw5 : Below A.heap.size V4 V5 := grown_below ho4.out hg5.out hS4.out.size
            have hS5 : Hid (Keep (fun j => j = b2) A V5) := keepB hS4.out hw5
            have hX5 : Hid (Blk V5 b2 30 [uv, ov, .slice fa n c]) := ((hw5).block b2 HL.out).trans hX4.out
            clear hd5 hw5 hg5 hp5
            refine hK1.out _ _ hS5.out ?_
            clear hK1
            intro _
            try simp only [Act.put, List.setIfInBounds_toArray, List.set_cons_zero, List.set_cons_succ]
            refine wpAnyH_take (i := 7) (oi := { dst := some 12, op := Op.fieldAddr 30 (Operand.tmp 2) 2, type := 0, pos := "ref.go:62", after := #[{ on := 0, ground := Ground.phase }, { on := 1, ground := Ground.phase }, { on := 2, ground := Ground.phase }, { on := 3, ground := Ground.phase }, { on := 4, ground := Ground.phase }, { on := 5, ground := Ground.phase }, { on := 6, ground := Ground.phase }], guard := none }) (v := .pointer (some ⟨b2, 2, none⟩)) rfl (by kernel_rfl) (by kernel_rfl) (by kernel_rfl) (fun _ _ _ h => h.elim) (Or.inl ⟨by rfl, ?y8⟩) hS5.out ?_
            case y8 =>
              intro V hV
              go_simp
            simp only [Act.put, List.setIfInBounds_toArray, List.set_cons_zero, List.set_cons_succ]
            refine wpAnyH_ready (rs := [8]) (by kernel_rfl) (by simp) (AllReadyH.cons (i := 8) (o := { dst := none, op := Op.store 28 (Operand.tmp 12) (Operand.tmp 11), type := 0, pos := "ref.go:62", after := #[{ on := 7, ground := Ground.data }, { on := 6, ground := Ground.data }, { on := 6, ground := Ground.chain }, { on := 0, ground := Ground.phase }, { on := 1, ground := Ground.phase }, { on := 2, ground := Ground.phase }, { on := 3, ground := Ground.phase }, { on := 4, ground := Ground.phase }, { on := 5, ground := Ground.phase }, { on := 6, ground := Ground.phase }], guard := none }) rfl ?_ AllReadyH.nil)
            · intro K1 hK1
              refine step_st (by rfl) 28 (.tmp 12) (.tmp 11) rfl b2 2 v5 30 _ rfl rfl hX5.out (by simp) (by kernel_rfl) (own_slice ho5.out).1 (own_slice ho5.out).2 ?_
              obtain ⟨V6, hv6⟩ : ∃ V, V5.setCell ⟨b2, 2, none⟩ v5 = V := ⟨_, rfl⟩
              have hg6 : V5.grownBy V6 (some b2) := by rw [← hv6]; exact grown_setCell _ _ _ _
              have hS6 : Hid (Keep (fun j => j = b2) A V6) := hS5.out.trans (Keep.grown (S := fun j => j = b2) hg6 rfl) (fun _ hj _ => hj)
              have hX6 : Hid (Blk V6 b2 30 [uv, ov, v5]) := by rw [← hv6]; exact hX5.out.set 2 v5
              have hO6 : Hid (V6.ownsRow A.heap.size 75 4 v5 (0 + n + 1) ([] ++ cs ++ f.cells)) := own_same ho5.out (fun g h1 h2 => hg6.block g h2 (fun e => by cases e; have := HL.out; omega))
              rw [hv6]
              clear hv6 hg6
              refine hK1.out _ _ hS6.out ?_
              clear hK1
              intro _
              try simp only [Act.put, List.setIfInBounds_toArray, List.set_cons_zero, List.set_cons_succ]
              refine wpAnyH_done (by kernel_rfl) ?_ _
              exact hQ V6 _ _ _ _ hO6.out hX6.out hS6.out
    · intro K1 hK1
      rw [if_pos (by rfl)]
      have hc : V1.cell? ⟨b2, 2, none⟩ = some (.slice fa n c) := hX1.out.cell rfl
      go_wp2
      clear hc
      refine hK1.out _ _ hS1.out ?_
      clear hK1
      intro _
      try simp only [Act.put, List.setIfInBounds_toArray, List.set_cons_zero, List.set_cons_succ]
      refine wpAnyH_ready (rs := [0]) (by kernel_rfl) (by simp) (AllReadyH.cons (i := 0) (o := { dst := some 5, op := Op.buildSlice 28 0 #[], type := 28, pos := "ref.go:62", after := #[], guard := none }) rfl ?_ AllReadyH.nil)
      · intro K1 hK1
        refine step_bs0 (by rfl) 28 rfl (run_bs28_0 _) ?_
        have hr3 : V1.heap.size ≥ A.heap.size := hS1.out.size
        obtain ⟨V3, hv3⟩ : ∃ V, V1.alloc (.cells #[] 75) = V := ⟨_, rfl⟩
        have hl3 : Below V1.heap.size V1 V3 := by rw [← hv3]; exact below_al _ _
        have hw3 : Below A.heap.size V1 V3 := hl3.mono hr3
        have hO3 : Hid (V3.ownsRow A.heap.size 75 4 (.slice (some ⟨V1.heap.size, 0, none⟩) 0 0) 0 []) := by rw [← hv3]; exact ownsRow_base (empty_row V1 75 4) hr3
        have hS3 : Hid (Keep (fun j => j = b2) A V3) := keepB hS1.out hw3
        have hX3 : Hid (Blk V3 b2 30 [uv, ov, .slice fa n c]) := ((hw3).block b2 HL.out).trans hX1.out
        have hN3 : Hid (Blk V3 nb 75 f.cells ∧ (Value.slice (some ⟨V1.heap.size, 0, none⟩) 0 0).ownBlock ≠ some nb) := ⟨hM1.out.below hl3 hM1.out.lt, fun e => by have h1 := hM1.out.lt; simp [Value.ownBlock] at e; omega⟩
        obtain ⟨q3, hq3⟩ : ∃ m, V1.heap.size = m := ⟨_, rfl⟩
        rw [hq3] at hO3
        rw [hq3] at hN3
        rw [hv3, hq3]
        clear hv3 hq3 hw3 hr3 hl3
        refine hK1.out _ _ hS3.out ?_
        clear hK1
        intro _
        try simp only [Act.put, List.setIfInBounds_toArray, List.set_cons_zero, List.set_cons_succ]
        refine wpAnyH_ready (rs := [3]) (by kernel_rfl) (by simp) (AllReadyH.cons (i := 3) (o := { dst := some 8, op := Op.call { callee := Callee.builtin Builtin.append, args := #[Operand.tmp 5, Operand.tmp 7], argTypes := #[28, 28] }, type := 28, pos := "ref.go:62", after := #[{ on := 0, ground := Ground.data }, { on := 2, ground := Ground.data }], guard := none }) rfl ?_ AllReadyH.nil)
        · intro K1 hK1
          have hd4 := HR.out V3 hS3.out
          refine step_append_g (by rfl) (.tmp 5) (.tmp 7) 28 rfl _ 75 i0 z 4 A.heap.size Try.underlying28 HI0.out.1 HI0.out.2.1 HI0.out.2.2.1 HI0.out.2.2.2.1 HI0.out.2.2.2.2 (by omega) _ 0 [] hO3.out fa (n) c cs rfl rfl hd4 hS3.out.size (by have := HN.out; omega) ?_
          intro v4 V4 ho4 hg4 hp4
          have hw4 : Below A.heap.size V3 V4 := grown_below hO3.out hg4.out hS3.out.size
          have hS4 : Hid (Keep (fun j => j = b2) A V4) := keepB hS3.out hw4
          have hX4 : Hid (Blk V4 b2 30 [uv, ov, .slice fa n c]) := ((hw4).block b2 HL.out).trans hX3.out
          have hN4 : Hid (Blk V4 nb 75 f.cells ∧ v4.ownBlock ≠ some nb) := ⟨hN3.out.1.kept hg4.out (fun e => hN3.out.2 e.symm), fun e => by
            rcases hp4.out with e2 | e2
            · exact hN3.out.2 (by rw [← e2]; exact e)
            · have h1 := hN3.out.1.lt
              rw [e2] at e
              cases e
              omega⟩
          clear hd4 hw4 hg4 hp4
          refine hK1.out _ _ hS4.out ?_
          clear hK1
          intro _
          try simp only [Act.put, List.setIfInBounds_toArray, List.set_cons_zero, List.set_cons_succ]
          refine wpAnyH_ready (rs := [6]) (by kernel_rfl) (by simp) (AllReadyH.cons (i := 6) (o := { dst := some 11, op := Op.call { callee := Callee.builtin Builtin.append, args := #[Operand.tmp 8, Operand.tmp 10], argTypes := #[28, 28] }, type := 28, pos := "ref.go:62", after := #[{ on := 3, ground := Ground.data }, { on := 5, ground := Ground.data }, { on := 3, ground := Ground.chain }], guard := none }) rfl ?_ AllReadyH.nil)
          · intro K1 hK1
            have hd5 := rx_one hN4.out.1
            refine step_append_g (by rfl) (.tmp 8) (.tmp 10) 28 rfl _ 75 i0 z 4 A.heap.size Try.underlying28 HI0.out.1 HI0.out.2.1 HI0.out.2.2.1 HI0.out.2.2.2.1 HI0.out.2.2.2.2 (by omega) _ (0 + n) ([] ++ cs) ho4.out (some ⟨nb, 0, none⟩) (1) 1 f.cells rfl rfl hd5 hS4.out.size (by have := HN.out; omega) ?_
            intro v5 V5 ho5 hg5 hp5
            have hw5 : Below A.heap.size V4 V5 := grown_below ho4.out hg5.out hS4.out.size
            have hS5 : Hid (Keep (fun j => j = b2) A V5) := keepB hS4.out hw5
            have hX5 : Hid (Blk V5 b2 30 [uv, ov, .slice fa n c]) := ((hw5).block b2 HL.out).trans hX4.out
            clear hd5 hw5 hg5 hp5
            refine hK1.out _ _ hS5.out ?_
            clear hK1
            intro _
            try simp only [Act.put, List.setIfInBounds_toArray, List.set_cons_zero, List.set_cons_succ]
            refine wpAnyH_take (i := 7) (oi := { dst := some 12, op := Op.fieldAddr 30 (Operand.tmp 2) 2, type := 0, pos := "ref.go:62", after := #[{ on := 0, ground := Ground.phase }, { on := 1, ground := Ground.phase }, { on := 2, ground := Ground.phase }, { on := 3, ground := Ground.phase }, { on := 4, ground := Ground.phase }, { on := 5, ground := Ground.phase }, { on := 6, ground := Ground.phase }], guard := none }) (v := .pointer (some ⟨b2, 2, none⟩)) rfl (by kernel_rfl) (by kernel_rfl) (by kernel_rfl) (fun _ _ _ h => h.elim) (Or.inl ⟨by rfl, ?y9⟩) hS5.out ?_
            case y9 =>
              intro V hV
              go_simp
            simp only [Act.put, List.setIfInBounds_toArray, List.set_cons_zero, List.set_cons_succ]
            refine wpAnyH_ready (rs := [8]) (by kernel_rfl) (by simp) (AllReadyH.cons (i := 8) (o := { dst := none, op := Op.store 28 (Operand.tmp 12) (Operand.tmp 11), type := 0, pos := "ref.go:62", after := #[{ on := 7, ground := Ground.data }, { on := 6, ground := Ground.data }, { on := 6, ground := Ground.chain }, { on := 0, ground := Ground.phase }, { on := 1, ground := Ground.phase }, { on := 2, ground := Ground.phase }, { on := 3, ground := Ground.phase }, { on := 4, ground := Ground.phase }, { on := 5, ground := Ground.phase }, { on := 6, ground := Ground.phase }], guard := none }) rfl ?_ AllReadyH.nil)
            · intro K1 hK1
              refine step_st (by rfl) 28 (.tmp 12) (.tmp 11) rfl b2 2 v5 30 _ rfl rfl hX5.out (by simp) (by kernel_rfl) (own_slice ho5.out).1 (own_slice ho5.out).2 ?_
              obtain ⟨V6, hv6⟩ : ∃ V, V5.setCell ⟨b2, 2, none⟩ v5 = V := ⟨_, rfl⟩
              have hg6 : V5.grownBy V6 (some b2) := by rw [← hv6]; exact grown_setCell _ _ _ _
              have hS6 : Hid (Keep (fun j => j = b2) A V6) := hS5.out.trans (Keep.grown (S := fun j => j = b2) hg6 rfl) (fun _ hj _ => hj)
              have hX6 : Hid (Blk V6 b2 30 [uv, ov, v5]) := by rw [← hv6]; exact hX5.out.set 2 v5
              have hO6 : Hid (V6.ownsRow A.heap.size 75 4 v5 (0 + n + 1) ([] ++ cs ++ f.cells)) := own_same ho5.out (fun g h1 h2 => hg6.block g h2 (fun e => by cases e; have := HL.out; omega))
              rw [hv6]
              clear hv6 hg6
              refine hK1.out _ _ hS6.out ?_
              clear hK1
              intro _
              try simp only [Act.put, List.setIfInBounds_toArray, List.set_cons_zero, List.set_cons_succ]
              refine wpAnyH_done (by kernel_rfl) ?_ _
              exact hQ V6 _ _ _ _ hO6.out hX6.out hS6.out
#print axioms rwi1
end Go.Proofs.Ytfickhhfhdhcbaa.Oct
