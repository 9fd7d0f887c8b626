/-
  Layer 21 (queue): the reference: the drawn region of end.
-/
import Derived.Test.YtipipckbcelphaaWRfq
namespace Go.Proofs.Ytipipckbcelphaa.Oct
open Go.RowKit Go.Shelf
set_option linter.unusedSimpArgs false
set_option linter.unusedVariables false

theorem yl_from {o : Oper} {a : Act} (V : World) (t : TypeId) (x y : Operand) (g n c i off : Nat) (hop : o.op = .slice t x (some y) none none) (hx : a.eval x = .slice (some ⟨g, 0, none⟩) n c) (hy : a.eval y = iv ((i : Int) + 1)) (ht : Try.prog.underlying t = some (.slice (Try.prog.elem t))) {inf : TypeInfo} (hi : Try.prog.info? (Try.prog.elem t) = some inf) (hs : inf.size = 1) (h : i + 1 ≤ n) (ho : off = if c = i + 1 then 0 else i + 1) :
    (execOp a.eval o).run Try.prog V = .ok (.value (.slice (some ⟨g, off, none⟩) (n - (i + 1)) (c - (i + 1)))) V := by
  unfold execOp
  have hr := run_slice_l (P := Try.prog) V t (some ⟨g, 0, none⟩) n c ht .i64 ((i : Int) + 1) (by omega) (by omega)
  have e : ((i : Int) + 1).toNat = i + 1 := by omega
  rw [e] at hr
  subst ho
  by_cases hc : c = i + 1
  · subst hc
    simp [hop, hx, hy, run_sliceAt_slice V t _ _ _ _ ht, hr, sizeOf, typeInfo, hi, hs, Result.andThen, sliced, Addr.add_lit]
  · simp [hop, hx, hy, run_sliceAt_slice V t _ _ _ _ ht, hr, sizeOf, typeInfo, hi, hs, Result.andThen, sliced, Addr.add_lit, hc]
theorem wrap_small {z : Int} (h0 : 0 ≤ z) (h1 : z ≤ 4000000000001) : IntKind.i64.wrap z = z := by
  rw [IntKind.wrap_i64]
  omega
theorem yl_add1 {o : Oper} {a : Act} (V : World) (x : Operand) (i n : Nat) (hop : o.op = .binOp .add 3 x (.const (.int .i64 1)) 3) (hx : a.eval x = iv (i : Int)) (h : i < n) (hn : n ≤ 4000000000000) : (execOp a.eval o).run Try.prog V = .ok (.value (iv ((i : Int) + 1))) V := by
  have q1 : (i : Int) < (n : Int) := by omega
  have q2 : (n : Int) ≤ 4000000000000 := by omega
  unfold execOp
  simp only [hop, hx]
  go_simp
  exact wrap_small (by omega) (by omega)
theorem yl_upto {o : Oper} {a : Act} (V : World) (t : TypeId) (x y : Operand) (g n c i : Nat) (hop : o.op = .slice t x none (some y) none) (hx : a.eval x = .slice (some ⟨g, 0, none⟩) n c) (hy : a.eval y = iv (i : Int)) (ht : Try.prog.underlying t = some (.slice (Try.prog.elem t))) {inf : TypeInfo} (hi : Try.prog.info? (Try.prog.elem t) = some inf) (h : i ≤ c) :
    (execOp a.eval o).run Try.prog V = .ok (.value (.slice (some ⟨g, 0, none⟩) i c)) V := by
  unfold execOp
  have hr := run_slice_h (P := Try.prog) V t (some ⟨g, 0, none⟩) n c ht .i64 (i : Int) (by omega) (by omega)
  simp [hop, hx, hy, run_sliceAt_slice V t _ _ _ _ ht, hr, sizeOf, typeInfo, hi, Result.andThen, sliced, Addr.add_lit]
theorem u27 : ∃ i : TypeInfo, Try.prog.underlying 27 = some (.slice (Try.prog.elem 27)) ∧ Try.prog.info? (Try.prog.elem 27) = some i ∧ i.size = 1 := by
  have h : (Try.prog.info? (Try.prog.elem 27)).map (·.size) = some 1 := by kernel_rfl
  obtain ⟨i, h1, h2⟩ := Option.map_eq_some_iff.1 h
  exact ⟨i, by kernel_rfl, h1, h2⟩
theorem own_slice {w : World} {B e sz n : Nat} {v : Value} {cs : List Value} (h : w.ownsRow B e sz v n cs) : v.cells = #[v] ∧ v.oneCell' = true := by
  rcases h.2 with ⟨rfl, _⟩ | ⟨g, cap, cur, rfl, _⟩ <;> exact ⟨rfl, rfl⟩
theorem own_one {w : World} {B e sz n : Nat} {v : Value} {cs : List Value} (h : w.ownsRow B e sz v n cs) {g : Nat} (hg : v.ownBlock = some g) : B ≤ g := (h.lt g hg).1
theorem own_same {w w' : World} {B e sz n : Nat} {v : Value} {cs : List Value} (h : w.ownsRow B e sz v n cs) (hs : ∀ g, B ≤ g → g < w.heap.size → w'.heap[g]? = w.heap[g]?) : w'.ownsRow B e sz v n cs := by
  refine ⟨h.1, ?_⟩
  rcases h.2 with hn | ⟨g, cap, cur, rfl, hB, hb, hr⟩
  · exact .inl hn
  · exact .inr ⟨g, cap, cur, rfl, hB, (hs g hB (lt_of_block hb)).trans hb, hr⟩
theorem keepB {S : Nat → Prop} {A V V' : World} (h : Keep S A V) (hb : Below A.heap.size V V') : Keep S A V' := ⟨hb.os.trans h.os, hb.tape.trans h.tape, hb.output.trans h.output, Nat.le_trans h.size hb.size, fun k hk hn => (hb.block k hk).trans (h.block k hk hn)⟩
theorem step_bs0 {ops : Array Oper} {o : Oper} {a : Act} {w : World} {K : Act → World → Prop} {Q : Exit → Act → World → Prop} {E : Prop} (hw : Region.wanted o (yielded ops a.tmps) = true) (t : TypeId) (hop : o.op = .buildSlice t 0 #[]) {v : Value} {w' : World} (hrun : (Instr.buildSlice t 0 #[]).run Try.prog w = .ok v w')
    (hk : K (a.put o.dst v) w') : if Region.wanted o (yielded ops a.tmps) = true then Oper.wp Try.prog o a w K Q else E := by
  rw [if_pos hw]
  unfold Oper.wp execOp
  simp [hop, hrun, Result.andThen]
  exact hk
/-- what region 2 leaves -/
def REnd2 (A : World) (b4 : Nat) (ev : Value) (n k : Nat) (l : List Int) (v2 : Value) (V : World) : Prop :=
  V.ownsRow A.heap.size 3 1 v2 (0 + k + (n - (k + 1))) ([] ++ (ivs l).take (k * 1) ++ (ivs l).drop ((k + 1) * 1)) ∧ Blk V b4 30 [v2, ev] ∧ Keep (fun j => j = b4) A V
theorem ownsRow_base {w : World} {B B' e sz n : Nat} {v : Value} {cs : List Value} (h : w.ownsRow B e sz v n cs) (hB : B' ≤ B) : w.ownsRow B' e sz v n cs := by
  refine ⟨h.1, ?_⟩
  rcases h.2 with hn | ⟨g, cap, cur, rfl, h1, h2⟩
  · exact .inl hn
  · exact .inr ⟨g, cap, cur, rfl, Nat.le_trans hB h1, h2⟩
theorem rd_from {V : World} {g n c k o1 : Nat} {l : List Int} (h : Rd V 3 1 (some ⟨g, 0, none⟩) n (ivs l)) (hk : k < n) (hc : n ≤ c) (ho : o1 = if c = k + 1 then 0 else k + 1) : Rd V 3 1 (some ⟨g, o1, none⟩) (n - (k + 1)) ((ivs l).drop ((k + 1) * 1)) := by
  have h1 := h.drop (j := k + 1) (by omega)
  by_cases he : c = k + 1
  · refine ⟨h1.1, h1.2.1, fun hp => ?_⟩
    omega
  · rw [if_neg he] at ho
    subst ho
    rw [Nat.zero_add, Nat.mul_one] at h1
    rw [Nat.mul_one]
    exact h1
set_option maxRecDepth 100000 in
set_option maxHeartbeats 4000000 in
theorem rend2 {Q : Exit → Act → World → Prop} {x0 x1 x2 x3 x5 x6 x7 x8 x10 x11 x12 x13 x14 x15 x16 x17 x18 x19 x20 x21 x22 x23 x24 x25 x26 x27 x28 x29 x30 x31 x32 x33 x34 x35 x36 x37 : Value} {ds : List Deferred} {A : World} {b4 g n c k o1 : Nat} {l : List Int} {ev : Value} {i0 i1 : TypeInfo} {z : Value}
    (HL : Hid (b4 < A.heap.size)) (HX : Hid (Blk A b4 30 [.slice (some ⟨g, 0, none⟩) n c, ev])) (HR : Hid (∀ V, Keep (fun j => j = b4) A V → Rd V 3 1 (some ⟨g, 0, none⟩) n (ivs l))) (HN : Hid (k < n ∧ n ≤ c ∧ n ≤ 1000)) (HOF : Hid (o1 = if c = k + 1 then 0 else k + 1)) (HI0 : Hid (Try.prog.info? 3 = some i0 ∧ i0.zero = some z ∧ i0.size = 1 ∧ i0.bytes ≤ 24 ∧ z.cells.size = 1)) (HU : Hid (Try.prog.underlying 27 = some (.slice (Try.prog.elem 27)) ∧ Try.prog.info? (Try.prog.elem 27) = some i1 ∧ i1.size = 1))
    (hQ : ∀ V1 v1 v2 q, REnd2 A b4 ev n k l v2 V1 → Q .normal { tmps := #[x0, x1, x2, x3, .pointer (some ⟨b4, 0, none⟩), x5, x6, x7, x8, iv (k : Int), x10, x11, x12, .slice (some ⟨q, 0, none⟩) 0 0, .pointer (some ⟨b4, 0, none⟩), .slice (some ⟨g, 0, none⟩) n c, iv (k : Int), .slice (some ⟨g, 0, none⟩) k c, v1, .pointer (some ⟨b4, 0, none⟩), .slice (some ⟨g, 0, none⟩) n c, iv (k : Int), iv ((k : Int) + 1), .slice (some ⟨g, o1, none⟩) (n - (k + 1)) (c - (k + 1)), v2, .pointer (some ⟨b4, 0, none⟩), x26, x27, x28, x29, x30, x31, x32, x33, x34, x35, x36, x37], defers := ds } V1) :
    (Code.region 2 #[{ dst := some 13, op := Op.buildSlice 27 0 #[], type := 27, pos := "ref.go:53", after := #[], guard := none }, { dst := some 14, op := Op.fieldAddr 30 (Operand.tmp 4) 0, type := 0, pos := "ref.go:53", after := #[], guard := none }, { dst := some 15, op := Op.load 27 (Operand.tmp 14), type := 27, pos := "ref.go:53", after := #[{ on := 1, ground := Ground.data }], guard := none }, { dst := some 16, op := Op.move (Operand.tmp 9), type := 3, pos := "ref.go:53", after := #[], guard := none }, { dst := some 17, op := Op.slice 27 (Operand.tmp 15) none (some (Operand.tmp 16)) none, type := 27, pos := "ref.go:53", after := #[{ on := 2, ground := Ground.data }, { on := 3, ground := Ground.data }], guard := none }, { dst := some 18, op := Op.call { callee := Callee.builtin Builtin.append, args := #[Operand.tmp 13, Operand.tmp 17], argTypes := #[27, 27] }, type := 27, pos := "ref.go:53", after := #[{ on := 0, ground := Ground.data }, { on := 4, ground := Ground.data }], guard := none }, { dst := some 19, op := Op.fieldAddr 30 (Operand.tmp 4) 0, type := 0, pos := "ref.go:53", after := #[], guard := none }, { dst := some 20, op := Op.load 27 (Operand.tmp 19), type := 27, pos := "ref.go:53", after := #[{ on := 6, ground := Ground.data }], guard := none }, { dst := some 21, op := Op.move (Operand.tmp 9), type := 3, pos := "ref.go:53", after := #[], guard := none }, { dst := some 22, op := Op.binOp BinOp.add 3 (Operand.tmp 21) (Operand.const (Value.int IntKind.i64 1)) 3, type := 3, pos := "ref.go:53", after := #[{ on := 8, ground := Ground.data }], guard := none }, { dst := some 23, op := Op.slice 27 (Operand.tmp 20) (some (Operand.tmp 22)) none none, type := 27, pos := "ref.go:53", after := #[{ on := 7, ground := Ground.data }, { on := 9, ground := Ground.data }], guard := none }, { dst := some 24, op := Op.call { callee := Callee.builtin Builtin.append, args := #[Operand.tmp 18, Operand.tmp 23], argTypes := #[27, 27] }, type := 27, pos := "ref.go:53", after := #[{ on := 5, ground := Ground.data }, { on := 10, ground := Ground.data }, { on := 5, ground := Ground.chain }], guard := none }, { dst := some 25, op := Op.fieldAddr 30 (Operand.tmp 4) 0, type := 0, pos := "ref.go:53", after := #[{ on := 0, ground := Ground.phase }, { on := 1, ground := Ground.phase }, { on := 2, ground := Ground.phase }, { on := 3, ground := Ground.phase }, { on := 4, ground := Ground.phase }, { on := 5, ground := Ground.phase }, { on := 6, ground := Ground.phase }, { on := 7, ground := Ground.phase }, { on := 8, ground := Ground.phase }, { on := 9, ground := Ground.phase }, { on := 10, ground := Ground.phase }, { on := 11, ground := Ground.phase }], guard := none }, { dst := none, op := Op.store 27 (Operand.tmp 25) (Operand.tmp 24), type := 0, pos := "ref.go:53", after := #[{ on := 12, ground := Ground.data }, { on := 11, ground := Ground.data }, { on := 11, ground := Ground.chain }, { on := 0, ground := Ground.phase }, { on := 1, ground := Ground.phase }, { on := 2, ground := Ground.phase }, { on := 3, ground := Ground.phase }, { on := 4, ground := Ground.phase }, { on := 5, ground := Ground.phase }, { on := 6, ground := Ground.phase }, { on := 7, ground := Ground.phase }, { on := 8, ground := Ground.phase }, { on := 9, ground := Ground.phase }, { on := 10, ground := Ground.phase }, { on := 11, ground := Ground.phase }], guard := none }] true).wp Try.prog Q { tmps := #[x0, x1, x2, x3, .pointer (some ⟨b4, 0, none⟩), x5, x6, x7, x8, iv (k : Int), x10, x11, x12, x13, x14, x15, x16, x17, x18, x19, x20, x21, x22, x23, x24, x25, x26, x27, x28, x29, x30, x31, x32, x33, x34, x35, x36, x37], defers := ds } A := by
  refine Code.wp_mono (Q := fun x a' w' => match x with | .normal => Q .normal a' w' | _ => False) (by intro x a' w' h; cases x <;> first | exact h | exact h.elim) ?_
  refine wp_region_held (S := fun V => Keep (fun j => j = b4) A V) (by kernel_rfl) ?_
  have hS0 : Hid (Keep (fun j => j = b4) A A.drew) := (Keep.refl _ A).drew
  change wpAnyH Try.prog .any _ _ (fun V => Keep (fun j => j = b4) A V) 14 (Array.replicate 14 false) _ A.drew
  obtain ⟨V0, hV0⟩ : ∃ V0, A.drew = V0 := ⟨_, rfl⟩
  rw [hV0]
  rw [hV0] at hS0
  have hX0 : Hid (Blk V0 b4 30 [.slice (some ⟨g, 0, none⟩) n c, ev]) := by rw [← hV0]; exact HX.out
  clear hV0
  refine wpAnyH_take (i := 1) (oi := { dst := some 14, op := Op.fieldAddr 30 (Operand.tmp 4) 0, type := 0, pos := "ref.go:53", after := #[], guard := none }) (v := .pointer (some ⟨b4, 0, none⟩)) rfl (by kernel_rfl) (by kernel_rfl) (by kernel_rfl) (fun _ _ _ h => h.elim) (Or.inl ⟨by rfl, ?y1⟩) hS0.out ?_
  case y1 =>
    intro V hV
    go_simp
  simp only [Act.put, List.setIfInBounds_toArray, List.set_cons_zero, List.set_cons_succ]
  refine wpAnyH_take (i := 3) (oi := { dst := some 16, op := Op.move (Operand.tmp 9), type := 3, pos := "ref.go:53", after := #[], guard := none }) (v := iv (k : Int)) rfl (by kernel_rfl) (by kernel_rfl) (by kernel_rfl) (fun _ _ _ h => h.elim) (Or.inl ⟨by rfl, ?y2⟩) hS0.out ?_
  case y2 =>
    intro V hV
    go_simp
  simp only [Act.put, List.setIfInBounds_toArray, List.set_cons_zero, List.set_cons_succ]
  refine wpAnyH_take (i := 6) (oi := { dst := some 19, op := Op.fieldAddr 30 (Operand.tmp 4) 0, type := 0, pos := "ref.go:53", after := #[], guard := none }) (v := .pointer (some ⟨b4, 0, none⟩)) rfl (by kernel_rfl) (by kernel_rfl) (by kernel_rfl) (fun _ _ _ h => h.elim) (Or.inl ⟨by rfl, ?y3⟩) hS0.out ?_
  case y3 =>
    intro V hV
    go_simp
  simp only [Act.put, List.setIfInBounds_toArray, List.set_cons_zero, List.set_cons_succ]
  refine wpAnyH_take (i := 8) (oi := { dst := some 21, op := Op.move (Operand.tmp 9), type := 3, pos := "ref.go:53", after := #[], guard := none }) (v := iv (k : Int)) rfl (by kernel_rfl) (by kernel_rfl) (by kernel_rfl) (fun _ _ _ h => h.elim) (Or.inl ⟨by rfl, ?y4⟩) hS0.out ?_
  case y4 =>
    intro V hV
    go_simp
  simp only [Act.put, List.setIfInBounds_toArray, List.set_cons_zero, List.set_cons_succ]
  refine wpAnyH_take (i := 9) (oi := { dst := some 22, op := Op.binOp BinOp.add 3 (Operand.tmp 21) (Operand.const (Value.int IntKind.i64 1)) 3, type := 3, pos := "ref.go:53", after := #[{ on := 8, ground := Ground.data }], guard := none }) (v := iv ((k : Int) + 1)) rfl (by kernel_rfl) (by kernel_rfl) (by kernel_rfl) (fun _ _ _ h => h.elim) (Or.inl ⟨by rfl, ?y5⟩) hS0.out ?_
  case y5 =>
    intro V hV
    exact yl_add1 V (.tmp 21) k n rfl rfl (by have := HN.out; omega) (by have := HN.out; omega)
  simp only [Act.put, List.setIfInBounds_toArray, List.set_cons_zero, List.set_cons_succ]
  refine wpAnyH_ready (rs := [0, 2, 7]) (by kernel_rfl) (by simp) (AllReadyH.cons (i := 0) (o := { dst := some 13, op := Op.buildSlice 27 0 #[], type := 27, pos := "ref.go:53", after := #[], guard := none }) rfl ?_ (AllReadyH.cons (i := 2) (o := { dst := some 15, op := Op.load 27 (Operand.tmp 14), type := 27, pos := "ref.go:53", after := #[{ on := 1, ground := Ground.data }], guard := none }) rfl ?_ (AllReadyH.cons (i := 7) (o := { dst := some 20, op := Op.load 27 (Operand.tmp 19), type := 27, pos := "ref.go:53", after := #[{ on := 6, ground := Ground.data }], guard := none }) rfl ?_ AllReadyH.nil)))
  · intro K1 hK1
    refine step_bs0 (by rfl) 27 rfl (run_bs27_0' _) ?_
    have hr1 : V0.heap.size ≥ A.heap.size := hS0.out.size
    obtain ⟨V1, hv1⟩ : ∃ V, V0.alloc (.cells #[] 3) = V := ⟨_, rfl⟩
    have hw1 : Below A.heap.size V0 V1 := by rw [← hv1]; exact (Below.refl _ _).alloc hr1 _
    have hO1 : Hid (V1.ownsRow A.heap.size 3 1 (.slice (some ⟨V0.heap.size, 0, none⟩) 0 0) 0 []) := by rw [← hv1]; exact ownsRow_base (empty_row V0 3 1) hr1
    have hS1 : Hid (Keep (fun j => j = b4) A V1) := keepB hS0.out hw1
    have hX1 : Hid (Blk V1 b4 30 [.slice (some ⟨g, 0, none⟩) n c, ev]) := ((hw1).block b4 HL.out).trans hX0.out
    obtain ⟨q1, hq1⟩ : ∃ m, V0.heap.size = m := ⟨_, rfl⟩
    rw [hq1] at hO1
    rw [hv1, hq1]
    clear hv1 hq1 hw1 hr1
    refine hK1.out _ _ hS1.out ?_
    clear hK1
    intro _
    try simp only [Act.put, List.setIfInBounds_toArray, List.set_cons_zero, List.set_cons_succ]
    refine wpAnyH_ready (rs := [2, 7]) (by kernel_rfl) (by simp) (AllReadyH.cons (i := 2) (o := { dst := some 15, op := Op.load 27 (Operand.tmp 14), type := 27, pos := "ref.go:53", after := #[{ on := 1, ground := Ground.data }], guard := none }) rfl ?_ (AllReadyH.cons (i := 7) (o := { dst := some 20, op := Op.load 27 (Operand.tmp 19), type := 27, pos := "ref.go:53", after := #[{ on := 6, ground := Ground.data }], guard := none }) rfl ?_ AllReadyH.nil))
    · intro K1 hK1
      rw [if_pos (by rfl)]
      have hc : V1.cell? ⟨b4, 0, none⟩ = some (.slice (some ⟨g, 0, none⟩) n c) := hX1.out.cell rfl
      go_wp2
      clear hc
      refine hK1.out _ _ hS1.out ?_
      clear hK1
      intro _
      try simp only [Act.put, List.setIfInBounds_toArray, List.set_cons_zero, List.set_cons_succ]
      refine wpAnyH_take (i := 4) (oi := { dst := some 17, op := Op.slice 27 (Operand.tmp 15) none (some (Operand.tmp 16)) none, type := 27, pos := "ref.go:53", after := #[{ on := 2, ground := Ground.data }, { on := 3, ground := Ground.data }], guard := none }) (v := .slice (some ⟨g, 0, none⟩) k c) rfl (by kernel_rfl) (by kernel_rfl) (by kernel_rfl) (fun _ _ _ h => h.elim) (Or.inl ⟨by rfl, ?y6⟩) hS1.out ?_
      case y6 =>
        intro V hV
        exact yl_upto V 27 (.tmp 15) (.tmp 16) _ _ _ _ rfl rfl rfl HU.out.1 HU.out.2.1 (by have := HN.out; omega)
      simp only [Act.put, List.setIfInBounds_toArray, List.set_cons_zero, List.set_cons_succ]
      refine wpAnyH_ready (rs := [5, 7]) (by kernel_rfl) (by simp) (AllReadyH.cons (i := 5) (o := { dst := some 18, op := Op.call { callee := Callee.builtin Builtin.append, args := #[Operand.tmp 13, Operand.tmp 17], argTypes := #[27, 27] }, type := 27, pos := "ref.go:53", after := #[{ on := 0, ground := Ground.data }, { on := 4, ground := Ground.data }], guard := none }) rfl ?_ (AllReadyH.cons (i := 7) (o := { dst := some 20, op := Op.load 27 (Operand.tmp 19), type := 27, pos := "ref.go:53", after := #[{ on := 6, ground := Ground.data }], guard := none }) rfl ?_ AllReadyH.nil))
      · intro K1 hK1
        have hd3 := (HR.out V1 hS1.out).take (i := k) (by have := HN.out; omega)
        refine step_append_ownR (by rfl) (.tmp 13) (.tmp 17) 27 rfl _ 3 i0 z 1 A.heap.size Try.underlying27 HI0.out.1 HI0.out.2.1 HI0.out.2.2.1 HI0.out.2.2.2.1 HI0.out.2.2.2.2 (by omega) _ 0 [] hO1.out (some ⟨g, 0, none⟩) (k) c ((ivs l).take (k * 1)) rfl rfl hd3 hS1.out.size (by have := HN.out; omega) ?_
        intro v3 V3 ho3 hw3
        have hS3 : Hid (Keep (fun j => j = b4) A V3) := keepB hS1.out hw3.out
        have hX3 : Hid (Blk V3 b4 30 [.slice (some ⟨g, 0, none⟩) n c, ev]) := ((hw3.out).block b4 HL.out).trans hX1.out
        clear hd3
        refine hK1.out _ _ hS3.out ?_
        clear hK1
        intro _
        try simp only [Act.put, List.setIfInBounds_toArray, List.set_cons_zero, List.set_cons_succ]
        refine wpAnyH_ready (rs := [7]) (by kernel_rfl) (by simp) (AllReadyH.cons (i := 7) (o := { dst := some 20, op := Op.load 27 (Operand.tmp 19), type := 27, pos := "ref.go:53", after := #[{ on := 6, ground := Ground.data }], guard := none }) rfl ?_ AllReadyH.nil)
        · intro K1 hK1
          rw [if_pos (by rfl)]
          have hc : V3.cell? ⟨b4, 0, none⟩ = some (.slice (some ⟨g, 0, none⟩) n c) := hX3.out.cell rfl
          go_wp2
          clear hc
          refine hK1.out _ _ hS3.out ?_
          clear hK1
          intro _
          try simp only [Act.put, List.setIfInBounds_toArray, List.set_cons_zero, List.set_cons_succ]
          refine wpAnyH_take (i := 10) (oi := { dst := some 23, op := Op.slice 27 (Operand.tmp 20) (some (Operand.tmp 22)) none none, type := 27, pos := "ref.go:53", after := #[{ on := 7, ground := Ground.data }, { on := 9, ground := Ground.data }], guard := none }) (v := .slice (some ⟨g, o1, none⟩) (n - (k + 1)) (c - (k + 1))) rfl (by kernel_rfl) (by kernel_rfl) (by kernel_rfl) (fun _ _ _ h => h.elim) (Or.inl ⟨by rfl, ?y7⟩) hS3.out ?_
          case y7 =>
            intro V hV
            exact yl_from V 27 (.tmp 20) (.tmp 22) _ _ _ _ _ rfl rfl rfl HU.out.1 HU.out.2.1 HU.out.2.2 (by have := HN.out; omega) HOF.out
          simp only [Act.put, List.setIfInBounds_toArray, List.set_cons_zero, List.set_cons_succ]
          refine wpAnyH_ready (rs := [11]) (by kernel_rfl) (by simp) (AllReadyH.cons (i := 11) (o := { dst := some 24, op := Op.call { callee := Callee.builtin Builtin.append, args := #[Operand.tmp 18, Operand.tmp 23], argTypes := #[27, 27] }, type := 27, pos := "ref.go:53", after := #[{ on := 5, ground := Ground.data }, { on := 10, ground := Ground.data }, { on := 5, ground := Ground.chain }], guard := none }) rfl ?_ AllReadyH.nil)
          · intro K1 hK1
            have hd5 := rd_from (HR.out V3 hS3.out) HN.out.1 HN.out.2.1 HOF.out
            refine step_append_ownR (by rfl) (.tmp 18) (.tmp 23) 27 rfl _ 3 i0 z 1 A.heap.size Try.underlying27 HI0.out.1 HI0.out.2.1 HI0.out.2.2.1 HI0.out.2.2.2.1 HI0.out.2.2.2.2 (by omega) _ (0 + k) ([] ++ (ivs l).take (k * 1)) ho3.out (some ⟨g, o1, none⟩) (n - (k + 1)) (c - (k + 1)) ((ivs l).drop ((k + 1) * 1)) rfl rfl hd5 hS3.out.size (by have := HN.out; omega) ?_
            intro v5 V5 ho5 hw5
            have hS5 : Hid (Keep (fun j => j = b4) A V5) := keepB hS3.out hw5.out
            have hX5 : Hid (Blk V5 b4 30 [.slice (some ⟨g, 0, none⟩) n c, ev]) := ((hw5.out).block b4 HL.out).trans hX3.out
            clear hd5
            refine hK1.out _ _ hS5.out ?_
            clear hK1
            intro _
            try simp only [Act.put, List.setIfInBounds_toArray, List.set_cons_zero, List.set_cons_succ]
            refine wpAnyH_take (i := 12) (oi := { dst := some 25, op := Op.fieldAddr 30 (Operand.tmp 4) 0, type := 0, pos := "ref.go:53", after := #[{ on := 0, ground := Ground.phase }, { on := 1, ground := Ground.phase }, { on := 2, ground := Ground.phase }, { on := 3, ground := Ground.phase }, { on := 4, ground := Ground.phase }, { on := 5, ground := Ground.phase }, { on := 6, ground := Ground.phase }, { on := 7, ground := Ground.phase }, { on := 8, ground := Ground.phase }, { on := 9, ground := Ground.phase }, { on := 10, ground := Ground.phase }, { on := 11, ground := Ground.phase }], guard := none }) (v := .pointer (some ⟨b4, 0, none⟩)) rfl (by kernel_rfl) (by kernel_rfl) (by kernel_rfl) (fun _ _ _ h => h.elim) (Or.inl ⟨by rfl, ?y8⟩) hS5.out ?_
            case y8 =>
              intro V hV
              go_simp
            simp only [Act.put, List.setIfInBounds_toArray, List.set_cons_zero, List.set_cons_succ]
            refine wpAnyH_ready (rs := [13]) (by kernel_rfl) (by simp) (AllReadyH.cons (i := 13) (o := { dst := none, op := Op.store 27 (Operand.tmp 25) (Operand.tmp 24), type := 0, pos := "ref.go:53", after := #[{ on := 12, ground := Ground.data }, { on := 11, ground := Ground.data }, { on := 11, ground := Ground.chain }, { on := 0, ground := Ground.phase }, { on := 1, ground := Ground.phase }, { on := 2, ground := Ground.phase }, { on := 3, ground := Ground.phase }, { on := 4, ground := Ground.phase }, { on := 5, ground := Ground.phase }, { on := 6, ground := Ground.phase }, { on := 7, ground := Ground.phase }, { on := 8, ground := Ground.phase }, { on := 9, ground := Ground.phase }, { on := 10, ground := Ground.phase }, { on := 11, ground := Ground.phase }], guard := none }) rfl ?_ AllReadyH.nil)
            · intro K1 hK1
              refine step_st (by rfl) 27 (.tmp 25) (.tmp 24) rfl b4 0 v5 30 _ rfl rfl hX5.out (by simp) (by kernel_rfl) (own_slice ho5.out).1 (own_slice ho5.out).2 ?_
              obtain ⟨V6, hv6⟩ : ∃ V, V5.setCell ⟨b4, 0, none⟩ v5 = V := ⟨_, rfl⟩
              have hg6 : V5.grownBy V6 (some b4) := by rw [← hv6]; exact grown_setCell _ _ _ _
              have hS6 : Hid (Keep (fun j => j = b4) A V6) := hS5.out.trans (Keep.grown (S := fun j => j = b4) hg6 rfl) (fun _ hj _ => hj)
              have hX6 : Hid (Blk V6 b4 30 [v5, ev]) := by rw [← hv6]; exact hX5.out.set 0 v5
              have hO6 : Hid (V6.ownsRow A.heap.size 3 1 v5 (0 + k + (n - (k + 1))) ([] ++ (ivs l).take (k * 1) ++ (ivs l).drop ((k + 1) * 1))) := own_same ho5.out (fun g h1 h2 => hg6.block g h2 (fun e => by cases e; have := HL.out; omega))
              rw [hv6]
              clear hv6 hg6
              refine hK1.out _ _ hS6.out ?_
              clear hK1
              intro _
              try simp only [Act.put, List.setIfInBounds_toArray, List.set_cons_zero, List.set_cons_succ]
              refine wpAnyH_done (by kernel_rfl) ?_ _
              exact hQ V6 _ _ _ ⟨hO6.out, hX6.out, hS6.out⟩
      · intro K1 hK1
        rw [if_pos (by rfl)]
        have hc : V1.cell? ⟨b4, 0, none⟩ = some (.slice (some ⟨g, 0, none⟩) n c) := hX1.out.cell rfl
        go_wp2
        clear hc
        refine hK1.out _ _ hS1.out ?_
        clear hK1
        intro _
        try simp only [Act.put, List.setIfInBounds_toArray, List.set_cons_zero, List.set_cons_succ]
        refine wpAnyH_take (i := 10) (oi := { dst := some 23, op := Op.slice 27 (Operand.tmp 20) (some (Operand.tmp 22)) none none, type := 27, pos := "ref.go:53", after := #[{ on := 7, ground := Ground.data }, { on := 9, ground := Ground.data }], guard := none }) (v := .slice (some ⟨g, o1, none⟩) (n - (k + 1)) (c - (k + 1))) rfl (by kernel_rfl) (by kernel_rfl) (by kernel_rfl) (fun _ _ _ h => h.elim) (Or.inl ⟨by rfl, ?y9⟩) hS1.out ?_
        case y9 =>
          intro V hV
          exact yl_from V 27 (.tmp 20) (.tmp 22) _ _ _ _ _ rfl rfl rfl HU.out.1 HU.out.2.1 HU.out.2.2 (by have := HN.out; omega) HOF.out
        simp only [Act.put, List.setIfInBounds_toArray, List.set_cons_zero, List.set_cons_succ]
        refine wpAnyH_ready (rs := [5]) (by kernel_rfl) (by simp) (AllReadyH.cons (i := 5) (o := { dst := some 18, op := Op.call { callee := Callee.builtin Builtin.append, args := #[Operand.tmp 13, Operand.tmp 17], argTypes := #[27, 27] }, type := 27, pos := "ref.go:53", after := #[{ on := 0, ground := Ground.data }, { on := 4, ground := Ground.data }], guard := none }) rfl ?_ AllReadyH.nil)
        · intro K1 hK1
          have hd4 := (HR.out V1 hS1.out).take (i := k) (by have := HN.out; omega)
          refine step_append_ownR (by rfl) (.tmp 13) (.tmp 17) 27 rfl _ 3 i0 z 1 A.heap.size Try.underlying27 HI0.out.1 HI0.out.2.1 HI0.out.2.2.1 HI0.out.2.2.2.1 HI0.out.2.2.2.2 (by omega) _ 0 [] hO1.out (some ⟨g, 0, none⟩) (k) c ((ivs l).take (k * 1)) rfl rfl hd4 hS1.out.size (by have := HN.out; omega) ?_
          intro v4 V4 ho4 hw4
          have hS4 : Hid (Keep (fun j => j = b4) A V4) := keepB hS1.out hw4.out
          have hX4 : Hid (Blk V4 b4 30 [.slice (some ⟨g, 0, none⟩) n c, ev]) := ((hw4.out).block b4 HL.out).trans hX1.out
          clear hd4
          refine hK1.out _ _ hS4.out ?_
          clear hK1
          intro _
          try simp only [Act.put, List.setIfInBounds_toArray, List.set_cons_zero, List.set_cons_succ]
          refine wpAnyH_ready (rs := [11]) (by kernel_rfl) (by simp) (AllReadyH.cons (i := 11) (o := { dst := some 24, op := Op.call { callee := Callee.builtin Builtin.append, args := #[Operand.tmp 18, Operand.tmp 23], argTypes := #[27, 27] }, type := 27, pos := "ref.go:53", after := #[{ on := 5, ground := Ground.data }, { on := 10, ground := Ground.data }, { on := 5, ground := Ground.chain }], guard := none }) rfl ?_ AllReadyH.nil)
          · intro K1 hK1
            have hd5 := rd_from (HR.out V4 hS4.out) HN.out.1 HN.out.2.1 HOF.out
            refine step_append_ownR (by rfl) (.tmp 18) (.tmp 23) 27 rfl _ 3 i0 z 1 A.heap.size Try.underlying27 HI0.out.1 HI0.out.2.1 HI0.out.2.2.1 HI0.out.2.2.2.1 HI0.out.2.2.2.2 (by omega) _ (0 + k) ([] ++ (ivs l).take (k * 1)) ho4.out (some ⟨g, o1, none⟩) (n - (k + 1)) (c - (k + 1)) ((ivs l).drop ((k + 1) * 1)) rfl rfl hd5 hS4.out.size (by have := HN.out; omega) ?_
            intro v5 V5 ho5 hw5
            have hS5 : Hid (Keep (fun j => j = b4) A V5) := keepB hS4.out hw5.out
            have hX5 : Hid (Blk V5 b4 30 [.slice (some ⟨g, 0, none⟩) n c, ev]) := ((hw5.out).block b4 HL.out).trans hX4.out
            clear hd5
            refine hK1.out _ _ hS5.out ?_
            clear hK1
            intro _
            try simp only [Act.put, List.setIfInBounds_toArray, List.set_cons_zero, List.set_cons_succ]
            refine wpAnyH_take (i := 12) (oi := { dst := some 25, op := Op.fieldAddr 30 (Operand.tmp 4) 0, type := 0, pos := "ref.go:53", after := #[{ on := 0, ground := Ground.phase }, { on := 1, ground := Ground.phase }, { on := 2, ground := Ground.phase }, { on := 3, ground := Ground.phase }, { on := 4, ground := Ground.phase }, { on := 5, ground := Ground.phase }, { on := 6, ground := Ground.phase }, { on := 7, ground := Ground.phase }, { on := 8, ground := Ground.phase }, { on := 9, ground := Ground.phase }, { on := 10, ground := Ground.phase }, { on := 11, ground := Ground.phase }], guard := none }) (v := .pointer (some ⟨b4, 0, none⟩)) rfl (by kernel_rfl) (by kernel_rfl) (by kernel_rfl) (fun _ _ _ h => h.elim) (Or.inl ⟨by rfl, ?y10⟩) hS5.out ?_
            case y10 =>
              intro V hV
              go_simp
            simp only [Act.put, List.setIfInBounds_toArray, List.set_cons_zero, List.set_cons_succ]
            refine wpAnyH_ready (rs := [13]) (by kernel_rfl) (by simp) (AllReadyH.cons (i := 13) (o := { dst := none, op := Op.store 27 (Operand.tmp 25) (Operand.tmp 24), type := 0, pos := "ref.go:53", after := #[{ on := 12, ground := Ground.data }, { on := 11, ground := Ground.data }, { on := 11, ground := Ground.chain }, { on := 0, ground := Ground.phase }, { on := 1, ground := Ground.phase }, { on := 2, ground := Ground.phase }, { on := 3, ground := Ground.phase }, { on := 4, ground := Ground.phase }, { on := 5, ground := Ground.phase }, { on := 6, ground := Ground.phase }, { on := 7, ground := Ground.phase }, { on := 8, ground := Ground.phase }, { on := 9, ground := Ground.phase }, { on := 10, ground := Ground.phase }, { on := 11, ground := Ground.phase }], guard := none }) rfl ?_ AllReadyH.nil)
            · intro K1 hK1
              refine step_st (by rfl) 27 (.tmp 25) (.tmp 24) rfl b4 0 v5 30 _ rfl rfl hX5.out (by simp) (by kernel_rfl) (own_slice ho5.out).1 (own_slice ho5.out).2 ?_
              obtain ⟨V6, hv6⟩ : ∃ V, V5.setCell ⟨b4, 0, none⟩ v5 = V := ⟨_, rfl⟩
              have hg6 : V5.grownBy V6 (some b4) := by rw [← hv6]; exact grown_setCell _ _ _ _
              have hS6 : Hid (Keep (fun j => j = b4) A V6) := hS5.out.trans (Keep.grown (S := fun j => j = b4) hg6 rfl) (fun _ hj _ => hj)
              have hX6 : Hid (Blk V6 b4 30 [v5, ev]) := by rw [← hv6]; exact hX5.out.set 0 v5
              have hO6 : Hid (V6.ownsRow A.heap.size 3 1 v5 (0 + k + (n - (k + 1))) ([] ++ (ivs l).take (k * 1) ++ (ivs l).drop ((k + 1) * 1))) := own_same ho5.out (fun g h1 h2 => hg6.block g h2 (fun e => by cases e; have := HL.out; omega))
              rw [hv6]
              clear hv6 hg6
              refine hK1.out _ _ hS6.out ?_
              clear hK1
              intro _
              try simp only [Act.put, List.setIfInBounds_toArray, List.set_cons_zero, List.set_cons_succ]
              refine wpAnyH_done (by kernel_rfl) ?_ _
              exact hQ V6 _ _ _ ⟨hO6.out, hX6.out, hS6.out⟩
    · intro K1 hK1
      rw [if_pos (by rfl)]
      have hc : V1.cell? ⟨b4, 0, none⟩ = some (.slice (some ⟨g, 0, none⟩) n c) := hX1.out.cell rfl
      go_wp2
      clear hc
      refine hK1.out _ _ hS1.out ?_
      clear hK1
      intro _
      try simp only [Act.put, List.setIfInBounds_toArray, List.set_cons_zero, List.set_cons_succ]
      refine wpAnyH_take (i := 10) (oi := { dst := some 23, op := Op.slice 27 (Operand.tmp 20) (some (Operand.tmp 22)) none none, type := 27, pos := "ref.go:53", after := #[{ on := 7, ground := Ground.data }, { on := 9, ground := Ground.data }], guard := none }) (v := .slice (some ⟨g, o1, none⟩) (n - (k + 1)) (c - (k + 1))) rfl (by kernel_rfl) (by kernel_rfl) (by kernel_rfl) (fun _ _ _ h => h.elim) (Or.inl ⟨by rfl, ?y11⟩) hS1.out ?_
      case y11 =>
        intro V hV
        exact yl_from V 27 (.tmp 20) (.tmp 22) _ _ _ _ _ rfl rfl rfl HU.out.1 HU.out.2.1 HU.out.2.2 (by have := HN.out; omega) HOF.out
      simp only [Act.put, List.setIfInBounds_toArray, List.set_cons_zero, List.set_cons_succ]
      refine wpAnyH_ready (rs := [2]) (by kernel_rfl) (by simp) (AllReadyH.cons (i := 2) (o := { dst := some 15, op := Op.load 27 (Operand.tmp 14), type := 27, pos := "ref.go:53", after := #[{ on := 1, ground := Ground.data }], guard := none }) rfl ?_ AllReadyH.nil)
      · intro K1 hK1
        rw [if_pos (by rfl)]
        have hc : V1.cell? ⟨b4, 0, none⟩ = some (.slice (some ⟨g, 0, none⟩) n c) := hX1.out.cell rfl
        go_wp2
        clear hc
        refine hK1.out _ _ hS1.out ?_
        clear hK1
        intro _
        try simp only [Act.put, List.setIfInBounds_toArray, List.set_cons_zero, List.set_cons_succ]
        refine wpAnyH_take (i := 4) (oi := { dst := some 17, op := Op.slice 27 (Operand.tmp 15) none (some (Operand.tmp 16)) none, type := 27, pos := "ref.go:53", after := #[{ on := 2, ground := Ground.data }, { on := 3, ground := Ground.data }], guard := none }) (v := .slice (some ⟨g, 0, none⟩) k c) rfl (by kernel_rfl) (by kernel_rfl) (by kernel_rfl) (fun _ _ _ h => h.elim) (Or.inl ⟨by rfl, ?y12⟩) hS1.out ?_
        case y12 =>
          intro V hV
          exact yl_upto V 27 (.tmp 15) (.tmp 16) _ _ _ _ rfl rfl rfl HU.out.1 HU.out.2.1 (by have := HN.out; omega)
        simp only [Act.put, List.setIfInBounds_toArray, List.set_cons_zero, List.set_cons_succ]
        refine wpAnyH_ready (rs := [5]) (by kernel_rfl) (by simp) (AllReadyH.cons (i := 5) (o := { dst := some 18, op := Op.call { callee := Callee.builtin Builtin.append, args := #[Operand.tmp 13, Operand.tmp 17], argTypes := #[27, 27] }, type := 27, pos := "ref.go:53", after := #[{ on := 0, ground := Ground.data }, { on := 4, ground := Ground.data }], guard := none }) rfl ?_ AllReadyH.nil)
        · intro K1 hK1
          have hd4 := (HR.out V1 hS1.out).take (i := k) (by have := HN.out; omega)
          refine step_append_ownR (by rfl) (.tmp 13) (.tmp 17) 27 rfl _ 3 i0 z 1 A.heap.size Try.underlying27 HI0.out.1 HI0.out.2.1 HI0.out.2.2.1 HI0.out.2.2.2.1 HI0.out.2.2.2.2 (by omega) _ 0 [] hO1.out (some ⟨g, 0, none⟩) (k) c ((ivs l).take (k * 1)) rfl rfl hd4 hS1.out.size (by have := HN.out; omega) ?_
          intro v4 V4 ho4 hw4
          have hS4 : Hid (Keep (fun j => j = b4) A V4) := keepB hS1.out hw4.out
          have hX4 : Hid (Blk V4 b4 30 [.slice (some ⟨g, 0, none⟩) n c, ev]) := ((hw4.out).block b4 HL.out).trans hX1.out
          clear hd4
          refine hK1.out _ _ hS4.out ?_
          clear hK1
          intro _
          try simp only [Act.put, List.setIfInBounds_toArray, List.set_cons_zero, List.set_cons_succ]
          refine wpAnyH_ready (rs := [11]) (by kernel_rfl) (by simp) (AllReadyH.cons (i := 11) (o := { dst := some 24, op := Op.call { callee := Callee.builtin Builtin.append, args := #[Operand.tmp 18, Operand.tmp 23], argTypes := #[27, 27] }, type := 27, pos := "ref.go:53", after := #[{ on := 5, ground := Ground.data }, { on := 10, ground := Ground.data }, { on := 5, ground := Ground.chain }], guard := none }) rfl ?_ AllReadyH.nil)
          · intro K1 hK1
            have hd5 := rd_from (HR.out V4 hS4.out) HN.out.1 HN.out.2.1 HOF.out
            refine step_append_ownR (by rfl) (.tmp 18) (.tmp 23) 27 rfl _ 3 i0 z 1 A.heap.size Try.underlying27 HI0.out.1 HI0.out.2.1 HI0.out.2.2.1 HI0.out.2.2.2.1 HI0.out.2.2.2.2 (by omega) _ (0 + k) ([] ++ (ivs l).take (k * 1)) ho4.out (some ⟨g, o1, none⟩) (n - (k + 1)) (c - (k + 1)) ((ivs l).drop ((k + 1) * 1)) rfl rfl hd5 hS4.out.size (by have := HN.out; omega) ?_
            intro v5 V5 ho5 hw5
            have hS5 : Hid (Keep (fun j => j = b4) A V5) := keepB hS4.out hw5.out
            have hX5 : Hid (Blk V5 b4 30 [.slice (some ⟨g, 0, none⟩) n c, ev]) := ((hw5.out).block b4 HL.out).trans hX4.out
            clear hd5
            refine hK1.out _ _ hS5.out ?_
            clear hK1
            intro _
            try simp only [Act.put, List.setIfInBounds_toArray, List.set_cons_zero, List.set_cons_succ]
            refine wpAnyH_take (i := 12) (oi := { dst := some 25, op := Op.fieldAddr 30 (Operand.tmp 4) 0, type := 0, pos := "ref.go:53", after := #[{ on := 0, ground := Ground.phase }, { on := 1, ground := Ground.phase }, { on := 2, ground := Ground.phase }, { on := 3, ground := Ground.phase }, { on := 4, ground := Ground.phase }, { on := 5, ground := Ground.phase }, { on := 6, ground := Ground.phase }, { on := 7, ground := Ground.phase }, { on := 8, ground := Ground.phase }, { on := 9, ground := Ground.phase }, { on := 10, ground := Ground.phase }, { on := 11, ground := Ground.phase }], guard := none }) (v := .pointer (some ⟨b4, 0, none⟩)) rfl (by kernel_rfl) (by kernel_rfl) (by kernel_rfl) (fun _ _ _ h => h.elim) (Or.inl ⟨by rfl, ?y13⟩) hS5.out ?_
            case y13 =>
              intro V hV
              go_simp
            simp only [Act.put, List.setIfInBounds_toArray, List.set_cons_zero, List.set_cons_succ]
            refine wpAnyH_ready (rs := [13]) (by kernel_rfl) (by simp) (AllReadyH.cons (i := 13) (o := { dst := none, op := Op.store 27 (Operand.tmp 25) (Operand.tmp 24), type := 0, pos := "ref.go:53", after := #[{ on := 12, ground := Ground.data }, { on := 11, ground := Ground.data }, { on := 11, ground := Ground.chain }, { on := 0, ground := Ground.phase }, { on := 1, ground := Ground.phase }, { on := 2, ground := Ground.phase }, { on := 3, ground := Ground.phase }, { on := 4, ground := Ground.phase }, { on := 5, ground := Ground.phase }, { on := 6, ground := Ground.phase }, { on := 7, ground := Ground.phase }, { on := 8, ground := Ground.phase }, { on := 9, ground := Ground.phase }, { on := 10, ground := Ground.phase }, { on := 11, ground := Ground.phase }], guard := none }) rfl ?_ AllReadyH.nil)
            · intro K1 hK1
              refine step_st (by rfl) 27 (.tmp 25) (.tmp 24) rfl b4 0 v5 30 _ rfl rfl hX5.out (by simp) (by kernel_rfl) (own_slice ho5.out).1 (own_slice ho5.out).2 ?_
              obtain ⟨V6, hv6⟩ : ∃ V, V5.setCell ⟨b4, 0, none⟩ v5 = V := ⟨_, rfl⟩
              have hg6 : V5.grownBy V6 (some b4) := by rw [← hv6]; exact grown_setCell _ _ _ _
              have hS6 : Hid (Keep (fun j => j = b4) A V6) := hS5.out.trans (Keep.grown (S := fun j => j = b4) hg6 rfl) (fun _ hj _ => hj)
              have hX6 : Hid (Blk V6 b4 30 [v5, ev]) := by rw [← hv6]; exact hX5.out.set 0 v5
              have hO6 : Hid (V6.ownsRow A.heap.size 3 1 v5 (0 + k + (n - (k + 1))) ([] ++ (ivs l).take (k * 1) ++ (ivs l).drop ((k + 1) * 1))) := own_same ho5.out (fun g h1 h2 => hg6.block g h2 (fun e => by cases e; have := HL.out; omega))
              rw [hv6]
              clear hv6 hg6
              refine hK1.out _ _ hS6.out ?_
              clear hK1
              intro _
              try simp only [Act.put, List.setIfInBounds_toArray, List.set_cons_zero, List.set_cons_succ]
              refine wpAnyH_done (by kernel_rfl) ?_ _
              exact hQ V6 _ _ _ ⟨hO6.out, hX6.out, hS6.out⟩
  · intro K1 hK1
    rw [if_pos (by rfl)]
    have hc : V0.cell? ⟨b4, 0, none⟩ = some (.slice (some ⟨g, 0, none⟩) n c) := hX0.out.cell rfl
    go_wp2
    clear hc
    refine hK1.out _ _ hS0.out ?_
    clear hK1
    intro _
    try simp only [Act.put, List.setIfInBounds_toArray, List.set_cons_zero, List.set_cons_succ]
    refine wpAnyH_take (i := 4) (oi := { dst := some 17, op := Op.slice 27 (Operand.tmp 15) none (some (Operand.tmp 16)) none, type := 27, pos := "ref.go:53", after := #[{ on := 2, ground := Ground.data }, { on := 3, ground := Ground.data }], guard := none }) (v := .slice (some ⟨g, 0, none⟩) k c) rfl (by kernel_rfl) (by kernel_rfl) (by kernel_rfl) (fun _ _ _ h => h.elim) (Or.inl ⟨by rfl, ?y14⟩) hS0.out ?_
    case y14 =>
      intro V hV
      exact yl_upto V 27 (.tmp 15) (.tmp 16) _ _ _ _ rfl rfl rfl HU.out.1 HU.out.2.1 (by have := HN.out; omega)
    simp only [Act.put, List.setIfInBounds_toArray, List.set_cons_zero, List.set_cons_succ]
    refine wpAnyH_ready (rs := [0, 7]) (by kernel_rfl) (by simp) (AllReadyH.cons (i := 0) (o := { dst := some 13, op := Op.buildSlice 27 0 #[], type := 27, pos := "ref.go:53", after := #[], guard := none }) rfl ?_ (AllReadyH.cons (i := 7) (o := { dst := some 20, op := Op.load 27 (Operand.tmp 19), type := 27, pos := "ref.go:53", after := #[{ on := 6, ground := Ground.data }], guard := none }) rfl ?_ AllReadyH.nil))
    · intro K1 hK1
      refine step_bs0 (by rfl) 27 rfl (run_bs27_0' _) ?_
      have hr2 : V0.heap.size ≥ A.heap.size := hS0.out.size
      obtain ⟨V2, hv2⟩ : ∃ V, V0.alloc (.cells #[] 3) = V := ⟨_, rfl⟩
      have hw2 : Below A.heap.size V0 V2 := by rw [← hv2]; exact (Below.refl _ _).alloc hr2 _
      have hO2 : Hid (V2.ownsRow A.heap.size 3 1 (.slice (some ⟨V0.heap.size, 0, none⟩) 0 0) 0 []) := by rw [← hv2]; exact ownsRow_base (empty_row V0 3 1) hr2
      have hS2 : Hid (Keep (fun j => j = b4) A V2) := keepB hS0.out hw2
      have hX2 : Hid (Blk V2 b4 30 [.slice (some ⟨g, 0, none⟩) n c, ev]) := ((hw2).block b4 HL.out).trans hX0.out
      obtain ⟨q2, hq2⟩ : ∃ m, V0.heap.size = m := ⟨_, rfl⟩
      rw [hq2] at hO2
      rw [hv2, hq2]
      clear hv2 hq2 hw2 hr2
      refine hK1.out _ _ hS2.out ?_
      clear hK1
      intro _
      try simp only [Act.put, List.setIfInBounds_toArray, List.set_cons_zero, List.set_cons_succ]
      refine wpAnyH_ready (rs := [5, 7]) (by kernel_rfl) (by simp) (AllReadyH.cons (i := 5) (o := { dst := some 18, op := Op.call { callee := Callee.builtin Builtin.append, args := #[Operand.tmp 13, Operand.tmp 17], argTypes := #[27, 27] }, type := 27, pos := "ref.go:53", after := #[{ on := 0, ground := Ground.data }, { on := 4, ground := Ground.data }], guard := none }) rfl ?_ (AllReadyH.cons (i := 7) (o := { dst := some 20, op := Op.load 27 (Operand.tmp 19), type := 27, pos := "ref.go:53", after := #[{ on := 6, ground := Ground.data }], guard := none }) rfl ?_ AllReadyH.nil))
      · intro K1 hK1
        have hd3 := (HR.out V2 hS2.out).take (i := k) (by have := HN.out; omega)
        refine step_append_ownR (by rfl) (.tmp 13) (.tmp 17) 27 rfl _ 3 i0 z 1 A.heap.size Try.underlying27 HI0.out.1 HI0.out.2.1 HI0.out.2.2.1 HI0.out.2.2.2.1 HI0.out.2.2.2.2 (by omega) _ 0 [] hO2.out (some ⟨g, 0, none⟩) (k) c ((ivs l).take (k * 1)) rfl rfl hd3 hS2.out.size (by have := HN.out; omega) ?_
        intro v3 V3 ho3 hw3
        have hS3 : Hid (Keep (fun j => j = b4) A V3) := keepB hS2.out hw3.out
        have hX3 : Hid (Blk V3 b4 30 [.slice (some ⟨g, 0, none⟩) n c, ev]) := ((hw3.out).block b4 HL.out).trans hX2.out
        clear hd3
        refine hK1.out _ _ hS3.out ?_
        clear hK1
        intro _
        try simp only [Act.put, List.setIfInBounds_toArray, List.set_cons_zero, List.set_cons_succ]
        refine wpAnyH_ready (rs := [7]) (by kernel_rfl) (by simp) (AllReadyH.cons (i := 7) (o := { dst := some 20, op := Op.load 27 (Operand.tmp 19), type := 27, pos := "ref.go:53", after := #[{ on := 6, ground := Ground.data }], guard := none }) rfl ?_ AllReadyH.nil)
        · intro K1 hK1
          rw [if_pos (by rfl)]
          have hc : V3.cell? ⟨b4, 0, none⟩ = some (.slice (some ⟨g, 0, none⟩) n c) := hX3.out.cell rfl
          go_wp2
          clear hc
          refine hK1.out _ _ hS3.out ?_
          clear hK1
          intro _
          try simp only [Act.put, List.setIfInBounds_toArray, List.set_cons_zero, List.set_cons_succ]
          refine wpAnyH_take (i := 10) (oi := { dst := some 23, op := Op.slice 27 (Operand.tmp 20) (some (Operand.tmp 22)) none none, type := 27, pos := "ref.go:53", after := #[{ on := 7, ground := Ground.data }, { on := 9, ground := Ground.data }], guard := none }) (v := .slice (some ⟨g, o1, none⟩) (n - (k + 1)) (c - (k + 1))) rfl (by kernel_rfl) (by kernel_rfl) (by kernel_rfl) (fun _ _ _ h => h.elim) (Or.inl ⟨by rfl, ?y15⟩) hS3.out ?_
          case y15 =>
            intro V hV
            exact yl_from V 27 (.tmp 20) (.tmp 22) _ _ _ _ _ rfl rfl rfl HU.out.1 HU.out.2.1 HU.out.2.2 (by have := HN.out; omega) HOF.out
          simp only [Act.put, List.setIfInBounds_toArray, List.set_cons_zero, List.set_cons_succ]
          refine wpAnyH_ready (rs := [11]) (by kernel_rfl) (by simp) (AllReadyH.cons (i := 11) (o := { dst := some 24, op := Op.call { callee := Callee.builtin Builtin.append, args := #[Operand.tmp 18, Operand.tmp 23], argTypes := #[27, 27] }, type := 27, pos := "ref.go:53", after := #[{ on := 5, ground := Ground.data }, { on := 10, ground := Ground.data }, { on := 5, ground := Ground.chain }], guard := none }) rfl ?_ AllReadyH.nil)
          · intro K1 hK1
            have hd5 := rd_from (HR.out V3 hS3.out) HN.out.1 HN.out.2.1 HOF.out
            refine step_append_ownR (by rfl) (.tmp 18) (.tmp 23) 27 rfl _ 3 i0 z 1 A.heap.size Try.underlying27 HI0.out.1 HI0.out.2.1 HI0.out.2.2.1 HI0.out.2.2.2.1 HI0.out.2.2.2.2 (by omega) _ (0 + k) ([] ++ (ivs l).take (k * 1)) ho3.out (some ⟨g, o1, none⟩) (n - (k + 1)) (c - (k + 1)) ((ivs l).drop ((k + 1) * 1)) rfl rfl hd5 hS3.out.size (by have := HN.out; omega) ?_
            intro v5 V5 ho5 hw5
            have hS5 : Hid (Keep (fun j => j = b4) A V5) := keepB hS3.out hw5.out
            have hX5 : Hid (Blk V5 b4 30 [.slice (some ⟨g, 0, none⟩) n c, ev]) := ((hw5.out).block b4 HL.out).trans hX3.out
            clear hd5
            refine hK1.out _ _ hS5.out ?_
            clear hK1
            intro _
            try simp only [Act.put, List.setIfInBounds_toArray, List.set_cons_zero, List.set_cons_succ]
            refine wpAnyH_take (i := 12) (oi := { dst := some 25, op := Op.fieldAddr 30 (Operand.tmp 4) 0, type := 0, pos := "ref.go:53", after := #[{ on := 0, ground := Ground.phase }, { on := 1, ground := Ground.phase }, { on := 2, ground := Ground.phase }, { on := 3, ground := Ground.phase }, { on := 4, ground := Ground.phase }, { on := 5, ground := Ground.phase }, { on := 6, ground := Ground.phase }, { on := 7, ground := Ground.phase }, { on := 8, ground := Ground.phase }, { on := 9, ground := Ground.phase }, { on := 10, ground := Ground.phase }, { on := 11, ground := Ground.phase }], guard := none }) (v := .pointer (some ⟨b4, 0, none⟩)) rfl (by kernel_rfl) (by kernel_rfl) (by kernel_rfl) (fun _ _ _ h => h.elim) (Or.inl ⟨by rfl, ?y16⟩) hS5.out ?_
            case y16 =>
              intro V hV
              go_simp
            simp only [Act.put, List.setIfInBounds_toArray, List.set_cons_zero, List.set_cons_succ]
            refine wpAnyH_ready (rs := [13]) (by kernel_rfl) (by simp) (AllReadyH.cons (i := 13) (o := { dst := none, op := Op.store 27 (Operand.tmp 25) (Operand.tmp 24), type := 0, pos := "ref.go:53", after := #[{ on := 12, ground := Ground.data }, { on := 11, ground := Ground.data }, { on := 11, ground := Ground.chain }, { on := 0, ground := Ground.phase }, { on := 1, ground := Ground.phase }, { on := 2, ground := Ground.phase }, { on := 3, ground := Ground.phase }, { on := 4, ground := Ground.phase }, { on := 5, ground := Ground.phase }, { on := 6, ground := Ground.phase }, { on := 7, ground := Ground.phase }, { on := 8, ground := Ground.phase }, { on := 9, ground := Ground.phase }, { on := 10, ground := Ground.phase }, { on := 11, ground := Ground.phase }], guard := none }) rfl ?_ AllReadyH.nil)
            · intro K1 hK1
              refine step_st (by rfl) 27 (.tmp 25) (.tmp 24) rfl b4 0 v5 30 _ rfl rfl hX5.out (by simp) (by kernel_rfl) (own_slice ho5.out).1 (own_slice ho5.out).2 ?_
              obtain ⟨V6, hv6⟩ : ∃ V, V5.setCell ⟨b4, 0, none⟩ v5 = V := ⟨_, rfl⟩
              have hg6 : V5.grownBy V6 (some b4) := by rw [← hv6]; exact grown_setCell _ _ _ _
              have hS6 : Hid (Keep (fun j => j = b4) A V6) := hS5.out.trans (Keep.grown (S := fun j => j = b4) hg6 rfl) (fun _ hj _ => hj)
              have hX6 : Hid (Blk V6 b4 30 [v5, ev]) := by rw [← hv6]; exact hX5.out.set 0 v5
              have hO6 : Hid (V6.ownsRow A.heap.size 3 1 v5 (0 + k + (n - (k + 1))) ([] ++ (ivs l).take (k * 1) ++ (ivs l).drop ((k + 1) * 1))) := own_same ho5.out (fun g h1 h2 => hg6.block g h2 (fun e => by cases e; have := HL.out; omega))
              rw [hv6]
              clear hv6 hg6
              refine hK1.out _ _ hS6.out ?_
              clear hK1
              intro _
              try simp only [Act.put, List.setIfInBounds_toArray, List.set_cons_zero, List.set_cons_succ]
              refine wpAnyH_done (by kernel_rfl) ?_ _
              exact hQ V6 _ _ _ ⟨hO6.out, hX6.out, hS6.out⟩
      · intro K1 hK1
        rw [if_pos (by rfl)]
        have hc : V2.cell? ⟨b4, 0, none⟩ = some (.slice (some ⟨g, 0, none⟩) n c) := hX2.out.cell rfl
        go_wp2
        clear hc
        refine hK1.out _ _ hS2.out ?_
        clear hK1
        intro _
        try simp only [Act.put, List.setIfInBounds_toArray, List.set_cons_zero, List.set_cons_succ]
        refine wpAnyH_take (i := 10) (oi := { dst := some 23, op := Op.slice 27 (Operand.tmp 20) (some (Operand.tmp 22)) none none, type := 27, pos := "ref.go:53", after := #[{ on := 7, ground := Ground.data }, { on := 9, ground := Ground.data }], guard := none }) (v := .slice (some ⟨g, o1, none⟩) (n - (k + 1)) (c - (k + 1))) rfl (by kernel_rfl) (by kernel_rfl) (by kernel_rfl) (fun _ _ _ h => h.elim) (Or.inl ⟨by rfl, ?y17⟩) hS2.out ?_
        case y17 =>
          intro V hV
          exact yl_from V 27 (.tmp 20) (.tmp 22) _ _ _ _ _ rfl rfl rfl HU.out.1 HU.out.2.1 HU.out.2.2 (by have := HN.out; omega) HOF.out
        simp only [Act.put, List.setIfInBounds_toArray, List.set_cons_zero, List.set_cons_succ]
        refine wpAnyH_ready (rs := [5]) (by kernel_rfl) (by simp) (AllReadyH.cons (i := 5) (o := { dst := some 18, op := Op.call { callee := Callee.builtin Builtin.append, args := #[Operand.tmp 13, Operand.tmp 17], argTypes := #[27, 27] }, type := 27, pos := "ref.go:53", after := #[{ on := 0, ground := Ground.data }, { on := 4, ground := Ground.data }], guard := none }) rfl ?_ AllReadyH.nil)
        · intro K1 hK1
          have hd4 := (HR.out V2 hS2.out).take (i := k) (by have := HN.out; omega)
          refine step_append_ownR (by rfl) (.tmp 13) (.tmp 17) 27 rfl _ 3 i0 z 1 A.heap.size Try.underlying27 HI0.out.1 HI0.out.2.1 HI0.out.2.2.1 HI0.out.2.2.2.1 HI0.out.2.2.2.2 (by omega) _ 0 [] hO2.out (some ⟨g, 0, none⟩) (k) c ((ivs l).take (k * 1)) rfl rfl hd4 hS2.out.size (by have := HN.out; omega) ?_
          intro v4 V4 ho4 hw4
          have hS4 : Hid (Keep (fun j => j = b4) A V4) := keepB hS2.out hw4.out
          have hX4 : Hid (Blk V4 b4 30 [.slice (some ⟨g, 0, none⟩) n c, ev]) := ((hw4.out).block b4 HL.out).trans hX2.out
          clear hd4
          refine hK1.out _ _ hS4.out ?_
          clear hK1
          intro _
          try simp only [Act.put, List.setIfInBounds_toArray, List.set_cons_zero, List.set_cons_succ]
          refine wpAnyH_ready (rs := [11]) (by kernel_rfl) (by simp) (AllReadyH.cons (i := 11) (o := { dst := some 24, op := Op.call { callee := Callee.builtin Builtin.append, args := #[Operand.tmp 18, Operand.tmp 23], argTypes := #[27, 27] }, type := 27, pos := "ref.go:53", after := #[{ on := 5, ground := Ground.data }, { on := 10, ground := Ground.data }, { on := 5, ground := Ground.chain }], guard := none }) rfl ?_ AllReadyH.nil)
          · intro K1 hK1
            have hd5 := rd_from (HR.out V4 hS4.out) HN.out.1 HN.out.2.1 HOF.out
            refine step_append_ownR (by rfl) (.tmp 18) (.tmp 23) 27 rfl _ 3 i0 z 1 A.heap.size Try.underlying27 HI0.out.1 HI0.out.2.1 HI0.out.2.2.1 HI0.out.2.2.2.1 HI0.out.2.2.2.2 (by omega) _ (0 + k) ([] ++ (ivs l).take (k * 1)) ho4.out (some ⟨g, o1, none⟩) (n - (k + 1)) (c - (k + 1)) ((ivs l).drop ((k + 1) * 1)) rfl rfl hd5 hS4.out.size (by have := HN.out; omega) ?_
            intro v5 V5 ho5 hw5
            have hS5 : Hid (Keep (fun j => j = b4) A V5) := keepB hS4.out hw5.out
            have hX5 : Hid (Blk V5 b4 30 [.slice (some ⟨g, 0, none⟩) n c, ev]) := ((hw5.out).block b4 HL.out).trans hX4.out
            clear hd5
            refine hK1.out _ _ hS5.out ?_
            clear hK1
            intro _
            try simp only [Act.put, List.setIfInBounds_toArray, List.set_cons_zero, List.set_cons_succ]
            refine wpAnyH_take (i := 12) (oi := { dst := some 25, op := Op.fieldAddr 30 (Operand.tmp 4) 0, type := 0, pos := "ref.go:53", after := #[{ on := 0, ground := Ground.phase }, { on := 1, ground := Ground.phase }, { on := 2, ground := Ground.phase }, { on := 3, ground := Ground.phase }, { on := 4, ground := Ground.phase }, { on := 5, ground := Ground.phase }, { on := 6, ground := Ground.phase }, { on := 7, ground := Ground.phase }, { on := 8, ground := Ground.phase }, { on := 9, ground := Ground.phase }, { on := 10, ground := Ground.phase }, { on := 11, ground := Ground.phase }], guard := none }) (v := .pointer (some ⟨b4, 0, none⟩)) rfl (by kernel_rfl) (by kernel_rfl) (by kernel_rfl) (fun _ _ _ h => h.elim) (Or.inl ⟨by rfl, ?y18⟩) hS5.out ?_
            case y18 =>
              intro V hV
              go_simp
            simp only [Act.put, List.setIfInBounds_toArray, List.set_cons_zero, List.set_cons_succ]
            refine wpAnyH_ready (rs := [13]) (by kernel_rfl) (by simp) (AllReadyH.cons (i := 13) (o := { dst := none, op := Op.store 27 (Operand.tmp 25) (Operand.tmp 24), type := 0, pos := "ref.go:53", after := #[{ on := 12, ground := Ground.data }, { on := 11, ground := Ground.data }, { on := 11, ground := Ground.chain }, { on := 0, ground := Ground.phase }, { on := 1, ground := Ground.phase }, { on := 2, ground := Ground.phase }, { on := 3, ground := Ground.phase }, { on := 4, ground := Ground.phase }, { on := 5, ground := Ground.phase }, { on := 6, ground := Ground.phase }, { on := 7, ground := Ground.phase }, { on := 8, ground := Ground.phase }, { on := 9, ground := Ground.phase }, { on := 10, ground := Ground.phase }, { on := 11, ground := Ground.phase }], guard := none }) rfl ?_ AllReadyH.nil)
            · intro K1 hK1
              refine step_st (by rfl) 27 (.tmp 25) (.tmp 24) rfl b4 0 v5 30 _ rfl rfl hX5.out (by simp) (by kernel_rfl) (own_slice ho5.out).1 (own_slice ho5.out).2 ?_
              obtain ⟨V6, hv6⟩ : ∃ V, V5.setCell ⟨b4, 0, none⟩ v5 = V := ⟨_, rfl⟩
              have hg6 : V5.grownBy V6 (some b4) := by rw [← hv6]; exact grown_setCell _ _ _ _
              have hS6 : Hid (Keep (fun j => j = b4) A V6) := hS5.out.trans (Keep.grown (S := fun j => j = b4) hg6 rfl) (fun _ hj _ => hj)
              have hX6 : Hid (Blk V6 b4 30 [v5, ev]) := by rw [← hv6]; exact hX5.out.set 0 v5
              have hO6 : Hid (V6.ownsRow A.heap.size 3 1 v5 (0 + k + (n - (k + 1))) ([] ++ (ivs l).take (k * 1) ++ (ivs l).drop ((k + 1) * 1))) := own_same ho5.out (fun g h1 h2 => hg6.block g h2 (fun e => by cases e; have := HL.out; omega))
              rw [hv6]
              clear hv6 hg6
              refine hK1.out _ _ hS6.out ?_
              clear hK1
              intro _
              try simp only [Act.put, List.setIfInBounds_toArray, List.set_cons_zero, List.set_cons_succ]
              refine wpAnyH_done (by kernel_rfl) ?_ _
              exact hQ V6 _ _ _ ⟨hO6.out, hX6.out, hS6.out⟩
    · intro K1 hK1
      rw [if_pos (by rfl)]
      have hc : V0.cell? ⟨b4, 0, none⟩ = some (.slice (some ⟨g, 0, none⟩) n c) := hX0.out.cell rfl
      go_wp2
      clear hc
      refine hK1.out _ _ hS0.out ?_
      clear hK1
      intro _
      try simp only [Act.put, List.setIfInBounds_toArray, List.set_cons_zero, List.set_cons_succ]
      refine wpAnyH_take (i := 10) (oi := { dst := some 23, op := Op.slice 27 (Operand.tmp 20) (some (Operand.tmp 22)) none none, type := 27, pos := "ref.go:53", after := #[{ on := 7, ground := Ground.data }, { on := 9, ground := Ground.data }], guard := none }) (v := .slice (some ⟨g, o1, none⟩) (n - (k + 1)) (c - (k + 1))) rfl (by kernel_rfl) (by kernel_rfl) (by kernel_rfl) (fun _ _ _ h => h.elim) (Or.inl ⟨by rfl, ?y19⟩) hS0.out ?_
      case y19 =>
        intro V hV
        exact yl_from V 27 (.tmp 20) (.tmp 22) _ _ _ _ _ rfl rfl rfl HU.out.1 HU.out.2.1 HU.out.2.2 (by have := HN.out; omega) HOF.out
      simp only [Act.put, List.setIfInBounds_toArray, List.set_cons_zero, List.set_cons_succ]
      refine wpAnyH_ready (rs := [0]) (by kernel_rfl) (by simp) (AllReadyH.cons (i := 0) (o := { dst := some 13, op := Op.buildSlice 27 0 #[], type := 27, pos := "ref.go:53", after := #[], guard := none }) rfl ?_ AllReadyH.nil)
      · intro K1 hK1
        refine step_bs0 (by rfl) 27 rfl (run_bs27_0' _) ?_
        have hr3 : V0.heap.size ≥ A.heap.size := hS0.out.size
        obtain ⟨V3, hv3⟩ : ∃ V, V0.alloc (.cells #[] 3) = V := ⟨_, rfl⟩
        have hw3 : Below A.heap.size V0 V3 := by rw [← hv3]; exact (Below.refl _ _).alloc hr3 _
        have hO3 : Hid (V3.ownsRow A.heap.size 3 1 (.slice (some ⟨V0.heap.size, 0, none⟩) 0 0) 0 []) := by rw [← hv3]; exact ownsRow_base (empty_row V0 3 1) hr3
        have hS3 : Hid (Keep (fun j => j = b4) A V3) := keepB hS0.out hw3
        have hX3 : Hid (Blk V3 b4 30 [.slice (some ⟨g, 0, none⟩) n c, ev]) := ((hw3).block b4 HL.out).trans hX0.out
        obtain ⟨q3, hq3⟩ : ∃ m, V0.heap.size = m := ⟨_, rfl⟩
        rw [hq3] at hO3
        rw [hv3, hq3]
        clear hv3 hq3 hw3 hr3
        refine hK1.out _ _ hS3.out ?_
        clear hK1
        intro _
        try simp only [Act.put, List.setIfInBounds_toArray, List.set_cons_zero, List.set_cons_succ]
        refine wpAnyH_ready (rs := [5]) (by kernel_rfl) (by simp) (AllReadyH.cons (i := 5) (o := { dst := some 18, op := Op.call { callee := Callee.builtin Builtin.append, args := #[Operand.tmp 13, Operand.tmp 17], argTypes := #[27, 27] }, type := 27, pos := "ref.go:53", after := #[{ on := 0, ground := Ground.data }, { on := 4, ground := Ground.data }], guard := none }) rfl ?_ AllReadyH.nil)
        · intro K1 hK1
          have hd4 := (HR.out V3 hS3.out).take (i := k) (by have := HN.out; omega)
          refine step_append_ownR (by rfl) (.tmp 13) (.tmp 17) 27 rfl _ 3 i0 z 1 A.heap.size Try.underlying27 HI0.out.1 HI0.out.2.1 HI0.out.2.2.1 HI0.out.2.2.2.1 HI0.out.2.2.2.2 (by omega) _ 0 [] hO3.out (some ⟨g, 0, none⟩) (k) c ((ivs l).take (k * 1)) rfl rfl hd4 hS3.out.size (by have := HN.out; omega) ?_
          intro v4 V4 ho4 hw4
          have hS4 : Hid (Keep (fun j => j = b4) A V4) := keepB hS3.out hw4.out
          have hX4 : Hid (Blk V4 b4 30 [.slice (some ⟨g, 0, none⟩) n c, ev]) := ((hw4.out).block b4 HL.out).trans hX3.out
          clear hd4
          refine hK1.out _ _ hS4.out ?_
          clear hK1
          intro _
          try simp only [Act.put, List.setIfInBounds_toArray, List.set_cons_zero, List.set_cons_succ]
          refine wpAnyH_ready (rs := [11]) (by kernel_rfl) (by simp) (AllReadyH.cons (i := 11) (o := { dst := some 24, op := Op.call { callee := Callee.builtin Builtin.append, args := #[Operand.tmp 18, Operand.tmp 23], argTypes := #[27, 27] }, type := 27, pos := "ref.go:53", after := #[{ on := 5, ground := Ground.data }, { on := 10, ground := Ground.data }, { on := 5, ground := Ground.chain }], guard := none }) rfl ?_ AllReadyH.nil)
          · intro K1 hK1
            have hd5 := rd_from (HR.out V4 hS4.out) HN.out.1 HN.out.2.1 HOF.out
            refine step_append_ownR (by rfl) (.tmp 18) (.tmp 23) 27 rfl _ 3 i0 z 1 A.heap.size Try.underlying27 HI0.out.1 HI0.out.2.1 HI0.out.2.2.1 HI0.out.2.2.2.1 HI0.out.2.2.2.2 (by omega) _ (0 + k) ([] ++ (ivs l).take (k * 1)) ho4.out (some ⟨g, o1, none⟩) (n - (k + 1)) (c - (k + 1)) ((ivs l).drop ((k + 1) * 1)) rfl rfl hd5 hS4.out.size (by have := HN.out; omega) ?_
            intro v5 V5 ho5 hw5
            have hS5 : Hid (Keep (fun j => j = b4) A V5) := keepB hS4.out hw5.out
            have hX5 : Hid (Blk V5 b4 30 [.slice (some ⟨g, 0, none⟩) n c, ev]) := ((hw5.out).block b4 HL.out).trans hX4.out
            clear hd5
            refine hK1.out _ _ hS5.out ?_
            clear hK1
            intro _
            try simp only [Act.put, List.setIfInBounds_toArray, List.set_cons_zero, List.set_cons_succ]
            refine wpAnyH_take (i := 12) (oi := { dst := some 25, op := Op.fieldAddr 30 (Operand.tmp 4) 0, type := 0, pos := "ref.go:53", after := #[{ on := 0, ground := Ground.phase }, { on := 1, ground := Ground.phase }, { on := 2, ground := Ground.phase }, { on := 3, ground := Ground.phase }, { on := 4, ground := Ground.phase }, { on := 5, ground := Ground.phase }, { on := 6, ground := Ground.phase }, { on := 7, ground := Ground.phase }, { on := 8, ground := Ground.phase }, { on := 9, ground := Ground.phase }, { on := 10, ground := Ground.phase }, { on := 11, ground := Ground.phase }], guard := none }) (v := .pointer (some ⟨b4, 0, none⟩)) rfl (by kernel_rfl) (by kernel_rfl) (by kernel_rfl) (fun _ _ _ h => h.elim) (Or.inl ⟨by rfl, ?y20⟩) hS5.out ?_
            case y20 =>
              intro V hV
              go_simp
            simp only [Act.put, List.setIfInBounds_toArray, List.set_cons_zero, List.set_cons_succ]
            refine wpAnyH_ready (rs := [13]) (by kernel_rfl) (by simp) (AllReadyH.cons (i := 13) (o := { dst := none, op := Op.store 27 (Operand.tmp 25) (Operand.tmp 24), type := 0, pos := "ref.go:53", after := #[{ on := 12, ground := Ground.data }, { on := 11, ground := Ground.data }, { on := 11, ground := Ground.chain }, { on := 0, ground := Ground.phase }, { on := 1, ground := Ground.phase }, { on := 2, ground := Ground.phase }, { on := 3, ground := Ground.phase }, { on := 4, ground := Ground.phase }, { on := 5, ground := Ground.phase }, { on := 6, ground := Ground.phase }, { on := 7, ground := Ground.phase }, { on := 8, ground := Ground.phase }, { on := 9, ground := Ground.phase }, { on := 10, ground := Ground.phase }, { on := 11, ground := Ground.phase }], guard := none }) rfl ?_ AllReadyH.nil)
            · intro K1 hK1
              refine step_st (by rfl) 27 (.tmp 25) (.tmp 24) rfl b4 0 v5 30 _ rfl rfl hX5.out (by simp) (by kernel_rfl) (own_slice ho5.out).1 (own_slice ho5.out).2 ?_
              obtain ⟨V6, hv6⟩ : ∃ V, V5.setCell ⟨b4, 0, none⟩ v5 = V := ⟨_, rfl⟩
              have hg6 : V5.grownBy V6 (some b4) := by rw [← hv6]; exact grown_setCell _ _ _ _
              have hS6 : Hid (Keep (fun j => j = b4) A V6) := hS5.out.trans (Keep.grown (S := fun j => j = b4) hg6 rfl) (fun _ hj _ => hj)
              have hX6 : Hid (Blk V6 b4 30 [v5, ev]) := by rw [← hv6]; exact hX5.out.set 0 v5
              have hO6 : Hid (V6.ownsRow A.heap.size 3 1 v5 (0 + k + (n - (k + 1))) ([] ++ (ivs l).take (k * 1) ++ (ivs l).drop ((k + 1) * 1))) := own_same ho5.out (fun g h1 h2 => hg6.block g h2 (fun e => by cases e; have := HL.out; omega))
              rw [hv6]
              clear hv6 hg6
              refine hK1.out _ _ hS6.out ?_
              clear hK1
              intro _
              try simp only [Act.put, List.setIfInBounds_toArray, List.set_cons_zero, List.set_cons_succ]
              refine wpAnyH_done (by kernel_rfl) ?_ _
              exact hQ V6 _ _ _ ⟨hO6.out, hX6.out, hS6.out⟩
  · intro K1 hK1
    rw [if_pos (by rfl)]
    have hc : V0.cell? ⟨b4, 0, none⟩ = some (.slice (some ⟨g, 0, none⟩) n c) := hX0.out.cell rfl
    go_wp2
    clear hc
    refine hK1.out _ _ hS0.out ?_
    clear hK1
    intro _
    try simp only [Act.put, List.setIfInBounds_toArray, List.set_cons_zero, List.set_cons_succ]
    refine wpAnyH_take (i := 10) (oi := { dst := some 23, op := Op.slice 27 (Operand.tmp 20) (some (Operand.tmp 22)) none none, type := 27, pos := "ref.go:53", after := #[{ on := 7, ground := Ground.data }, { on := 9, ground := Ground.data }], guard := none }) (v := .slice (some ⟨g, o1, none⟩) (n - (k + 1)) (c - (k + 1))) rfl (by kernel_rfl) (by kernel_rfl) (by kernel_rfl) (fun _ _ _ h => h.elim) (Or.inl ⟨by rfl, ?y21⟩) hS0.out ?_
    case y21 =>
      intro V hV
      exact yl_from V 27 (.tmp 20) (.tmp 22) _ _ _ _ _ rfl rfl rfl HU.out.1 HU.out.2.1 HU.out.2.2 (by have := HN.out; omega) HOF.out
    simp only [Act.put, List.setIfInBounds_toArray, List.set_cons_zero, List.set_cons_succ]
    refine wpAnyH_ready (rs := [0, 2]) (by kernel_rfl) (by simp) (AllReadyH.cons (i := 0) (o := { dst := some 13, op := Op.buildSlice 27 0 #[], type := 27, pos := "ref.go:53", after := #[], guard := none }) rfl ?_ (AllReadyH.cons (i := 2) (o := { dst := some 15, op := Op.load 27 (Operand.tmp 14), type := 27, pos := "ref.go:53", after := #[{ on := 1, ground := Ground.data }], guard := none }) rfl ?_ AllReadyH.nil))
    · intro K1 hK1
      refine step_bs0 (by rfl) 27 rfl (run_bs27_0' _) ?_
      have hr2 : V0.heap.size ≥ A.heap.size := hS0.out.size
      obtain ⟨V2, hv2⟩ : ∃ V, V0.alloc (.cells #[] 3) = V := ⟨_, rfl⟩
      have hw2 : Below A.heap.size V0 V2 := by rw [← hv2]; exact (Below.refl _ _).alloc hr2 _
      have hO2 : Hid (V2.ownsRow A.heap.size 3 1 (.slice (some ⟨V0.heap.size, 0, none⟩) 0 0) 0 []) := by rw [← hv2]; exact ownsRow_base (empty_row V0 3 1) hr2
      have hS2 : Hid (Keep (fun j => j = b4) A V2) := keepB hS0.out hw2
      have hX2 : Hid (Blk V2 b4 30 [.slice (some ⟨g, 0, none⟩) n c, ev]) := ((hw2).block b4 HL.out).trans hX0.out
      obtain ⟨q2, hq2⟩ : ∃ m, V0.heap.size = m := ⟨_, rfl⟩
      rw [hq2] at hO2
      rw [hv2, hq2]
      clear hv2 hq2 hw2 hr2
      refine hK1.out _ _ hS2.out ?_
      clear hK1
      intro _
      try simp only [Act.put, List.setIfInBounds_toArray, List.set_cons_zero, List.set_cons_succ]
      refine wpAnyH_ready (rs := [2]) (by kernel_rfl) (by simp) (AllReadyH.cons (i := 2) (o := { dst := some 15, op := Op.load 27 (Operand.tmp 14), type := 27, pos := "ref.go:53", after := #[{ on := 1, ground := Ground.data }], guard := none }) rfl ?_ AllReadyH.nil)
      · intro K1 hK1
        rw [if_pos (by rfl)]
        have hc : V2.cell? ⟨b4, 0, none⟩ = some (.slice (some ⟨g, 0, none⟩) n c) := hX2.out.cell rfl
        go_wp2
        clear hc
        refine hK1.out _ _ hS2.out ?_
        clear hK1
        intro _
        try simp only [Act.put, List.setIfInBounds_toArray, List.set_cons_zero, List.set_cons_succ]
        refine wpAnyH_take (i := 4) (oi := { dst := some 17, op := Op.slice 27 (Operand.tmp 15) none (some (Operand.tmp 16)) none, type := 27, pos := "ref.go:53", after := #[{ on := 2, ground := Ground.data }, { on := 3, ground := Ground.data }], guard := none }) (v := .slice (some ⟨g, 0, none⟩) k c) rfl (by kernel_rfl) (by kernel_rfl) (by kernel_rfl) (fun _ _ _ h => h.elim) (Or.inl ⟨by rfl, ?y22⟩) hS2.out ?_
        case y22 =>
          intro V hV
          exact yl_upto V 27 (.tmp 15) (.tmp 16) _ _ _ _ rfl rfl rfl HU.out.1 HU.out.2.1 (by have := HN.out; omega)
        simp only [Act.put, List.setIfInBounds_toArray, List.set_cons_zero, List.set_cons_succ]
        refine wpAnyH_ready (rs := [5]) (by kernel_rfl) (by simp) (AllReadyH.cons (i := 5) (o := { dst := some 18, op := Op.call { callee := Callee.builtin Builtin.append, args := #[Operand.tmp 13, Operand.tmp 17], argTypes := #[27, 27] }, type := 27, pos := "ref.go:53", after := #[{ on := 0, ground := Ground.data }, { on := 4, ground := Ground.data }], guard := none }) rfl ?_ AllReadyH.nil)
        · intro K1 hK1
          have hd4 := (HR.out V2 hS2.out).take (i := k) (by have := HN.out; omega)
          refine step_append_ownR (by rfl) (.tmp 13) (.tmp 17) 27 rfl _ 3 i0 z 1 A.heap.size Try.underlying27 HI0.out.1 HI0.out.2.1 HI0.out.2.2.1 HI0.out.2.2.2.1 HI0.out.2.2.2.2 (by omega) _ 0 [] hO2.out (some ⟨g, 0, none⟩) (k) c ((ivs l).take (k * 1)) rfl rfl hd4 hS2.out.size (by have := HN.out; omega) ?_
          intro v4 V4 ho4 hw4
          have hS4 : Hid (Keep (fun j => j = b4) A V4) := keepB hS2.out hw4.out
          have hX4 : Hid (Blk V4 b4 30 [.slice (some ⟨g, 0, none⟩) n c, ev]) := ((hw4.out).block b4 HL.out).trans hX2.out
          clear hd4
          refine hK1.out _ _ hS4.out ?_
          clear hK1
          intro _
          try simp only [Act.put, List.setIfInBounds_toArray, List.set_cons_zero, List.set_cons_succ]
          refine wpAnyH_ready (rs := [11]) (by kernel_rfl) (by simp) (AllReadyH.cons (i := 11) (o := { dst := some 24, op := Op.call { callee := Callee.builtin Builtin.append, args := #[Operand.tmp 18, Operand.tmp 23], argTypes := #[27, 27] }, type := 27, pos := "ref.go:53", after := #[{ on := 5, ground := Ground.data }, { on := 10, ground := Ground.data }, { on := 5, ground := Ground.chain }], guard := none }) rfl ?_ AllReadyH.nil)
          · intro K1 hK1
            have hd5 := rd_from (HR.out V4 hS4.out) HN.out.1 HN.out.2.1 HOF.out
            refine step_append_ownR (by rfl) (.tmp 18) (.tmp 23) 27 rfl _ 3 i0 z 1 A.heap.size Try.underlying27 HI0.out.1 HI0.out.2.1 HI0.out.2.2.1 HI0.out.2.2.2.1 HI0.out.2.2.2.2 (by omega) _ (0 + k) ([] ++ (ivs l).take (k * 1)) ho4.out (some ⟨g, o1, none⟩) (n - (k + 1)) (c - (k + 1)) ((ivs l).drop ((k + 1) * 1)) rfl rfl hd5 hS4.out.size (by have := HN.out; omega) ?_
            intro v5 V5 ho5 hw5
            have hS5 : Hid (Keep (fun j => j = b4) A V5) := keepB hS4.out hw5.out
            have hX5 : Hid (Blk V5 b4 30 [.slice (some ⟨g, 0, none⟩) n c, ev]) := ((hw5.out).block b4 HL.out).trans hX4.out
            clear hd5
            refine hK1.out _ _ hS5.out ?_
            clear hK1
            intro _
            try simp only [Act.put, List.setIfInBounds_toArray, List.set_cons_zero, List.set_cons_succ]
            refine wpAnyH_take (i := 12) (oi := { dst := some 25, op := Op.fieldAddr 30 (Operand.tmp 4) 0, type := 0, pos := "ref.go:53", after := #[{ on := 0, ground := Ground.phase }, { on := 1, ground := Ground.phase }, { on := 2, ground := Ground.phase }, { on := 3, ground := Ground.phase }, { on := 4, ground := Ground.phase }, { on := 5, ground := Ground.phase }, { on := 6, ground := Ground.phase }, { on := 7, ground := Ground.phase }, { on := 8, ground := Ground.phase }, { on := 9, ground := Ground.phase }, { on := 10, ground := Ground.phase }, { on := 11, ground := Ground.phase }], guard := none }) (v := .pointer (some ⟨b4, 0, none⟩)) rfl (by kernel_rfl) (by kernel_rfl) (by kernel_rfl) (fun _ _ _ h => h.elim) (Or.inl ⟨by rfl, ?y23⟩) hS5.out ?_
            case y23 =>
              intro V hV
              go_simp
            simp only [Act.put, List.setIfInBounds_toArray, List.set_cons_zero, List.set_cons_succ]
            refine wpAnyH_ready (rs := [13]) (by kernel_rfl) (by simp) (AllReadyH.cons (i := 13) (o := { dst := none, op := Op.store 27 (Operand.tmp 25) (Operand.tmp 24), type := 0, pos := "ref.go:53", after := #[{ on := 12, ground := Ground.data }, { on := 11, ground := Ground.data }, { on := 11, ground := Ground.chain }, { on := 0, ground := Ground.phase }, { on := 1, ground := Ground.phase }, { on := 2, ground := Ground.phase }, { on := 3, ground := Ground.phase }, { on := 4, ground := Ground.phase }, { on := 5, ground := Ground.phase }, { on := 6, ground := Ground.phase }, { on := 7, ground := Ground.phase }, { on := 8, ground := Ground.phase }, { on := 9, ground := Ground.phase }, { on := 10, ground := Ground.phase }, { on := 11, ground := Ground.phase }], guard := none }) rfl ?_ AllReadyH.nil)
            · intro K1 hK1
              refine step_st (by rfl) 27 (.tmp 25) (.tmp 24) rfl b4 0 v5 30 _ rfl rfl hX5.out (by simp) (by kernel_rfl) (own_slice ho5.out).1 (own_slice ho5.out).2 ?_
              obtain ⟨V6, hv6⟩ : ∃ V, V5.setCell ⟨b4, 0, none⟩ v5 = V := ⟨_, rfl⟩
              have hg6 : V5.grownBy V6 (some b4) := by rw [← hv6]; exact grown_setCell _ _ _ _
              have hS6 : Hid (Keep (fun j => j = b4) A V6) := hS5.out.trans (Keep.grown (S := fun j => j = b4) hg6 rfl) (fun _ hj _ => hj)
              have hX6 : Hid (Blk V6 b4 30 [v5, ev]) := by rw [← hv6]; exact hX5.out.set 0 v5
              have hO6 : Hid (V6.ownsRow A.heap.size 3 1 v5 (0 + k + (n - (k + 1))) ([] ++ (ivs l).take (k * 1) ++ (ivs l).drop ((k + 1) * 1))) := own_same ho5.out (fun g h1 h2 => hg6.block g h2 (fun e => by cases e; have := HL.out; omega))
              rw [hv6]
              clear hv6 hg6
              refine hK1.out _ _ hS6.out ?_
              clear hK1
              intro _
              try simp only [Act.put, List.setIfInBounds_toArray, List.set_cons_zero, List.set_cons_succ]
              refine wpAnyH_done (by kernel_rfl) ?_ _
              exact hQ V6 _ _ _ ⟨hO6.out, hX6.out, hS6.out⟩
    · intro K1 hK1
      rw [if_pos (by rfl)]
      have hc : V0.cell? ⟨b4, 0, none⟩ = some (.slice (some ⟨g, 0, none⟩) n c) := hX0.out.cell rfl
      go_wp2
      clear hc
      refine hK1.out _ _ hS0.out ?_
      clear hK1
      intro _
      try simp only [Act.put, List.setIfInBounds_toArray, List.set_cons_zero, List.set_cons_succ]
      refine wpAnyH_take (i := 4) (oi := { dst := some 17, op := Op.slice 27 (Operand.tmp 15) none (some (Operand.tmp 16)) none, type := 27, pos := "ref.go:53", after := #[{ on := 2, ground := Ground.data }, { on := 3, ground := Ground.data }], guard := none }) (v := .slice (some ⟨g, 0, none⟩) k c) rfl (by kernel_rfl) (by kernel_rfl) (by kernel_rfl) (fun _ _ _ h => h.elim) (Or.inl ⟨by rfl, ?y24⟩) hS0.out ?_
      case y24 =>
        intro V hV
        exact yl_upto V 27 (.tmp 15) (.tmp 16) _ _ _ _ rfl rfl rfl HU.out.1 HU.out.2.1 (by have := HN.out; omega)
      simp only [Act.put, List.setIfInBounds_toArray, List.set_cons_zero, List.set_cons_succ]
      refine wpAnyH_ready (rs := [0]) (by kernel_rfl) (by simp) (AllReadyH.cons (i := 0) (o := { dst := some 13, op := Op.buildSlice 27 0 #[], type := 27, pos := "ref.go:53", after := #[], guard := none }) rfl ?_ AllReadyH.nil)
      · intro K1 hK1
        refine step_bs0 (by rfl) 27 rfl (run_bs27_0' _) ?_
        have hr3 : V0.heap.size ≥ A.heap.size := hS0.out.size
        obtain ⟨V3, hv3⟩ : ∃ V, V0.alloc (.cells #[] 3) = V := ⟨_, rfl⟩
        have hw3 : Below A.heap.size V0 V3 := by rw [← hv3]; exact (Below.refl _ _).alloc hr3 _
        have hO3 : Hid (V3.ownsRow A.heap.size 3 1 (.slice (some ⟨V0.heap.size, 0, none⟩) 0 0) 0 []) := by rw [← hv3]; exact ownsRow_base (empty_row V0 3 1) hr3
        have hS3 : Hid (Keep (fun j => j = b4) A V3) := keepB hS0.out hw3
        have hX3 : Hid (Blk V3 b4 30 [.slice (some ⟨g, 0, none⟩) n c, ev]) := ((hw3).block b4 HL.out).trans hX0.out
        obtain ⟨q3, hq3⟩ : ∃ m, V0.heap.size = m := ⟨_, rfl⟩
        rw [hq3] at hO3
        rw [hv3, hq3]
        clear hv3 hq3 hw3 hr3
        refine hK1.out _ _ hS3.out ?_
        clear hK1
        intro _
        try simp only [Act.put, List.setIfInBounds_toArray, List.set_cons_zero, List.set_cons_succ]
        refine wpAnyH_ready (rs := [5]) (by kernel_rfl) (by simp) (AllReadyH.cons (i := 5) (o := { dst := some 18, op := Op.call { callee := Callee.builtin Builtin.append, args := #[Operand.tmp 13, Operand.tmp 17], argTypes := #[27, 27] }, type := 27, pos := "ref.go:53", after := #[{ on := 0, ground := Ground.data }, { on := 4, ground := Ground.data }], guard := none }) rfl ?_ AllReadyH.nil)
        · intro K1 hK1
          have hd4 := (HR.out V3 hS3.out).take (i := k) (by have := HN.out; omega)
          refine step_append_ownR (by rfl) (.tmp 13) (.tmp 17) 27 rfl _ 3 i0 z 1 A.heap.size Try.underlying27 HI0.out.1 HI0.out.2.1 HI0.out.2.2.1 HI0.out.2.2.2.1 HI0.out.2.2.2.2 (by omega) _ 0 [] hO3.out (some ⟨g, 0, none⟩) (k) c ((ivs l).take (k * 1)) rfl rfl hd4 hS3.out.size (by have := HN.out; omega) ?_
          intro v4 V4 ho4 hw4
          have hS4 : Hid (Keep (fun j => j = b4) A V4) := keepB hS3.out hw4.out
          have hX4 : Hid (Blk V4 b4 30 [.slice (some ⟨g, 0, none⟩) n c, ev]) := ((hw4.out).block b4 HL.out).trans hX3.out
          clear hd4
          refine hK1.out _ _ hS4.out ?_
          clear hK1
          intro _
          try simp only [Act.put, List.setIfInBounds_toArray, List.set_cons_zero, List.set_cons_succ]
          refine wpAnyH_ready (rs := [11]) (by kernel_rfl) (by simp) (AllReadyH.cons (i := 11) (o := { dst := some 24, op := Op.call { callee := Callee.builtin Builtin.append, args := #[Operand.tmp 18, Operand.tmp 23], argTypes := #[27, 27] }, type := 27, pos := "ref.go:53", after := #[{ on := 5, ground := Ground.data }, { on := 10, ground := Ground.data }, { on := 5, ground := Ground.chain }], guard := none }) rfl ?_ AllReadyH.nil)
          · intro K1 hK1
            have hd5 := rd_from (HR.out V4 hS4.out) HN.out.1 HN.out.2.1 HOF.out
            refine step_append_ownR (by rfl) (.tmp 18) (.tmp 23) 27 rfl _ 3 i0 z 1 A.heap.size Try.underlying27 HI0.out.1 HI0.out.2.1 HI0.out.2.2.1 HI0.out.2.2.2.1 HI0.out.2.2.2.2 (by omega) _ (0 + k) ([] ++ (ivs l).take (k * 1)) ho4.out (some ⟨g, o1, none⟩) (n - (k + 1)) (c - (k + 1)) ((ivs l).drop ((k + 1) * 1)) rfl rfl hd5 hS4.out.size (by have := HN.out; omega) ?_
            intro v5 V5 ho5 hw5
            have hS5 : Hid (Keep (fun j => j = b4) A V5) := keepB hS4.out hw5.out
            have hX5 : Hid (Blk V5 b4 30 [.slice (some ⟨g, 0, none⟩) n c, ev]) := ((hw5.out).block b4 HL.out).trans hX4.out
            clear hd5
            refine hK1.out _ _ hS5.out ?_
            clear hK1
            intro _
            try simp only [Act.put, List.setIfInBounds_toArray, List.set_cons_zero, List.set_cons_succ]
            refine wpAnyH_take (i := 12) (oi := { dst := some 25, op := Op.fieldAddr 30 (Operand.tmp 4) 0, type := 0, pos := "ref.go:53", after := #[{ on := 0, ground := Ground.phase }, { on := 1, ground := Ground.phase }, { on := 2, ground := Ground.phase }, { on := 3, ground := Ground.phase }, { on := 4, ground := Ground.phase }, { on := 5, ground := Ground.phase }, { on := 6, ground := Ground.phase }, { on := 7, ground := Ground.phase }, { on := 8, ground := Ground.phase }, { on := 9, ground := Ground.phase }, { on := 10, ground := Ground.phase }, { on := 11, ground := Ground.phase }], guard := none }) (v := .pointer (some ⟨b4, 0, none⟩)) rfl (by kernel_rfl) (by kernel_rfl) (by kernel_rfl) (fun _ _ _ h => h.elim) (Or.inl ⟨by rfl, ?y25⟩) hS5.out ?_
            case y25 =>
              intro V hV
              go_simp
            simp only [Act.put, List.setIfInBounds_toArray, List.set_cons_zero, List.set_cons_succ]
            refine wpAnyH_ready (rs := [13]) (by kernel_rfl) (by simp) (AllReadyH.cons (i := 13) (o := { dst := none, op := Op.store 27 (Operand.tmp 25) (Operand.tmp 24), type := 0, pos := "ref.go:53", after := #[{ on := 12, ground := Ground.data }, { on := 11, ground := Ground.data }, { on := 11, ground := Ground.chain }, { on := 0, ground := Ground.phase }, { on := 1, ground := Ground.phase }, { on := 2, ground := Ground.phase }, { on := 3, ground := Ground.phase }, { on := 4, ground := Ground.phase }, { on := 5, ground := Ground.phase }, { on := 6, ground := Ground.phase }, { on := 7, ground := Ground.phase }, { on := 8, ground := Ground.phase }, { on := 9, ground := Ground.phase }, { on := 10, ground := Ground.phase }, { on := 11, ground := Ground.phase }], guard := none }) rfl ?_ AllReadyH.nil)
            · intro K1 hK1
              refine step_st (by rfl) 27 (.tmp 25) (.tmp 24) rfl b4 0 v5 30 _ rfl rfl hX5.out (by simp) (by kernel_rfl) (own_slice ho5.out).1 (own_slice ho5.out).2 ?_
              obtain ⟨V6, hv6⟩ : ∃ V, V5.setCell ⟨b4, 0, none⟩ v5 = V := ⟨_, rfl⟩
              have hg6 : V5.grownBy V6 (some b4) := by rw [← hv6]; exact grown_setCell _ _ _ _
              have hS6 : Hid (Keep (fun j => j = b4) A V6) := hS5.out.trans (Keep.grown (S := fun j => j = b4) hg6 rfl) (fun _ hj _ => hj)
              have hX6 : Hid (Blk V6 b4 30 [v5, ev]) := by rw [← hv6]; exact hX5.out.set 0 v5
              have hO6 : Hid (V6.ownsRow A.heap.size 3 1 v5 (0 + k + (n - (k + 1))) ([] ++ (ivs l).take (k * 1) ++ (ivs l).drop ((k + 1) * 1))) := own_same ho5.out (fun g h1 h2 => hg6.block g h2 (fun e => by cases e; have := HL.out; omega))
              rw [hv6]
              clear hv6 hg6
              refine hK1.out _ _ hS6.out ?_
              clear hK1
              intro _
              try simp only [Act.put, List.setIfInBounds_toArray, List.set_cons_zero, List.set_cons_succ]
              refine wpAnyH_done (by kernel_rfl) ?_ _
              exact hQ V6 _ _ _ ⟨hO6.out, hX6.out, hS6.out⟩
#print axioms rend2
end Go.Proofs.Ytipipckbcelphaa.Oct
