/-
  Layer 21 (queue): the drawn region of end.
-/
import Derived.Test.YtipipckbcelphaaWQpt
namespace Go.Proofs.Ytipipckbcelphaa.Oct
open Go.RowKit
set_option linter.unusedSimpArgs false
set_option linter.unusedVariables false

/-- a block and a row of the call's own -/
def SB (b : Nat) (v : Value) (k : Nat) : Prop := k = b ∨ v.ownBlock = some k
theorem ow_slice {w : World} {e sz n : Nat} {v : Value} {cs : List Value} (h : Ow w e sz v n cs) : v.cells = #[v] ∧ v.oneCell' = true := by
  obtain ⟨a, c, rfl, _⟩ := h.read
  exact ⟨rfl, rfl⟩
theorem keep_al {S : Nat → Prop} {A V : World} (h : Keep S A V) (o : Obj) : Keep S A (V.alloc o) := h.trans (Keep.below (S := S) (below_al V o)) (fun _ hj _ => hj)
theorem size38 : (Try.prog.info? 38).map (·.size) = some 3 := by kernel_rfl
/-- what region 3 leaves -/
def Made3 (A : World) (b : Nat) (pv ov T : Value) (n : Nat) (cs : List Value) (x : Int × Int × Int) (v' : Value) (V : World) : Prop :=
  Ow V 38 3 v' (n + 1) (cs ++ qd x) ∧ Blk V b 54 [.bool true, pv, v', T] ∧ (∃ g', v'.ownBlock = some g' ∧ (ov.ownBlock = some g' ∨ A.heap.size ≤ g')) ∧ Keep (SB b ov) A V
theorem qd_one (x : Int × Int × Int) : ∀ u ∈ qd x, u.oneCell' = true := by
  intro u hu
  simp only [qd, List.mem_cons, List.not_mem_nil, or_false] at hu
  rcases hu with rfl | rfl | rfl <;> rfl
set_option maxRecDepth 100000 in
set_option maxHeartbeats 4000000 in
theorem end3 {Q : Exit → Act → World → Prop} {x1 x2 x3 x4 x5 x6 x7 x8 x10 x11 x12 x13 x14 x15 x16 x17 x18 x19 x20 x21 x22 x23 x24 x25 x26 x27 x28 x29 x30 x31 x32 x33 x34 x35 x36 x37 x38 x39 x40 x41 : Value} {ds : List Deferred} {A : World} {b k1 n : Nat} {x : Int × Int × Int} {pv ov T : Value} {cs : List Value}
    (HL : Hid (k1 < A.heap.size ∧ ¬ SB b ov k1)) (HR : Hid (A.rangeAt k1 0 (qd x))) (HX : Hid (Blk A b 54 [.bool true, pv, ov, T] ∧ Ow A 38 3 ov n cs)) (HN : Hid (n + 1 ≤ 4000000000000)) (HNB : Hid (ov.ownBlock ≠ some b)) (HLB : Hid (b < A.heap.size))
    (hQ : ∀ V1 v2 q, Made3 A b pv ov T n cs x v2 V1 → Q .normal { tmps := #[.pointer (some ⟨b, 0, none⟩), x1, x2, x3, x4, x5, x6, x7, x8, .pointer (some ⟨k1, 0, none⟩), x10, x11, x12, x13, x14, x15, x16, x17, x18, x19, x20, x21, x22, x23, x24, x25, x26, x27, x28, x29, x30, .pointer (some ⟨b, 0, none⟩), .pointer (some ⟨b, 0, none⟩), .pointer (some ⟨b, 0, none⟩), .pointer (some ⟨b, 2, none⟩), ov, .agg (qd x).toArray, .slice (some ⟨q, 0, none⟩) 1 1, v2, .pointer (some ⟨b, 0, none⟩), .pointer (some ⟨b, 2, none⟩), x41], defers := ds } V1) :
    (Code.region 3 #[{ dst := some 31, op := Op.move (Operand.tmp 0), type := 25, pos := "queue.go:61", after := #[], guard := none }, { dst := some 32, op := Op.move (Operand.tmp 0), type := 25, pos := "queue.go:61", after := #[], guard := none }, { dst := some 33, op := Op.nilCheck (Operand.tmp 32), type := 0, pos := "queue.go:61", after := #[{ on := 1, ground := Ground.data }], guard := none }, { dst := some 34, op := Op.fieldAddr 54 (Operand.tmp 33) 2, type := 0, pos := "queue.go:61", after := #[{ on := 2, ground := Ground.data }], guard := none }, { dst := some 35, op := Op.load 28 (Operand.tmp 34), type := 28, pos := "queue.go:61", after := #[{ on := 3, ground := Ground.data }], guard := none }, { dst := some 36, op := Op.load 38 (Operand.tmp 9), type := 38, pos := "queue.go:61", after := #[], guard := none }, { dst := some 37, op := Op.buildSlice 28 1 #[(0, Operand.tmp 36)], type := 28, pos := "queue.go:61", after := #[{ on := 5, ground := Ground.data }], guard := none }, { dst := some 38, op := Op.call { callee := Callee.builtin Builtin.append, args := #[Operand.tmp 35, Operand.tmp 37], argTypes := #[28, 28] }, type := 28, pos := "queue.go:61", after := #[{ on := 4, ground := Ground.data }, { on := 6, ground := Ground.data }], guard := none }, { dst := some 39, op := Op.nilCheck (Operand.tmp 31), type := 0, pos := "queue.go:61", after := #[{ on := 0, ground := Ground.data }, { on := 0, ground := Ground.phase }, { on := 1, ground := Ground.phase }, { on := 2, ground := Ground.phase }, { on := 3, ground := Ground.phase }, { on := 4, ground := Ground.phase }, { on := 5, ground := Ground.phase }, { on := 6, ground := Ground.phase }, { on := 7, ground := Ground.phase }], guard := none }, { dst := some 40, op := Op.fieldAddr 54 (Operand.tmp 39) 2, type := 0, pos := "queue.go:61", after := #[{ on := 8, ground := Ground.data }, { on := 0, ground := Ground.phase }, { on := 1, ground := Ground.phase }, { on := 2, ground := Ground.phase }, { on := 3, ground := Ground.phase }, { on := 4, ground := Ground.phase }, { on := 5, ground := Ground.phase }, { on := 6, ground := Ground.phase }, { on := 7, ground := Ground.phase }], guard := none }, { dst := none, op := Op.store 28 (Operand.tmp 40) (Operand.tmp 38), type := 0, pos := "queue.go:61", after := #[{ on := 9, ground := Ground.data }, { on := 7, ground := Ground.data }, { on := 7, ground := Ground.chain }, { on := 0, ground := Ground.phase }, { on := 1, ground := Ground.phase }, { on := 2, ground := Ground.phase }, { on := 3, ground := Ground.phase }, { on := 4, ground := Ground.phase }, { on := 5, ground := Ground.phase }, { on := 6, ground := Ground.phase }, { on := 7, ground := Ground.phase }], guard := none }] true).wp Try.prog Q { tmps := #[.pointer (some ⟨b, 0, none⟩), x1, x2, x3, x4, x5, x6, x7, x8, .pointer (some ⟨k1, 0, none⟩), x10, x11, x12, x13, x14, x15, x16, x17, x18, x19, x20, x21, x22, x23, x24, x25, x26, x27, x28, x29, x30, x31, x32, x33, x34, x35, x36, x37, x38, x39, x40, x41], defers := ds } A := by
  refine Code.wp_mono (Q := fun x a' w' => match x with | .normal => Q .normal a' w' | _ => False) (by intro x a' w' h; cases x <;> first | exact h | exact h.elim) ?_
  refine wp_region_held (S := fun V => Keep (SB b ov) A V) (by kernel_rfl) ?_
  have hS0 : Hid (Keep (SB b ov) A A.drew) := (Keep.refl _ A).drew
  change wpAnyH Try.prog .any _ _ (fun V => Keep (SB b ov) A V) 11 (Array.replicate 11 false) _ A.drew
  obtain ⟨V0, hV0⟩ : ∃ V0, A.drew = V0 := ⟨_, rfl⟩
  rw [hV0]
  rw [hV0] at hS0
  have hX0 : Hid (Blk V0 b 54 [.bool true, pv, ov, T] ∧ Ow V0 38 3 ov n cs) := by rw [← hV0]; exact ⟨HX.out.1.drew, HX.out.2⟩
  clear hV0
  refine wpAnyH_take (i := 0) (oi := { dst := some 31, op := Op.move (Operand.tmp 0), type := 25, pos := "queue.go:61", after := #[], guard := none }) (v := .pointer (some ⟨b, 0, none⟩)) rfl (by kernel_rfl) (by kernel_rfl) (by kernel_rfl) (fun _ _ _ h => h.elim) (Or.inl ⟨by rfl, ?y1⟩) hS0.out ?_
  case y1 =>
    intro V hV
    go_simp
  simp only [Act.put, List.setIfInBounds_toArray, List.set_cons_zero, List.set_cons_succ]
  refine wpAnyH_take (i := 1) (oi := { dst := some 32, op := Op.move (Operand.tmp 0), type := 25, pos := "queue.go:61", after := #[], guard := none }) (v := .pointer (some ⟨b, 0, none⟩)) rfl (by kernel_rfl) (by kernel_rfl) (by kernel_rfl) (fun _ _ _ h => h.elim) (Or.inl ⟨by rfl, ?y2⟩) hS0.out ?_
  case y2 =>
    intro V hV
    go_simp
  simp only [Act.put, List.setIfInBounds_toArray, List.set_cons_zero, List.set_cons_succ]
  refine wpAnyH_take (i := 2) (oi := { dst := some 33, op := Op.nilCheck (Operand.tmp 32), type := 0, pos := "queue.go:61", after := #[{ on := 1, ground := Ground.data }], guard := none }) (v := .pointer (some ⟨b, 0, none⟩)) rfl (by kernel_rfl) (by kernel_rfl) (by kernel_rfl) (fun _ _ _ h => h.elim) (Or.inl ⟨by rfl, ?y3⟩) hS0.out ?_
  case y3 =>
    intro V hV
    go_simp
  simp only [Act.put, List.setIfInBounds_toArray, List.set_cons_zero, List.set_cons_succ]
  refine wpAnyH_take (i := 3) (oi := { dst := some 34, op := Op.fieldAddr 54 (Operand.tmp 33) 2, type := 0, pos := "queue.go:61", after := #[{ on := 2, ground := Ground.data }], guard := none }) (v := .pointer (some ⟨b, 2, none⟩)) rfl (by kernel_rfl) (by kernel_rfl) (by kernel_rfl) (fun _ _ _ h => h.elim) (Or.inl ⟨by rfl, ?y4⟩) hS0.out ?_
  case y4 =>
    intro V hV
    go_simp
  simp only [Act.put, List.setIfInBounds_toArray, List.set_cons_zero, List.set_cons_succ]
  refine wpAnyH_take (i := 5) (oi := { dst := some 36, op := Op.load 38 (Operand.tmp 9), type := 38, pos := "queue.go:61", after := #[], guard := none }) (v := .agg (qd x).toArray) rfl (by kernel_rfl) (by kernel_rfl) (by kernel_rfl) (fun _ _ _ h => h.elim) (yieldsIf_load_mid (by rfl) _ _ rfl _ _ rfl (qd x) _ (fun V hV => rangeAt_same (HR.out) ((show Keep (SB b ov) A V from hV).block _ (HL.out.1) (HL.out.2))) Try.underlying38 rfl (size38)) hS0.out ?_
  simp only [Act.put, List.setIfInBounds_toArray, List.set_cons_zero, List.set_cons_succ]
  refine wpAnyH_ready (rs := [4, 6]) (by kernel_rfl) (by simp) (AllReadyH.cons (i := 4) (o := { dst := some 35, op := Op.load 28 (Operand.tmp 34), type := 28, pos := "queue.go:61", after := #[{ on := 3, ground := Ground.data }], guard := none }) rfl ?_ (AllReadyH.cons (i := 6) (o := { dst := some 37, op := Op.buildSlice 28 1 #[(0, Operand.tmp 36)], type := 28, pos := "queue.go:61", after := #[{ on := 5, ground := Ground.data }], guard := none }) rfl ?_ AllReadyH.nil))
  · intro K1 hK1
    rw [if_pos (by rfl)]
    have hc : V0.cell? ⟨b, 2, none⟩ = some ov := hX0.out.1.cell rfl
    go_wp2
    clear hc
    refine hK1.out _ _ hS0.out ?_
    clear hK1
    intro _
    try simp only [Act.put, List.setIfInBounds_toArray, List.set_cons_zero, List.set_cons_succ]
    refine wpAnyH_ready (rs := [6]) (by kernel_rfl) (by simp) (AllReadyH.cons (i := 6) (o := { dst := some 37, op := Op.buildSlice 28 1 #[(0, Operand.tmp 36)], type := 28, pos := "queue.go:61", after := #[{ on := 5, ground := Ground.data }], guard := none }) rfl ?_ AllReadyH.nil)
    · intro K1 hK1
      refine step_bs (by rfl) 28 (.tmp 36) _ rfl rfl (run_bslice Try.underlying28 sized38 (by omega) (qd x) rfl _) ?_
      obtain ⟨V2, hv2⟩ : ∃ V, V0.alloc (.cells (qd x).toArray 38) = V := ⟨_, rfl⟩
      obtain ⟨q2, hq2⟩ : ∃ m, V0.heap.size = m := ⟨_, rfl⟩
      have hS2 : Hid (Keep (SB b ov) A V2) := by rw [← hv2]; exact keep_al hS0.out _
      have hX2 : Hid (Blk V2 b 54 [.bool true, pv, ov, T] ∧ Ow V2 38 3 ov n cs) := by rw [← hv2]; exact ⟨hX0.out.1.alloc _, hX0.out.2.below (below_al _ _)⟩
      have hR2 : Hid (V2.rangeAt q2 0 (qd x)) := by rw [← hv2, ← hq2]; exact range_new _ _ _
      rw [hv2, hq2]
      clear hv2 hq2
      refine hK1.out _ _ hS2.out ?_
      clear hK1
      intro _
      try simp only [Act.put, List.setIfInBounds_toArray, List.set_cons_zero, List.set_cons_succ]
      refine wpAnyH_ready (rs := [7]) (by kernel_rfl) (by simp) (AllReadyH.cons (i := 7) (o := { dst := some 38, op := Op.call { callee := Callee.builtin Builtin.append, args := #[Operand.tmp 35, Operand.tmp 37], argTypes := #[28, 28] }, type := 28, pos := "queue.go:61", after := #[{ on := 4, ground := Ground.data }, { on := 6, ground := Ground.data }], guard := none }) rfl ?_ AllReadyH.nil)
      · intro K1 hK1
        refine step_app (by rfl) 28 38 3 24 (.tmp 35) (.tmp 37) rfl Try.underlying28 sized38 (by omega) (by omega) ov n cs hX2.out.2 q2 1 (qd x) rfl hR2.out (qd_one x) HN.out rfl rfl ?_
        intro v3 V3 ho3 hg3 hp3
        have hS3 : Hid (Keep (SB b ov) A V3) := hS2.out.trans (Keep.grownO (S := SB b ov) hg3.out (fun k hk => .inr hk)) (fun _ hj _ => hj)
        have hX3 : Hid (Blk V3 b 54 [.bool true, pv, ov, T] ∧ Ow V3 38 3 v3 (n + 1) (cs ++ qd x)) := ⟨hX2.out.1.kept hg3.out (fun hk => HNB.out hk.symm), ho3.out⟩
        have hP3 : Hid (∃ g', v3.ownBlock = some g' ∧ (ov.ownBlock = some g' ∨ A.heap.size ≤ g')) := by
          obtain ⟨g1, h1, h2⟩ := hp3.out
          exact ⟨g1, h1, h2.imp id (fun e => by rw [e]; exact hS2.out.size)⟩
        clear ho3 hg3 hp3
        refine hK1.out _ _ hS3.out ?_
        clear hK1
        intro _
        try simp only [Act.put, List.setIfInBounds_toArray, List.set_cons_zero, List.set_cons_succ]
        refine wpAnyH_take (i := 8) (oi := { dst := some 39, op := Op.nilCheck (Operand.tmp 31), type := 0, pos := "queue.go:61", after := #[{ on := 0, ground := Ground.data }, { on := 0, ground := Ground.phase }, { on := 1, ground := Ground.phase }, { on := 2, ground := Ground.phase }, { on := 3, ground := Ground.phase }, { on := 4, ground := Ground.phase }, { on := 5, ground := Ground.phase }, { on := 6, ground := Ground.phase }, { on := 7, ground := Ground.phase }], guard := none }) (v := .pointer (some ⟨b, 0, none⟩)) rfl (by kernel_rfl) (by kernel_rfl) (by kernel_rfl) (fun _ _ _ h => h.elim) (Or.inl ⟨by rfl, ?y5⟩) hS3.out ?_
        case y5 =>
          intro V hV
          go_simp
        simp only [Act.put, List.setIfInBounds_toArray, List.set_cons_zero, List.set_cons_succ]
        refine wpAnyH_take (i := 9) (oi := { dst := some 40, op := Op.fieldAddr 54 (Operand.tmp 39) 2, type := 0, pos := "queue.go:61", after := #[{ on := 8, ground := Ground.data }, { on := 0, ground := Ground.phase }, { on := 1, ground := Ground.phase }, { on := 2, ground := Ground.phase }, { on := 3, ground := Ground.phase }, { on := 4, ground := Ground.phase }, { on := 5, ground := Ground.phase }, { on := 6, ground := Ground.phase }, { on := 7, ground := Ground.phase }], guard := none }) (v := .pointer (some ⟨b, 2, none⟩)) rfl (by kernel_rfl) (by kernel_rfl) (by kernel_rfl) (fun _ _ _ h => h.elim) (Or.inl ⟨by rfl, ?y6⟩) hS3.out ?_
        case y6 =>
          intro V hV
          go_simp
        simp only [Act.put, List.setIfInBounds_toArray, List.set_cons_zero, List.set_cons_succ]
        refine wpAnyH_ready (rs := [10]) (by kernel_rfl) (by simp) (AllReadyH.cons (i := 10) (o := { dst := none, op := Op.store 28 (Operand.tmp 40) (Operand.tmp 38), type := 0, pos := "queue.go:61", after := #[{ on := 9, ground := Ground.data }, { on := 7, ground := Ground.data }, { on := 7, ground := Ground.chain }, { on := 0, ground := Ground.phase }, { on := 1, ground := Ground.phase }, { on := 2, ground := Ground.phase }, { on := 3, ground := Ground.phase }, { on := 4, ground := Ground.phase }, { on := 5, ground := Ground.phase }, { on := 6, ground := Ground.phase }, { on := 7, ground := Ground.phase }], guard := none }) rfl ?_ AllReadyH.nil)
        · intro K1 hK1
          refine step_st (by rfl) 28 (.tmp 40) (.tmp 38) rfl b 2 v3 54 _ rfl rfl hX3.out.1 (by simp) (by kernel_rfl) (ow_slice hX3.out.2).1 (ow_slice hX3.out.2).2 ?_
          obtain ⟨V4, hv4⟩ : ∃ V, V3.setCell ⟨b, 2, none⟩ v3 = V := ⟨_, rfl⟩
          have hg4 : V3.grownBy V4 (some b) := by rw [← hv4]; exact grown_setCell _ _ _ _
          have hS4 : Hid (Keep (SB b ov) A V4) := hS3.out.trans (Keep.grown (S := SB b ov) hg4 (.inl rfl)) (fun _ hj _ => hj)
          have hX4 : Hid (Blk V4 b 54 [.bool true, pv, v3, T]) := by rw [← hv4]; exact hX3.out.1.set 2 v3
          have hO4 : Hid (Ow V4 38 3 v3 (n + 1) (cs ++ qd x)) := hX3.out.2.same (fun g hg => hg4.block g (hX3.out.2.lt hg) (fun hk => by cases hk; obtain ⟨g1, h1, h2⟩ := hP3.out; rw [hg] at h1; cases h1; exact h2.elim (fun h2 => HNB.out h2) (fun h2 => by have := HLB.out; omega)))
          rw [hv4]
          clear hv4 hg4
          refine hK1.out _ _ hS4.out ?_
          clear hK1
          intro _
          try simp only [Act.put, List.setIfInBounds_toArray, List.set_cons_zero, List.set_cons_succ]
          refine wpAnyH_done (by kernel_rfl) ?_ _
          exact hQ V4 _ _ ⟨hO4.out, hX4.out, hP3.out, hS4.out⟩
  · intro K1 hK1
    refine step_bs (by rfl) 28 (.tmp 36) _ rfl rfl (run_bslice Try.underlying28 sized38 (by omega) (qd x) rfl _) ?_
    obtain ⟨V1, hv1⟩ : ∃ V, V0.alloc (.cells (qd x).toArray 38) = V := ⟨_, rfl⟩
    obtain ⟨q1, hq1⟩ : ∃ m, V0.heap.size = m := ⟨_, rfl⟩
    have hS1 : Hid (Keep (SB b ov) A V1) := by rw [← hv1]; exact keep_al hS0.out _
    have hX1 : Hid (Blk V1 b 54 [.bool true, pv, ov, T] ∧ Ow V1 38 3 ov n cs) := by rw [← hv1]; exact ⟨hX0.out.1.alloc _, hX0.out.2.below (below_al _ _)⟩
    have hR1 : Hid (V1.rangeAt q1 0 (qd x)) := by rw [← hv1, ← hq1]; exact range_new _ _ _
    rw [hv1, hq1]
    clear hv1 hq1
    refine hK1.out _ _ hS1.out ?_
    clear hK1
    intro _
    try simp only [Act.put, List.setIfInBounds_toArray, List.set_cons_zero, List.set_cons_succ]
    refine wpAnyH_ready (rs := [4]) (by kernel_rfl) (by simp) (AllReadyH.cons (i := 4) (o := { dst := some 35, op := Op.load 28 (Operand.tmp 34), type := 28, pos := "queue.go:61", after := #[{ on := 3, ground := Ground.data }], guard := none }) rfl ?_ AllReadyH.nil)
    · intro K1 hK1
      rw [if_pos (by rfl)]
      have hc : V1.cell? ⟨b, 2, none⟩ = some ov := hX1.out.1.cell rfl
      go_wp2
      clear hc
      refine hK1.out _ _ hS1.out ?_
      clear hK1
      intro _
      try simp only [Act.put, List.setIfInBounds_toArray, List.set_cons_zero, List.set_cons_succ]
      refine wpAnyH_ready (rs := [7]) (by kernel_rfl) (by simp) (AllReadyH.cons (i := 7) (o := { dst := some 38, op := Op.call { callee := Callee.builtin Builtin.append, args := #[Operand.tmp 35, Operand.tmp 37], argTypes := #[28, 28] }, type := 28, pos := "queue.go:61", after := #[{ on := 4, ground := Ground.data }, { on := 6, ground := Ground.data }], guard := none }) rfl ?_ AllReadyH.nil)
      · intro K1 hK1
        refine step_app (by rfl) 28 38 3 24 (.tmp 35) (.tmp 37) rfl Try.underlying28 sized38 (by omega) (by omega) ov n cs hX1.out.2 q1 1 (qd x) rfl hR1.out (qd_one x) HN.out rfl rfl ?_
        intro v3 V3 ho3 hg3 hp3
        have hS3 : Hid (Keep (SB b ov) A V3) := hS1.out.trans (Keep.grownO (S := SB b ov) hg3.out (fun k hk => .inr hk)) (fun _ hj _ => hj)
        have hX3 : Hid (Blk V3 b 54 [.bool true, pv, ov, T] ∧ Ow V3 38 3 v3 (n + 1) (cs ++ qd x)) := ⟨hX1.out.1.kept hg3.out (fun hk => HNB.out hk.symm), ho3.out⟩
        have hP3 : Hid (∃ g', v3.ownBlock = some g' ∧ (ov.ownBlock = some g' ∨ A.heap.size ≤ g')) := by
          obtain ⟨g1, h1, h2⟩ := hp3.out
          exact ⟨g1, h1, h2.imp id (fun e => by rw [e]; exact hS1.out.size)⟩
        clear ho3 hg3 hp3
        refine hK1.out _ _ hS3.out ?_
        clear hK1
        intro _
        try simp only [Act.put, List.setIfInBounds_toArray, List.set_cons_zero, List.set_cons_succ]
        refine wpAnyH_take (i := 8) (oi := { dst := some 39, op := Op.nilCheck (Operand.tmp 31), type := 0, pos := "queue.go:61", after := #[{ on := 0, ground := Ground.data }, { on := 0, ground := Ground.phase }, { on := 1, ground := Ground.phase }, { on := 2, ground := Ground.phase }, { on := 3, ground := Ground.phase }, { on := 4, ground := Ground.phase }, { on := 5, ground := Ground.phase }, { on := 6, ground := Ground.phase }, { on := 7, ground := Ground.phase }], guard := none }) (v := .pointer (some ⟨b, 0, none⟩)) rfl (by kernel_rfl) (by kernel_rfl) (by kernel_rfl) (fun _ _ _ h => h.elim) (Or.inl ⟨by rfl, ?y7⟩) hS3.out ?_
        case y7 =>
          intro V hV
          go_simp
        simp only [Act.put, List.setIfInBounds_toArray, List.set_cons_zero, List.set_cons_succ]
        refine wpAnyH_take (i := 9) (oi := { dst := some 40, op := Op.fieldAddr 54 (Operand.tmp 39) 2, type := 0, pos := "queue.go:61", after := #[{ on := 8, ground := Ground.data }, { on := 0, ground := Ground.phase }, { on := 1, ground := Ground.phase }, { on := 2, ground := Ground.phase }, { on := 3, ground := Ground.phase }, { on := 4, ground := Ground.phase }, { on := 5, ground := Ground.phase }, { on := 6, ground := Ground.phase }, { on := 7, ground := Ground.phase }], guard := none }) (v := .pointer (some ⟨b, 2, none⟩)) rfl (by kernel_rfl) (by kernel_rfl) (by kernel_rfl) (fun _ _ _ h => h.elim) (Or.inl ⟨by rfl, ?y8⟩) hS3.out ?_
        case y8 =>
          intro V hV
          go_simp
        simp only [Act.put, List.setIfInBounds_toArray, List.set_cons_zero, List.set_cons_succ]
        refine wpAnyH_ready (rs := [10]) (by kernel_rfl) (by simp) (AllReadyH.cons (i := 10) (o := { dst := none, op := Op.store 28 (Operand.tmp 40) (Operand.tmp 38), type := 0, pos := "queue.go:61", after := #[{ on := 9, ground := Ground.data }, { on := 7, ground := Ground.data }, { on := 7, ground := Ground.chain }, { on := 0, ground := Ground.phase }, { on := 1, ground := Ground.phase }, { on := 2, ground := Ground.phase }, { on := 3, ground := Ground.phase }, { on := 4, ground := Ground.phase }, { on := 5, ground := Ground.phase }, { on := 6, ground := Ground.phase }, { on := 7, ground := Ground.phase }], guard := none }) rfl ?_ AllReadyH.nil)
        · intro K1 hK1
          refine step_st (by rfl) 28 (.tmp 40) (.tmp 38) rfl b 2 v3 54 _ rfl rfl hX3.out.1 (by simp) (by kernel_rfl) (ow_slice hX3.out.2).1 (ow_slice hX3.out.2).2 ?_
          obtain ⟨V4, hv4⟩ : ∃ V, V3.setCell ⟨b, 2, none⟩ v3 = V := ⟨_, rfl⟩
          have hg4 : V3.grownBy V4 (some b) := by rw [← hv4]; exact grown_setCell _ _ _ _
          have hS4 : Hid (Keep (SB b ov) A V4) := hS3.out.trans (Keep.grown (S := SB b ov) hg4 (.inl rfl)) (fun _ hj _ => hj)
          have hX4 : Hid (Blk V4 b 54 [.bool true, pv, v3, T]) := by rw [← hv4]; exact hX3.out.1.set 2 v3
          have hO4 : Hid (Ow V4 38 3 v3 (n + 1) (cs ++ qd x)) := hX3.out.2.same (fun g hg => hg4.block g (hX3.out.2.lt hg) (fun hk => by cases hk; obtain ⟨g1, h1, h2⟩ := hP3.out; rw [hg] at h1; cases h1; exact h2.elim (fun h2 => HNB.out h2) (fun h2 => by have := HLB.out; omega)))
          rw [hv4]
          clear hv4 hg4
          refine hK1.out _ _ hS4.out ?_
          clear hK1
          intro _
          try simp only [Act.put, List.setIfInBounds_toArray, List.set_cons_zero, List.set_cons_succ]
          refine wpAnyH_done (by kernel_rfl) ?_ _
          exact hQ V4 _ _ ⟨hO4.out, hX4.out, hP3.out, hS4.out⟩
#print axioms end3
end Go.Proofs.Ytipipckbcelphaa.Oct
