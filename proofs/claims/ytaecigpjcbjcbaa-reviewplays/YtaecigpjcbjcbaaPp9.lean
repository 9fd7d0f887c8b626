/-
  Layer 20 (review): Propose: its last drawn region.
-/
import Derived.Test.YtaecigpjcbjcbaaPp7
namespace Go.Proofs.Ytaecigpjcbjcbaa.Oct
open Go.RowKit
set_option linter.unusedSimpArgs false
set_option linter.unusedVariables false

theorem run_bs38 (m : Int) (W : World) : (Instr.buildSlice 38 1 #[(0, iv m)]).run Try.prog W = .ok (.slice (some ⟨W.heap.size, 0, none⟩) 1 1) (W.alloc (.cells #[iv m] 3)) := by
  kernel_rfl
/-- what region 9 leaves -/
def Made9 (A : World) (b : Nat) (pv ov : Value) (n : Nat) (cs : List Value) (m : Int) (v' : Value) (V : World) : Prop :=
  Ow V 3 1 v' (n + 1) (cs ++ [iv m]) ∧ Blk V b 70 [.bool true, pv, v'] ∧ (∃ g', v'.ownBlock = some g' ∧ (ov.ownBlock = some g' ∨ A.heap.size ≤ g')) ∧ Keep (SB b ov) A V
set_option maxRecDepth 100000 in
set_option maxHeartbeats 4000000 in
theorem prop9 {Q : Exit → Act → World → Prop} {x0 x1 x2 x3 x5 x6 x7 x8 x9 x11 x12 x13 x14 x15 x16 x17 x18 x19 x20 x21 x22 x23 x24 x25 x26 x27 x28 x29 x30 x31 x32 x33 x34 x35 x36 x37 x38 x39 x40 x41 x42 x43 x44 x45 x46 x47 x48 x49 x50 x51 x52 x53 x54 x55 x56 x57 x58 : Value} {ds : List Deferred} {A : World} {b k1 n : Nat} {m : Int} {pv ov : Value} {cs : List Value}
    (HL : Hid (k1 < A.heap.size ∧ ¬ SB b ov k1)) (c1 : A.cell? ⟨k1, 0, none⟩ = some (.pointer (some ⟨b, 0, none⟩))) (HX : Hid (Blk A b 70 [.bool true, pv, ov] ∧ Ow A 3 1 ov n cs)) (HN : Hid (n + 1 ≤ 1000000)) (HNB : Hid (ov.ownBlock ≠ some b)) (HLB : Hid (b < A.heap.size))
    (hQ : ∀ V1 v2 q, Made9 A b pv ov n cs m v2 V1 → Q .normal { tmps := #[x0, x1, x2, x3, .pointer (some ⟨k1, 0, none⟩), x5, x6, x7, x8, x9, iv m, x11, x12, x13, x14, x15, x16, x17, x18, x19, x20, x21, x22, x23, x24, x25, x26, x27, x28, x29, x30, x31, x32, x33, x34, x35, x36, x37, x38, x39, x40, x41, x42, x43, x44, x45, x46, x47, .pointer (some ⟨b, 0, none⟩), .pointer (some ⟨b, 0, none⟩), .pointer (some ⟨b, 0, none⟩), .pointer (some ⟨b, 2, none⟩), ov, iv m, .slice (some ⟨q, 0, none⟩) 1 1, v2, .pointer (some ⟨b, 0, none⟩), .pointer (some ⟨b, 2, none⟩), x58], defers := ds } V1) :
    (Code.region 9 #[{ dst := some 48, op := Op.load 25 (Operand.tmp 4), type := 25, pos := "review.go:54", after := #[], guard := none }, { dst := some 49, op := Op.load 25 (Operand.tmp 4), type := 25, pos := "review.go:54", after := #[], guard := none }, { dst := some 50, op := Op.nilCheck (Operand.tmp 49), type := 0, pos := "review.go:54", after := #[{ on := 1, ground := Ground.data }], guard := none }, { dst := some 51, op := Op.fieldAddr 70 (Operand.tmp 50) 2, type := 0, pos := "review.go:54", after := #[{ on := 2, ground := Ground.data }], guard := none }, { dst := some 52, op := Op.load 38 (Operand.tmp 51), type := 38, pos := "review.go:54", after := #[{ on := 3, ground := Ground.data }], guard := none }, { dst := some 53, op := Op.move (Operand.tmp 10), type := 3, pos := "review.go:54", after := #[], guard := none }, { dst := some 54, op := Op.buildSlice 38 1 #[(0, Operand.tmp 53)], type := 38, pos := "review.go:54", after := #[{ on := 5, ground := Ground.data }], guard := none }, { dst := some 55, op := Op.call { callee := Callee.builtin Builtin.append, args := #[Operand.tmp 52, Operand.tmp 54], argTypes := #[38, 38] }, type := 38, pos := "review.go:54", after := #[{ on := 4, ground := Ground.data }, { on := 6, ground := Ground.data }], guard := none }, { dst := some 56, op := Op.nilCheck (Operand.tmp 48), type := 0, pos := "review.go:54", after := #[{ on := 0, ground := Ground.data }, { on := 0, ground := Ground.phase }, { on := 1, ground := Ground.phase }, { on := 2, ground := Ground.phase }, { on := 3, ground := Ground.phase }, { on := 4, ground := Ground.phase }, { on := 5, ground := Ground.phase }, { on := 6, ground := Ground.phase }, { on := 7, ground := Ground.phase }], guard := none }, { dst := some 57, op := Op.fieldAddr 70 (Operand.tmp 56) 2, type := 0, pos := "review.go:54", after := #[{ on := 8, ground := Ground.data }, { on := 0, ground := Ground.phase }, { on := 1, ground := Ground.phase }, { on := 2, ground := Ground.phase }, { on := 3, ground := Ground.phase }, { on := 4, ground := Ground.phase }, { on := 5, ground := Ground.phase }, { on := 6, ground := Ground.phase }, { on := 7, ground := Ground.phase }], guard := none }, { dst := none, op := Op.store 38 (Operand.tmp 57) (Operand.tmp 55), type := 0, pos := "review.go:54", after := #[{ on := 9, ground := Ground.data }, { on := 7, ground := Ground.data }, { on := 7, ground := Ground.chain }, { on := 0, ground := Ground.phase }, { on := 1, ground := Ground.phase }, { on := 2, ground := Ground.phase }, { on := 3, ground := Ground.phase }, { on := 4, ground := Ground.phase }, { on := 5, ground := Ground.phase }, { on := 6, ground := Ground.phase }, { on := 7, ground := Ground.phase }], guard := none }] true).wp Try.prog Q { tmps := #[x0, x1, x2, x3, .pointer (some ⟨k1, 0, none⟩), x5, x6, x7, x8, x9, iv m, x11, x12, x13, x14, x15, x16, x17, x18, x19, x20, x21, x22, x23, x24, x25, x26, x27, x28, x29, x30, x31, x32, x33, x34, x35, x36, x37, x38, x39, x40, x41, x42, x43, x44, x45, x46, x47, x48, x49, x50, x51, x52, x53, x54, x55, x56, x57, x58], defers := ds } A := by
  refine Code.wp_mono (Q := fun x a' w' => match x with | .normal => Q .normal a' w' | _ => False) (by intro x a' w' h; cases x <;> first | exact h | exact h.elim) ?_
  refine wp_region_held (S := fun V => Keep (SB b ov) A V) (by kernel_rfl) ?_
  have hS0 : Hid (Keep (SB b ov) A A.drew) := (Keep.refl _ A).drew
  change wpAnyH Try.prog .any _ _ (fun V => Keep (SB b ov) A V) 11 (Array.replicate 11 false) _ A.drew
  obtain ⟨V0, hV0⟩ : ∃ V0, A.drew = V0 := ⟨_, rfl⟩
  rw [hV0]
  rw [hV0] at hS0
  have hX0 : Hid (Blk V0 b 70 [.bool true, pv, ov] ∧ Ow V0 3 1 ov n cs) := by rw [← hV0]; exact ⟨HX.out.1.drew, HX.out.2⟩
  clear hV0
  refine wpAnyH_take (i := 0) (oi := { dst := some 48, op := Op.load 25 (Operand.tmp 4), type := 25, pos := "review.go:54", after := #[], guard := none }) (v := .pointer (some ⟨b, 0, none⟩)) rfl (by kernel_rfl) (by kernel_rfl) (by kernel_rfl) (fun _ _ _ h => h.elim) (Or.inl ⟨by rfl, ?y1⟩) hS0.out ?_
  case y1 =>
    intro V hV
    have hc : V.cell? ⟨k1, 0, none⟩ = some (.pointer (some ⟨b, 0, none⟩)) := (World.cell?_of_block (a := ⟨k1, 0, none⟩) ((show Keep (SB b ov) A V from hV).block k1 (HL.out.1) (HL.out.2))).trans c1
    go_simp
  simp only [Act.put, List.setIfInBounds_toArray, List.set_cons_zero, List.set_cons_succ]
  refine wpAnyH_take (i := 1) (oi := { dst := some 49, op := Op.load 25 (Operand.tmp 4), type := 25, pos := "review.go:54", after := #[], guard := none }) (v := .pointer (some ⟨b, 0, none⟩)) rfl (by kernel_rfl) (by kernel_rfl) (by kernel_rfl) (fun _ _ _ h => h.elim) (Or.inl ⟨by rfl, ?y2⟩) hS0.out ?_
  case y2 =>
    intro V hV
    have hc : V.cell? ⟨k1, 0, none⟩ = some (.pointer (some ⟨b, 0, none⟩)) := (World.cell?_of_block (a := ⟨k1, 0, none⟩) ((show Keep (SB b ov) A V from hV).block k1 (HL.out.1) (HL.out.2))).trans c1
    go_simp
  simp only [Act.put, List.setIfInBounds_toArray, List.set_cons_zero, List.set_cons_succ]
  refine wpAnyH_take (i := 2) (oi := { dst := some 50, op := Op.nilCheck (Operand.tmp 49), type := 0, pos := "review.go:54", after := #[{ on := 1, ground := Ground.data }], guard := none }) (v := .pointer (some ⟨b, 0, none⟩)) rfl (by kernel_rfl) (by kernel_rfl) (by kernel_rfl) (fun _ _ _ h => h.elim) (Or.inl ⟨by rfl, ?y3⟩) hS0.out ?_
  case y3 =>
    intro V hV
    go_simp
  simp only [Act.put, List.setIfInBounds_toArray, List.set_cons_zero, List.set_cons_succ]
  refine wpAnyH_take (i := 3) (oi := { dst := some 51, op := Op.fieldAddr 70 (Operand.tmp 50) 2, type := 0, pos := "review.go:54", after := #[{ on := 2, ground := Ground.data }], guard := none }) (v := .pointer (some ⟨b, 2, none⟩)) rfl (by kernel_rfl) (by kernel_rfl) (by kernel_rfl) (fun _ _ _ h => h.elim) (Or.inl ⟨by rfl, ?y4⟩) hS0.out ?_
  case y4 =>
    intro V hV
    go_simp
  simp only [Act.put, List.setIfInBounds_toArray, List.set_cons_zero, List.set_cons_succ]
  refine wpAnyH_take (i := 5) (oi := { dst := some 53, op := Op.move (Operand.tmp 10), type := 3, pos := "review.go:54", after := #[], guard := none }) (v := iv m) rfl (by kernel_rfl) (by kernel_rfl) (by kernel_rfl) (fun _ _ _ h => h.elim) (Or.inl ⟨by rfl, ?y5⟩) hS0.out ?_
  case y5 =>
    intro V hV
    go_simp
  simp only [Act.put, List.setIfInBounds_toArray, List.set_cons_zero, List.set_cons_succ]
  refine wpAnyH_ready (rs := [4, 6]) (by kernel_rfl) (by simp) (AllReadyH.cons (i := 4) (o := { dst := some 52, op := Op.load 38 (Operand.tmp 51), type := 38, pos := "review.go:54", after := #[{ on := 3, ground := Ground.data }], guard := none }) rfl ?_ (AllReadyH.cons (i := 6) (o := { dst := some 54, op := Op.buildSlice 38 1 #[(0, Operand.tmp 53)], type := 38, pos := "review.go:54", after := #[{ on := 5, ground := Ground.data }], guard := none }) rfl ?_ AllReadyH.nil))
  · intro K1 hK1
    rw [if_pos (by rfl)]
    have hc : V0.cell? ⟨b, 2, none⟩ = some ov := hX0.out.1.cell rfl
    go_wp2
    clear hc
    refine hK1.out _ _ hS0.out ?_
    clear hK1
    intro _
    try simp only [Act.put, List.setIfInBounds_toArray, List.set_cons_zero, List.set_cons_succ]
    refine wpAnyH_ready (rs := [6]) (by kernel_rfl) (by simp) (AllReadyH.cons (i := 6) (o := { dst := some 54, op := Op.buildSlice 38 1 #[(0, Operand.tmp 53)], type := 38, pos := "review.go:54", after := #[{ on := 5, ground := Ground.data }], guard := none }) rfl ?_ AllReadyH.nil)
    · intro K1 hK1
      refine step_bs (by rfl) 38 (.tmp 53) _ rfl rfl (run_bs38 m _) ?_
      obtain ⟨V2, hv2⟩ : ∃ V, V0.alloc (.cells #[iv m] 3) = V := ⟨_, rfl⟩
      obtain ⟨q2, hq2⟩ : ∃ m, V0.heap.size = m := ⟨_, rfl⟩
      have hS2 : Hid (Keep (SB b ov) A V2) := by rw [← hv2]; exact keep_al hS0.out _
      have hX2 : Hid (Blk V2 b 70 [.bool true, pv, ov] ∧ Ow V2 3 1 ov n cs) := by rw [← hv2]; exact ⟨hX0.out.1.alloc _, hX0.out.2.below (below_al _ _)⟩
      have hR2 : Hid (V2.rangeAt q2 0 [iv m]) := by rw [← hv2, ← hq2]; exact range_new _ _ _
      rw [hv2, hq2]
      clear hv2 hq2
      refine hK1.out _ _ hS2.out ?_
      clear hK1
      intro _
      try simp only [Act.put, List.setIfInBounds_toArray, List.set_cons_zero, List.set_cons_succ]
      refine wpAnyH_ready (rs := [7]) (by kernel_rfl) (by simp) (AllReadyH.cons (i := 7) (o := { dst := some 55, op := Op.call { callee := Callee.builtin Builtin.append, args := #[Operand.tmp 52, Operand.tmp 54], argTypes := #[38, 38] }, type := 38, pos := "review.go:54", after := #[{ on := 4, ground := Ground.data }, { on := 6, ground := Ground.data }], guard := none }) rfl ?_ AllReadyH.nil)
      · intro K1 hK1
        refine step_app (by rfl) 38 3 1 8 (.tmp 52) (.tmp 54) rfl Try.underlying38 sized3 (by omega) (by omega) ov n cs hX2.out.2 q2 1 [iv m] rfl hR2.out (by intro u hu; simp at hu; subst hu; rfl) HN.out rfl rfl ?_
        intro v3 V3 ho3 hg3 hp3
        have hS3 : Hid (Keep (SB b ov) A V3) := hS2.out.trans (Keep.grownO (S := SB b ov) hg3.out (fun k hk => .inr hk)) (fun _ hj _ => hj)
        have hX3 : Hid (Blk V3 b 70 [.bool true, pv, ov] ∧ Ow V3 3 1 v3 (n + 1) (cs ++ [iv m])) := ⟨hX2.out.1.kept hg3.out (fun hk => HNB.out hk.symm), ho3.out⟩
        have hP3 : Hid (∃ g', v3.ownBlock = some g' ∧ (ov.ownBlock = some g' ∨ A.heap.size ≤ g')) := by
          obtain ⟨g1, h1, h2⟩ := hp3.out
          exact ⟨g1, h1, h2.imp id (fun e => by rw [e]; exact hS2.out.size)⟩
        clear ho3 hg3 hp3
        refine hK1.out _ _ hS3.out ?_
        clear hK1
        intro _
        try simp only [Act.put, List.setIfInBounds_toArray, List.set_cons_zero, List.set_cons_succ]
        refine wpAnyH_take (i := 8) (oi := { dst := some 56, op := Op.nilCheck (Operand.tmp 48), type := 0, pos := "review.go:54", after := #[{ on := 0, ground := Ground.data }, { on := 0, ground := Ground.phase }, { on := 1, ground := Ground.phase }, { on := 2, ground := Ground.phase }, { on := 3, ground := Ground.phase }, { on := 4, ground := Ground.phase }, { on := 5, ground := Ground.phase }, { on := 6, ground := Ground.phase }, { on := 7, ground := Ground.phase }], guard := none }) (v := .pointer (some ⟨b, 0, none⟩)) rfl (by kernel_rfl) (by kernel_rfl) (by kernel_rfl) (fun _ _ _ h => h.elim) (Or.inl ⟨by rfl, ?y6⟩) hS3.out ?_
        case y6 =>
          intro V hV
          go_simp
        simp only [Act.put, List.setIfInBounds_toArray, List.set_cons_zero, List.set_cons_succ]
        refine wpAnyH_take (i := 9) (oi := { dst := some 57, op := Op.fieldAddr 70 (Operand.tmp 56) 2, type := 0, pos := "review.go:54", after := #[{ on := 8, ground := Ground.data }, { on := 0, ground := Ground.phase }, { on := 1, ground := Ground.phase }, { on := 2, ground := Ground.phase }, { on := 3, ground := Ground.phase }, { on := 4, ground := Ground.phase }, { on := 5, ground := Ground.phase }, { on := 6, ground := Ground.phase }, { on := 7, ground := Ground.phase }], guard := none }) (v := .pointer (some ⟨b, 2, none⟩)) rfl (by kernel_rfl) (by kernel_rfl) (by kernel_rfl) (fun _ _ _ h => h.elim) (Or.inl ⟨by rfl, ?y7⟩) hS3.out ?_
        case y7 =>
          intro V hV
          go_simp
        simp only [Act.put, List.setIfInBounds_toArray, List.set_cons_zero, List.set_cons_succ]
        refine wpAnyH_ready (rs := [10]) (by kernel_rfl) (by simp) (AllReadyH.cons (i := 10) (o := { dst := none, op := Op.store 38 (Operand.tmp 57) (Operand.tmp 55), type := 0, pos := "review.go:54", after := #[{ on := 9, ground := Ground.data }, { on := 7, ground := Ground.data }, { on := 7, ground := Ground.chain }, { on := 0, ground := Ground.phase }, { on := 1, ground := Ground.phase }, { on := 2, ground := Ground.phase }, { on := 3, ground := Ground.phase }, { on := 4, ground := Ground.phase }, { on := 5, ground := Ground.phase }, { on := 6, ground := Ground.phase }, { on := 7, ground := Ground.phase }], guard := none }) rfl ?_ AllReadyH.nil)
        · intro K1 hK1
          refine step_st (by rfl) 38 (.tmp 57) (.tmp 55) rfl b 2 v3 70 _ rfl rfl hX3.out.1 (by simp) (by kernel_rfl) (ow_slice hX3.out.2).1 (ow_slice hX3.out.2).2 ?_
          obtain ⟨V4, hv4⟩ : ∃ V, V3.setCell ⟨b, 2, none⟩ v3 = V := ⟨_, rfl⟩
          have hg4 : V3.grownBy V4 (some b) := by rw [← hv4]; exact grown_setCell _ _ _ _
          have hS4 : Hid (Keep (SB b ov) A V4) := hS3.out.trans (Keep.grown (S := SB b ov) hg4 (.inl rfl)) (fun _ hj _ => hj)
          have hX4 : Hid (Blk V4 b 70 [.bool true, pv, v3]) := by rw [← hv4]; exact hX3.out.1.set 2 v3
          have hO4 : Hid (Ow V4 3 1 v3 (n + 1) (cs ++ [iv m])) := hX3.out.2.same (fun g hg => hg4.block g (hX3.out.2.lt hg) (fun hk => by cases hk; obtain ⟨g1, h1, h2⟩ := hP3.out; rw [hg] at h1; cases h1; exact h2.elim (fun h2 => HNB.out h2) (fun h2 => by have := HLB.out; omega)))
          rw [hv4]
          clear hv4 hg4
          refine hK1.out _ _ hS4.out ?_
          clear hK1
          intro _
          try simp only [Act.put, List.setIfInBounds_toArray, List.set_cons_zero, List.set_cons_succ]
          refine wpAnyH_done (by kernel_rfl) ?_ _
          exact hQ V4 _ _ ⟨hO4.out, hX4.out, hP3.out, hS4.out⟩
  · intro K1 hK1
    refine step_bs (by rfl) 38 (.tmp 53) _ rfl rfl (run_bs38 m _) ?_
    obtain ⟨V1, hv1⟩ : ∃ V, V0.alloc (.cells #[iv m] 3) = V := ⟨_, rfl⟩
    obtain ⟨q1, hq1⟩ : ∃ m, V0.heap.size = m := ⟨_, rfl⟩
    have hS1 : Hid (Keep (SB b ov) A V1) := by rw [← hv1]; exact keep_al hS0.out _
    have hX1 : Hid (Blk V1 b 70 [.bool true, pv, ov] ∧ Ow V1 3 1 ov n cs) := by rw [← hv1]; exact ⟨hX0.out.1.alloc _, hX0.out.2.below (below_al _ _)⟩
    have hR1 : Hid (V1.rangeAt q1 0 [iv m]) := by rw [← hv1, ← hq1]; exact range_new _ _ _
    rw [hv1, hq1]
    clear hv1 hq1
    refine hK1.out _ _ hS1.out ?_
    clear hK1
    intro _
    try simp only [Act.put, List.setIfInBounds_toArray, List.set_cons_zero, List.set_cons_succ]
    refine wpAnyH_ready (rs := [4]) (by kernel_rfl) (by simp) (AllReadyH.cons (i := 4) (o := { dst := some 52, op := Op.load 38 (Operand.tmp 51), type := 38, pos := "review.go:54", after := #[{ on := 3, ground := Ground.data }], guard := none }) rfl ?_ AllReadyH.nil)
    · intro K1 hK1
      rw [if_pos (by rfl)]
      have hc : V1.cell? ⟨b, 2, none⟩ = some ov := hX1.out.1.cell rfl
      go_wp2
      clear hc
      refine hK1.out _ _ hS1.out ?_
      clear hK1
      intro _
      try simp only [Act.put, List.setIfInBounds_toArray, List.set_cons_zero, List.set_cons_succ]
      refine wpAnyH_ready (rs := [7]) (by kernel_rfl) (by simp) (AllReadyH.cons (i := 7) (o := { dst := some 55, op := Op.call { callee := Callee.builtin Builtin.append, args := #[Operand.tmp 52, Operand.tmp 54], argTypes := #[38, 38] }, type := 38, pos := "review.go:54", after := #[{ on := 4, ground := Ground.data }, { on := 6, ground := Ground.data }], guard := none }) rfl ?_ AllReadyH.nil)
      · intro K1 hK1
        refine step_app (by rfl) 38 3 1 8 (.tmp 52) (.tmp 54) rfl Try.underlying38 sized3 (by omega) (by omega) ov n cs hX1.out.2 q1 1 [iv m] rfl hR1.out (by intro u hu; simp at hu; subst hu; rfl) HN.out rfl rfl ?_
        intro v3 V3 ho3 hg3 hp3
        have hS3 : Hid (Keep (SB b ov) A V3) := hS1.out.trans (Keep.grownO (S := SB b ov) hg3.out (fun k hk => .inr hk)) (fun _ hj _ => hj)
        have hX3 : Hid (Blk V3 b 70 [.bool true, pv, ov] ∧ Ow V3 3 1 v3 (n + 1) (cs ++ [iv m])) := ⟨hX1.out.1.kept hg3.out (fun hk => HNB.out hk.symm), ho3.out⟩
        have hP3 : Hid (∃ g', v3.ownBlock = some g' ∧ (ov.ownBlock = some g' ∨ A.heap.size ≤ g')) := by
          obtain ⟨g1, h1, h2⟩ := hp3.out
          exact ⟨g1, h1, h2.imp id (fun e => by rw [e]; exact hS1.out.size)⟩
        clear ho3 hg3 hp3
        refine hK1.out _ _ hS3.out ?_
        clear hK1
        intro _
        try simp only [Act.put, List.setIfInBounds_toArray, List.set_cons_zero, List.set_cons_succ]
        refine wpAnyH_take (i := 8) (oi := { dst := some 56, op := Op.nilCheck (Operand.tmp 48), type := 0, pos := "review.go:54", after := #[{ on := 0, ground := Ground.data }, { on := 0, ground := Ground.phase }, { on := 1, ground := Ground.phase }, { on := 2, ground := Ground.phase }, { on := 3, ground := Ground.phase }, { on := 4, ground := Ground.phase }, { on := 5, ground := Ground.phase }, { on := 6, ground := Ground.phase }, { on := 7, ground := Ground.phase }], guard := none }) (v := .pointer (some ⟨b, 0, none⟩)) rfl (by kernel_rfl) (by kernel_rfl) (by kernel_rfl) (fun _ _ _ h => h.elim) (Or.inl ⟨by rfl, ?y8⟩) hS3.out ?_
        case y8 =>
          intro V hV
          go_simp
        simp only [Act.put, List.setIfInBounds_toArray, List.set_cons_zero, List.set_cons_succ]
        refine wpAnyH_take (i := 9) (oi := { dst := some 57, op := Op.fieldAddr 70 (Operand.tmp 56) 2, type := 0, pos := "review.go:54", after := #[{ on := 8, ground := Ground.data }, { on := 0, ground := Ground.phase }, { on := 1, ground := Ground.phase }, { on := 2, ground := Ground.phase }, { on := 3, ground := Ground.phase }, { on := 4, ground := Ground.phase }, { on := 5, ground := Ground.phase }, { on := 6, ground := Ground.phase }, { on := 7, ground := Ground.phase }], guard := none }) (v := .pointer (some ⟨b, 2, none⟩)) rfl (by kernel_rfl) (by kernel_rfl) (by kernel_rfl) (fun _ _ _ h => h.elim) (Or.inl ⟨by rfl, ?y9⟩) hS3.out ?_
        case y9 =>
          intro V hV
          go_simp
        simp only [Act.put, List.setIfInBounds_toArray, List.set_cons_zero, List.set_cons_succ]
        refine wpAnyH_ready (rs := [10]) (by kernel_rfl) (by simp) (AllReadyH.cons (i := 10) (o := { dst := none, op := Op.store 38 (Operand.tmp 57) (Operand.tmp 55), type := 0, pos := "review.go:54", after := #[{ on := 9, ground := Ground.data }, { on := 7, ground := Ground.data }, { on := 7, ground := Ground.chain }, { on := 0, ground := Ground.phase }, { on := 1, ground := Ground.phase }, { on := 2, ground := Ground.phase }, { on := 3, ground := Ground.phase }, { on := 4, ground := Ground.phase }, { on := 5, ground := Ground.phase }, { on := 6, ground := Ground.phase }, { on := 7, ground := Ground.phase }], guard := none }) rfl ?_ AllReadyH.nil)
        · intro K1 hK1
          refine step_st (by rfl) 38 (.tmp 57) (.tmp 55) rfl b 2 v3 70 _ rfl rfl hX3.out.1 (by simp) (by kernel_rfl) (ow_slice hX3.out.2).1 (ow_slice hX3.out.2).2 ?_
          obtain ⟨V4, hv4⟩ : ∃ V, V3.setCell ⟨b, 2, none⟩ v3 = V := ⟨_, rfl⟩
          have hg4 : V3.grownBy V4 (some b) := by rw [← hv4]; exact grown_setCell _ _ _ _
          have hS4 : Hid (Keep (SB b ov) A V4) := hS3.out.trans (Keep.grown (S := SB b ov) hg4 (.inl rfl)) (fun _ hj _ => hj)
          have hX4 : Hid (Blk V4 b 70 [.bool true, pv, v3]) := by rw [← hv4]; exact hX3.out.1.set 2 v3
          have hO4 : Hid (Ow V4 3 1 v3 (n + 1) (cs ++ [iv m])) := hX3.out.2.same (fun g hg => hg4.block g (hX3.out.2.lt hg) (fun hk => by cases hk; obtain ⟨g1, h1, h2⟩ := hP3.out; rw [hg] at h1; cases h1; exact h2.elim (fun h2 => HNB.out h2) (fun h2 => by have := HLB.out; omega)))
          rw [hv4]
          clear hv4 hg4
          refine hK1.out _ _ hS4.out ?_
          clear hK1
          intro _
          try simp only [Act.put, List.setIfInBounds_toArray, List.set_cons_zero, List.set_cons_succ]
          refine wpAnyH_done (by kernel_rfl) ?_ _
          exact hQ V4 _ _ ⟨hO4.out, hX4.out, hP3.out, hS4.out⟩
#print axioms prop9
end Go.Proofs.Ytaecigpjcbjcbaa.Oct
