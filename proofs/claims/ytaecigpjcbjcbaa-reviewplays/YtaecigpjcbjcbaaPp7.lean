/-
  Layer 20 (review): Propose: its drawn regions.
-/
import Derived.Test.YtaecigpjcbjcbaaStp
namespace Go.Proofs.Ytaecigpjcbjcbaa.Oct
open Go.RowKit
set_option linter.unusedSimpArgs false
set_option linter.unusedVariables false

/-- a block and a row of the call's own -/
def SB (b : Nat) (v : Value) (k : Nat) : Prop := k = b ∨ v.ownBlock = some k
/-- behind a row's growth: where it lies, what is kept -/
def Grew (A : World) (b : Nat) (L L' : List Value) (e sz n : Nat) (v v' : Value) (cs : List Value) (V : World) : Prop :=
  Blk V b 70 L' ∧ Ow V e sz v' n cs ∧ (∃ g', v'.ownBlock = some g' ∧ (v.ownBlock = some g' ∨ A.heap.size ≤ g')) ∧ Keep (SB b v) A V
theorem ow_slice {w : World} {e sz n : Nat} {v : Value} {cs : List Value} (h : Ow w e sz v n cs) : v.cells = #[v] ∧ v.oneCell' = true := by
  obtain ⟨a, c, rfl, _⟩ := h.read
  exact ⟨rfl, rfl⟩
theorem yl_build4 {o : Oper} {a : Act} (V : World) (t : TypeId) (x0 x1 x2 x3 : Operand) (u0 u1 u2 u3 v : Value) (hop : o.op = .build t #[(0, x0), (1, x1), (2, x2), (3, x3)]) (h0 : a.eval x0 = u0) (h1 : a.eval x1 = u1) (h2 : a.eval x2 = u2) (h3 : a.eval x3 = u3)
    (hrun : ∀ W, (Instr.build t #[(0, u0), (1, u1), (2, u2), (3, u3)]).run Try.prog W = .ok v W) : (execOp a.eval o).run Try.prog V = .ok (.value v) V := by
  unfold execOp
  simp [hop, h0, h1, h2, h3, hrun, Result.andThen]
theorem keep_al {S : Nat → Prop} {A V : World} (h : Keep S A V) (o : Obj) : Keep S A (V.alloc o) := h.trans (Keep.below (S := S) (below_al V o)) (fun _ hj _ => hj)
theorem new_one (au ch : BA) (h : Hs) (mb : Nat) : ∀ u ∈ (Pr.new au ch h mb).cells, u.oneCell' = true := by
  intro v hv
  simp only [Pr.new, Pr.cells, List.mem_cons, List.mem_append, List.not_mem_nil, or_false] at hv
  rcases hv with rfl | rfl | hv | rfl | rfl
  · rfl
  · rfl
  · exact U_one _ v hv
  all_goals rfl
/-- what region 7 leaves -/
def Made7 (A : World) (b : Nat) (pv ov : Value) (n : Nat) (cs : List Value) (au ch : BA) (h : Hs) (mb : Nat) (v' : Value) (V : World) : Prop :=
  (MP V mb [] ∧ A.heap.size ≤ mb) ∧ Ow V 87 36 v' (n + 1) (cs ++ (Pr.new au ch h mb).cells) ∧ Blk V b 70 [.bool true, v', ov] ∧ (∃ g', v'.ownBlock = some g' ∧ (pv.ownBlock = some g' ∨ A.heap.size ≤ g') ∧ g' ≠ mb) ∧ Keep (SB b pv) A V
set_option maxRecDepth 100000 in
set_option maxHeartbeats 4000000 in
theorem prop7 {Q : Exit → Act → World → Prop} {x0 x2 x3 x5 x8 x9 x10 x11 x12 x13 x14 x15 x16 x17 x18 x19 x20 x21 x22 x23 x24 x25 x26 x27 x28 x29 x30 x31 x32 x33 x34 x35 x36 x37 x38 x39 x40 x41 x42 x43 x44 x45 x46 x47 x48 x49 x50 x51 x52 x53 x54 x55 x56 x57 x58 : Value} {ds : List Deferred} {A : World} {b k1 k2 k3 n : Nat} {au ch : BA} {h : Hs} {pv ov : Value} {cs : List Value}
    (HL : Hid ((k1 < A.heap.size ∧ ¬ SB b pv k1) ∧ (k2 < A.heap.size ∧ ¬ SB b pv k2) ∧ (k3 < A.heap.size ∧ ¬ SB b pv k3) ∧ A.rangeAt k3 0 (U h) ∧ h.length = 32)) (c1 : A.cell? ⟨k1, 0, none⟩ = some (.pointer (some ⟨b, 0, none⟩))) (c2 : A.cell? ⟨k2, 0, none⟩ = some (.string ch)) (HX : Hid (Blk A b 70 [.bool true, pv, ov] ∧ Ow A 87 36 pv n cs)) (HN : Hid (n + 1 ≤ 1000000)) (HPV : Hid (∀ g, pv.ownBlock = some g → g < A.heap.size)) (HNB : Hid (pv.ownBlock ≠ some b)) (HLB : Hid (b < A.heap.size))
    (hQ : ∀ V1 mb v2 q, Made7 A b pv ov n cs au ch h mb v2 V1 → Q .normal { tmps := #[x0, .string au, x2, x3, .pointer (some ⟨k1, 0, none⟩), x5, .pointer (some ⟨k2, 0, none⟩), .pointer (some ⟨k3, 0, none⟩), x8, x9, x10, x11, x12, x13, x14, x15, x16, x17, x18, x19, x20, x21, x22, x23, x24, x25, x26, x27, x28, .pointer (some ⟨b, 0, none⟩), .pointer (some ⟨b, 0, none⟩), .pointer (some ⟨b, 0, none⟩), .pointer (some ⟨b, 1, none⟩), pv, .string au, .string ch, .agg (U h).toArray, .map (some mb), .agg ((Pr.new au ch h mb).cells).toArray, .slice (some ⟨q, 0, none⟩) 1 1, v2, .pointer (some ⟨b, 0, none⟩), .pointer (some ⟨b, 1, none⟩), x43, x44, x45, x46, x47, x48, x49, x50, x51, x52, x53, x54, x55, x56, x57, x58], defers := ds } V1) :
    (Code.region 7 #[{ dst := some 29, op := Op.load 25 (Operand.tmp 4), type := 25, pos := "review.go:52", after := #[], guard := none }, { dst := some 30, op := Op.load 25 (Operand.tmp 4), type := 25, pos := "review.go:52", after := #[], guard := none }, { dst := some 31, op := Op.nilCheck (Operand.tmp 30), type := 0, pos := "review.go:52", after := #[{ on := 1, ground := Ground.data }], guard := none }, { dst := some 32, op := Op.fieldAddr 70 (Operand.tmp 31) 1, type := 0, pos := "review.go:52", after := #[{ on := 2, ground := Ground.data }], guard := none }, { dst := some 33, op := Op.load 68 (Operand.tmp 32), type := 68, pos := "review.go:52", after := #[{ on := 3, ground := Ground.data }], guard := none }, { dst := some 34, op := Op.move (Operand.tmp 1), type := 9, pos := "review.go:52", after := #[], guard := none }, { dst := some 35, op := Op.load 9 (Operand.tmp 6), type := 9, pos := "review.go:52", after := #[], guard := none }, { dst := some 36, op := Op.load 32 (Operand.tmp 7), type := 32, pos := "review.go:52", after := #[], guard := none }, { dst := some 37, op := Op.makeMap 85 none, type := 85, pos := "review.go:52", after := #[], guard := none }, { dst := some 38, op := Op.build 87 #[(0, Operand.tmp 34), (1, Operand.tmp 35), (2, Operand.tmp 36), (3, Operand.tmp 37)], type := 87, pos := "review.go:52", after := #[{ on := 5, ground := Ground.data }, { on := 6, ground := Ground.data }, { on := 7, ground := Ground.data }, { on := 8, ground := Ground.data }], guard := none }, { dst := some 39, op := Op.buildSlice 68 1 #[(0, Operand.tmp 38)], type := 68, pos := "review.go:52", after := #[{ on := 9, ground := Ground.data }], guard := none }, { dst := some 40, op := Op.call { callee := Callee.builtin Builtin.append, args := #[Operand.tmp 33, Operand.tmp 39], argTypes := #[68, 68] }, type := 68, pos := "review.go:52", after := #[{ on := 4, ground := Ground.data }, { on := 10, ground := Ground.data }], guard := none }, { dst := some 41, op := Op.nilCheck (Operand.tmp 29), type := 0, pos := "review.go:52", after := #[{ on := 0, ground := Ground.data }, { on := 0, ground := Ground.phase }, { on := 1, ground := Ground.phase }, { on := 2, ground := Ground.phase }, { on := 3, ground := Ground.phase }, { on := 4, ground := Ground.phase }, { on := 5, ground := Ground.phase }, { on := 6, ground := Ground.phase }, { on := 7, ground := Ground.phase }, { on := 8, ground := Ground.phase }, { on := 9, ground := Ground.phase }, { on := 10, ground := Ground.phase }, { on := 11, ground := Ground.phase }], guard := none }, { dst := some 42, op := Op.fieldAddr 70 (Operand.tmp 41) 1, type := 0, pos := "review.go:52", after := #[{ on := 12, ground := Ground.data }, { on := 0, ground := Ground.phase }, { on := 1, ground := Ground.phase }, { on := 2, ground := Ground.phase }, { on := 3, ground := Ground.phase }, { on := 4, ground := Ground.phase }, { on := 5, ground := Ground.phase }, { on := 6, ground := Ground.phase }, { on := 7, ground := Ground.phase }, { on := 8, ground := Ground.phase }, { on := 9, ground := Ground.phase }, { on := 10, ground := Ground.phase }, { on := 11, ground := Ground.phase }], guard := none }, { dst := none, op := Op.store 68 (Operand.tmp 42) (Operand.tmp 40), type := 0, pos := "review.go:52", after := #[{ on := 13, ground := Ground.data }, { on := 11, ground := Ground.data }, { on := 11, ground := Ground.chain }, { on := 0, ground := Ground.phase }, { on := 1, ground := Ground.phase }, { on := 2, ground := Ground.phase }, { on := 3, ground := Ground.phase }, { on := 4, ground := Ground.phase }, { on := 5, ground := Ground.phase }, { on := 6, ground := Ground.phase }, { on := 7, ground := Ground.phase }, { on := 8, ground := Ground.phase }, { on := 9, ground := Ground.phase }, { on := 10, ground := Ground.phase }, { on := 11, ground := Ground.phase }], guard := none }] true).wp Try.prog Q { tmps := #[x0, .string au, x2, x3, .pointer (some ⟨k1, 0, none⟩), x5, .pointer (some ⟨k2, 0, none⟩), .pointer (some ⟨k3, 0, none⟩), x8, x9, x10, x11, x12, x13, x14, x15, x16, x17, x18, x19, x20, x21, x22, x23, x24, x25, x26, x27, x28, x29, x30, x31, x32, x33, x34, x35, x36, x37, x38, x39, x40, x41, x42, x43, x44, x45, x46, x47, x48, x49, x50, x51, x52, x53, x54, x55, x56, x57, x58], defers := ds } A := by
  refine Code.wp_mono (Q := fun x a' w' => match x with | .normal => Q .normal a' w' | _ => False) (by intro x a' w' h; cases x <;> first | exact h | exact h.elim) ?_
  refine wp_region_held (S := fun V => Keep (SB b pv) A V) (by kernel_rfl) ?_
  have hS0 : Hid (Keep (SB b pv) A A.drew) := (Keep.refl _ A).drew
  change wpAnyH Try.prog .any _ _ (fun V => Keep (SB b pv) A V) 15 (Array.replicate 15 false) _ A.drew
  obtain ⟨V0, hV0⟩ : ∃ V0, A.drew = V0 := ⟨_, rfl⟩
  rw [hV0]
  rw [hV0] at hS0
  have hX0 : Hid (Blk V0 b 70 [.bool true, pv, ov] ∧ Ow V0 87 36 pv n cs) := by rw [← hV0]; exact ⟨HX.out.1.drew, HX.out.2⟩
  clear hV0
  refine wpAnyH_take (i := 0) (oi := { dst := some 29, op := Op.load 25 (Operand.tmp 4), type := 25, pos := "review.go:52", after := #[], guard := none }) (v := .pointer (some ⟨b, 0, none⟩)) rfl (by kernel_rfl) (by kernel_rfl) (by kernel_rfl) (fun _ _ _ h => h.elim) (Or.inl ⟨by rfl, ?y1⟩) hS0.out ?_
  case y1 =>
    intro V hV
    have hc : V.cell? ⟨k1, 0, none⟩ = some (.pointer (some ⟨b, 0, none⟩)) := (World.cell?_of_block (a := ⟨k1, 0, none⟩) ((show Keep (SB b pv) A V from hV).block k1 (HL.out.1.1) (HL.out.1.2))).trans c1
    go_simp
  simp only [Act.put, List.setIfInBounds_toArray, List.set_cons_zero, List.set_cons_succ]
  refine wpAnyH_take (i := 1) (oi := { dst := some 30, op := Op.load 25 (Operand.tmp 4), type := 25, pos := "review.go:52", after := #[], guard := none }) (v := .pointer (some ⟨b, 0, none⟩)) rfl (by kernel_rfl) (by kernel_rfl) (by kernel_rfl) (fun _ _ _ h => h.elim) (Or.inl ⟨by rfl, ?y2⟩) hS0.out ?_
  case y2 =>
    intro V hV
    have hc : V.cell? ⟨k1, 0, none⟩ = some (.pointer (some ⟨b, 0, none⟩)) := (World.cell?_of_block (a := ⟨k1, 0, none⟩) ((show Keep (SB b pv) A V from hV).block k1 (HL.out.1.1) (HL.out.1.2))).trans c1
    go_simp
  simp only [Act.put, List.setIfInBounds_toArray, List.set_cons_zero, List.set_cons_succ]
  refine wpAnyH_take (i := 2) (oi := { dst := some 31, op := Op.nilCheck (Operand.tmp 30), type := 0, pos := "review.go:52", after := #[{ on := 1, ground := Ground.data }], guard := none }) (v := .pointer (some ⟨b, 0, none⟩)) rfl (by kernel_rfl) (by kernel_rfl) (by kernel_rfl) (fun _ _ _ h => h.elim) (Or.inl ⟨by rfl, ?y3⟩) hS0.out ?_
  case y3 =>
    intro V hV
    go_simp
  simp only [Act.put, List.setIfInBounds_toArray, List.set_cons_zero, List.set_cons_succ]
  refine wpAnyH_take (i := 3) (oi := { dst := some 32, op := Op.fieldAddr 70 (Operand.tmp 31) 1, type := 0, pos := "review.go:52", after := #[{ on := 2, ground := Ground.data }], guard := none }) (v := .pointer (some ⟨b, 1, none⟩)) rfl (by kernel_rfl) (by kernel_rfl) (by kernel_rfl) (fun _ _ _ h => h.elim) (Or.inl ⟨by rfl, ?y4⟩) hS0.out ?_
  case y4 =>
    intro V hV
    go_simp
  simp only [Act.put, List.setIfInBounds_toArray, List.set_cons_zero, List.set_cons_succ]
  refine wpAnyH_take (i := 5) (oi := { dst := some 34, op := Op.move (Operand.tmp 1), type := 9, pos := "review.go:52", after := #[], guard := none }) (v := .string au) rfl (by kernel_rfl) (by kernel_rfl) (by kernel_rfl) (fun _ _ _ h => h.elim) (Or.inl ⟨by rfl, ?y5⟩) hS0.out ?_
  case y5 =>
    intro V hV
    go_simp
  simp only [Act.put, List.setIfInBounds_toArray, List.set_cons_zero, List.set_cons_succ]
  refine wpAnyH_take (i := 6) (oi := { dst := some 35, op := Op.load 9 (Operand.tmp 6), type := 9, pos := "review.go:52", after := #[], guard := none }) (v := .string ch) rfl (by kernel_rfl) (by kernel_rfl) (by kernel_rfl) (fun _ _ _ h => h.elim) (Or.inl ⟨by rfl, ?y6⟩) hS0.out ?_
  case y6 =>
    intro V hV
    have hc : V.cell? ⟨k2, 0, none⟩ = some (.string ch) := (World.cell?_of_block (a := ⟨k2, 0, none⟩) ((show Keep (SB b pv) A V from hV).block k2 (HL.out.2.1.1) (HL.out.2.1.2))).trans c2
    go_simp
  simp only [Act.put, List.setIfInBounds_toArray, List.set_cons_zero, List.set_cons_succ]
  refine wpAnyH_take (i := 7) (oi := { dst := some 36, op := Op.load 32 (Operand.tmp 7), type := 32, pos := "review.go:52", after := #[], guard := none }) (v := .agg (U h).toArray) rfl (by kernel_rfl) (by kernel_rfl) (by kernel_rfl) (fun _ _ _ h => h.elim) (yieldsIf_load_mid (by rfl) _ _ rfl _ _ rfl (U h) _ (fun V hV => rangeAt_same (HL.out.2.2.2.1) ((show Keep (SB b pv) A V from hV).block _ (HL.out.2.2.1.1) (HL.out.2.2.1.2))) Try.underlying32 rfl (info32 _ HL.out.2.2.2.2)) hS0.out ?_
  simp only [Act.put, List.setIfInBounds_toArray, List.set_cons_zero, List.set_cons_succ]
  refine wpAnyH_ready (rs := [4, 8]) (by kernel_rfl) (by simp) (AllReadyH.cons (i := 4) (o := { dst := some 33, op := Op.load 68 (Operand.tmp 32), type := 68, pos := "review.go:52", after := #[{ on := 3, ground := Ground.data }], guard := none }) rfl ?_ (AllReadyH.cons (i := 8) (o := { dst := some 37, op := Op.makeMap 85 none, type := 85, pos := "review.go:52", after := #[], guard := none }) rfl ?_ AllReadyH.nil))
  · intro K1 hK1
    rw [if_pos (by rfl)]
    have hc : V0.cell? ⟨b, 1, none⟩ = some pv := hX0.out.1.cell rfl
    go_wp2
    clear hc
    refine hK1.out _ _ hS0.out ?_
    clear hK1
    intro _
    try simp only [Act.put, List.setIfInBounds_toArray, List.set_cons_zero, List.set_cons_succ]
    refine wpAnyH_ready (rs := [8]) (by kernel_rfl) (by simp) (AllReadyH.cons (i := 8) (o := { dst := some 37, op := Op.makeMap 85 none, type := 85, pos := "review.go:52", after := #[], guard := none }) rfl ?_ AllReadyH.nil)
    · intro K1 hK1
      refine step_mk (by rfl) 85 rfl run_make85 ?_
      obtain ⟨V2, hv2⟩ : ∃ V, V0.alloc (.map #[] 0) = V := ⟨_, rfl⟩
      obtain ⟨mb2, hmb2⟩ : ∃ m, V0.heap.size = m := ⟨_, rfl⟩
      have hS2 : Hid (Keep (SB b pv) A V2) := by rw [← hv2]; exact keep_al hS0.out _
      have hM2 : Hid (MP V2 mb2 [] ∧ A.heap.size ≤ mb2) := by rw [← hv2, ← hmb2]; exact ⟨MP.made _, hS0.out.size⟩
      have hX2 : Hid (Blk V2 b 70 [.bool true, pv, ov] ∧ Ow V2 87 36 pv n cs) := by rw [← hv2]; exact ⟨hX0.out.1.alloc _, hX0.out.2.below (below_al _ _)⟩
      rw [hv2, hmb2]
      clear hv2 hmb2
      refine hK1.out _ _ hS2.out ?_
      clear hK1
      intro _
      try simp only [Act.put, List.setIfInBounds_toArray, List.set_cons_zero, List.set_cons_succ]
      refine wpAnyH_take (i := 9) (oi := { dst := some 38, op := Op.build 87 #[(0, Operand.tmp 34), (1, Operand.tmp 35), (2, Operand.tmp 36), (3, Operand.tmp 37)], type := 87, pos := "review.go:52", after := #[{ on := 5, ground := Ground.data }, { on := 6, ground := Ground.data }, { on := 7, ground := Ground.data }, { on := 8, ground := Ground.data }], guard := none }) (v := .agg ((Pr.new au ch h mb2).cells).toArray) rfl (by kernel_rfl) (by kernel_rfl) (by kernel_rfl) (fun _ _ _ h => h.elim) (Or.inl ⟨by rfl, ?y7⟩) hS2.out ?_
      case y7 =>
        intro V hV
        exact yl_build4 V 87 _ _ _ _ _ _ _ _ _ rfl rfl rfl rfl rfl (run_build87 au ch h HL.out.2.2.2.2 _)
      simp only [Act.put, List.setIfInBounds_toArray, List.set_cons_zero, List.set_cons_succ]
      refine wpAnyH_ready (rs := [10]) (by kernel_rfl) (by simp) (AllReadyH.cons (i := 10) (o := { dst := some 39, op := Op.buildSlice 68 1 #[(0, Operand.tmp 38)], type := 68, pos := "review.go:52", after := #[{ on := 9, ground := Ground.data }], guard := none }) rfl ?_ AllReadyH.nil)
      · intro K1 hK1
        refine step_bs (by rfl) 68 (.tmp 38) _ rfl rfl (run_bslice Try.underlying68 sized87 (by omega) (Pr.new au ch h mb2).cells (Pr.length (p := Pr.new au ch h mb2) HL.out.2.2.2.2) _) ?_
        obtain ⟨V3, hv3⟩ : ∃ V, V2.alloc (.cells ((Pr.new au ch h mb2).cells).toArray 87) = V := ⟨_, rfl⟩
        obtain ⟨q3, hq3⟩ : ∃ m, V2.heap.size = m := ⟨_, rfl⟩
        have hS3 : Hid (Keep (SB b pv) A V3) := by rw [← hv3]; exact keep_al hS2.out _
        have hM3 : Hid (MP V3 mb2 [] ∧ A.heap.size ≤ mb2) := by rw [← hv3]; exact ⟨hM2.out.1.same (Below.heap_alloc _ _ _ hM2.out.1.lt), hM2.out.2⟩
        have hX3 : Hid (Blk V3 b 70 [.bool true, pv, ov] ∧ Ow V3 87 36 pv n cs) := by rw [← hv3]; exact ⟨hX2.out.1.alloc _, hX2.out.2.below (below_al _ _)⟩
        have hR3 : Hid (V3.rangeAt q3 0 (Pr.new au ch h mb2).cells) := by rw [← hv3, ← hq3]; exact range_new _ _ _
        rw [hv3, hq3]
        clear hv3 hq3
        refine hK1.out _ _ hS3.out ?_
        clear hK1
        intro _
        try simp only [Act.put, List.setIfInBounds_toArray, List.set_cons_zero, List.set_cons_succ]
        refine wpAnyH_ready (rs := [11]) (by kernel_rfl) (by simp) (AllReadyH.cons (i := 11) (o := { dst := some 40, op := Op.call { callee := Callee.builtin Builtin.append, args := #[Operand.tmp 33, Operand.tmp 39], argTypes := #[68, 68] }, type := 68, pos := "review.go:52", after := #[{ on := 4, ground := Ground.data }, { on := 10, ground := Ground.data }], guard := none }) rfl ?_ AllReadyH.nil)
        · intro K1 hK1
          refine step_app (by rfl) 68 87 36 96 (.tmp 33) (.tmp 39) rfl Try.underlying68 sized87 (by omega) (by omega) pv n cs hX3.out.2 q3 1 (Pr.new au ch h mb2).cells (Pr.length (p := Pr.new au ch h mb2) HL.out.2.2.2.2) hR3.out (new_one _ _ _ _) HN.out rfl rfl ?_
          intro v4 V4 ho4 hg4 hp4
          have hS4 : Hid (Keep (SB b pv) A V4) := hS3.out.trans (Keep.grownO (S := SB b pv) hg4.out (fun k hk => .inr hk)) (fun _ hj _ => hj)
          have hM4 : Hid (MP V4 mb2 [] ∧ A.heap.size ≤ mb2) := ⟨hM3.out.1.same (hg4.out.block _ hM3.out.1.lt (fun hk => by have h1 := HPV.out _ hk.symm; have h2 := hM3.out.2; omega)), hM3.out.2⟩
          have hX4 : Hid (Blk V4 b 70 [.bool true, pv, ov] ∧ Ow V4 87 36 v4 (n + 1) (cs ++ (Pr.new au ch h mb2).cells)) := ⟨hX3.out.1.kept hg4.out (fun hk => HNB.out hk.symm), ho4.out⟩
          have hP4 : Hid (∃ g', v4.ownBlock = some g' ∧ (pv.ownBlock = some g' ∨ A.heap.size ≤ g') ∧ g' ≠ mb2) := by
            obtain ⟨g1, h1, h2⟩ := hp4.out
            refine ⟨g1, h1, h2.imp id (fun e => by rw [e]; exact hS3.out.size), fun hm => ?_⟩
            rcases h2 with h2 | h2
            · have h3 := HPV.out _ h2
              have h4 := hM3.out.2
              omega
            · have h3 := hM3.out.1.lt
              omega
          clear ho4 hg4 hp4
          refine hK1.out _ _ hS4.out ?_
          clear hK1
          intro _
          try simp only [Act.put, List.setIfInBounds_toArray, List.set_cons_zero, List.set_cons_succ]
          refine wpAnyH_take (i := 12) (oi := { dst := some 41, op := Op.nilCheck (Operand.tmp 29), type := 0, pos := "review.go:52", after := #[{ on := 0, ground := Ground.data }, { on := 0, ground := Ground.phase }, { on := 1, ground := Ground.phase }, { on := 2, ground := Ground.phase }, { on := 3, ground := Ground.phase }, { on := 4, ground := Ground.phase }, { on := 5, ground := Ground.phase }, { on := 6, ground := Ground.phase }, { on := 7, ground := Ground.phase }, { on := 8, ground := Ground.phase }, { on := 9, ground := Ground.phase }, { on := 10, ground := Ground.phase }, { on := 11, ground := Ground.phase }], guard := none }) (v := .pointer (some ⟨b, 0, none⟩)) rfl (by kernel_rfl) (by kernel_rfl) (by kernel_rfl) (fun _ _ _ h => h.elim) (Or.inl ⟨by rfl, ?y8⟩) hS4.out ?_
          case y8 =>
            intro V hV
            go_simp
          simp only [Act.put, List.setIfInBounds_toArray, List.set_cons_zero, List.set_cons_succ]
          refine wpAnyH_take (i := 13) (oi := { dst := some 42, op := Op.fieldAddr 70 (Operand.tmp 41) 1, type := 0, pos := "review.go:52", after := #[{ on := 12, ground := Ground.data }, { on := 0, ground := Ground.phase }, { on := 1, ground := Ground.phase }, { on := 2, ground := Ground.phase }, { on := 3, ground := Ground.phase }, { on := 4, ground := Ground.phase }, { on := 5, ground := Ground.phase }, { on := 6, ground := Ground.phase }, { on := 7, ground := Ground.phase }, { on := 8, ground := Ground.phase }, { on := 9, ground := Ground.phase }, { on := 10, ground := Ground.phase }, { on := 11, ground := Ground.phase }], guard := none }) (v := .pointer (some ⟨b, 1, none⟩)) rfl (by kernel_rfl) (by kernel_rfl) (by kernel_rfl) (fun _ _ _ h => h.elim) (Or.inl ⟨by rfl, ?y9⟩) hS4.out ?_
          case y9 =>
            intro V hV
            go_simp
          simp only [Act.put, List.setIfInBounds_toArray, List.set_cons_zero, List.set_cons_succ]
          refine wpAnyH_ready (rs := [14]) (by kernel_rfl) (by simp) (AllReadyH.cons (i := 14) (o := { dst := none, op := Op.store 68 (Operand.tmp 42) (Operand.tmp 40), type := 0, pos := "review.go:52", after := #[{ on := 13, ground := Ground.data }, { on := 11, ground := Ground.data }, { on := 11, ground := Ground.chain }, { on := 0, ground := Ground.phase }, { on := 1, ground := Ground.phase }, { on := 2, ground := Ground.phase }, { on := 3, ground := Ground.phase }, { on := 4, ground := Ground.phase }, { on := 5, ground := Ground.phase }, { on := 6, ground := Ground.phase }, { on := 7, ground := Ground.phase }, { on := 8, ground := Ground.phase }, { on := 9, ground := Ground.phase }, { on := 10, ground := Ground.phase }, { on := 11, ground := Ground.phase }], guard := none }) rfl ?_ AllReadyH.nil)
          · intro K1 hK1
            refine step_st (by rfl) 68 (.tmp 42) (.tmp 40) rfl b 1 v4 70 _ rfl rfl hX4.out.1 (by simp) (by kernel_rfl) (ow_slice hX4.out.2).1 (ow_slice hX4.out.2).2 ?_
            obtain ⟨V5, hv5⟩ : ∃ V, V4.setCell ⟨b, 1, none⟩ v4 = V := ⟨_, rfl⟩
            have hg5 : V4.grownBy V5 (some b) := by rw [← hv5]; exact grown_setCell _ _ _ _
            have hS5 : Hid (Keep (SB b pv) A V5) := hS4.out.trans (Keep.grown (S := SB b pv) hg5 (.inl rfl)) (fun _ hj _ => hj)
            have hM5 : Hid (MP V5 mb2 [] ∧ A.heap.size ≤ mb2) := ⟨hM4.out.1.same (hg5.block _ hM4.out.1.lt (fun hk => by cases hk; have := HLB.out; have := hM4.out.2; omega)), hM4.out.2⟩
            have hX5 : Hid (Blk V5 b 70 [.bool true, v4, ov]) := by rw [← hv5]; exact hX4.out.1.set 1 v4
            have hO5 : Hid (Ow V5 87 36 v4 (n + 1) (cs ++ (Pr.new au ch h mb2).cells)) := hX4.out.2.same (fun g hg => hg5.block g (hX4.out.2.lt hg) (fun hk => by cases hk; obtain ⟨g1, h1, h2, _⟩ := hP4.out; rw [hg] at h1; cases h1; exact h2.elim (fun h2 => HNB.out h2) (fun h2 => by have := HLB.out; omega)))
            rw [hv5]
            clear hv5 hg5
            refine hK1.out _ _ hS5.out ?_
            clear hK1
            intro _
            try simp only [Act.put, List.setIfInBounds_toArray, List.set_cons_zero, List.set_cons_succ]
            refine wpAnyH_done (by kernel_rfl) ?_ _
            exact hQ V5 _ _ _ ⟨hM5.out, hO5.out, hX5.out, hP4.out, hS5.out⟩
  · intro K1 hK1
    refine step_mk (by rfl) 85 rfl run_make85 ?_
    obtain ⟨V1, hv1⟩ : ∃ V, V0.alloc (.map #[] 0) = V := ⟨_, rfl⟩
    obtain ⟨mb1, hmb1⟩ : ∃ m, V0.heap.size = m := ⟨_, rfl⟩
    have hS1 : Hid (Keep (SB b pv) A V1) := by rw [← hv1]; exact keep_al hS0.out _
    have hM1 : Hid (MP V1 mb1 [] ∧ A.heap.size ≤ mb1) := by rw [← hv1, ← hmb1]; exact ⟨MP.made _, hS0.out.size⟩
    have hX1 : Hid (Blk V1 b 70 [.bool true, pv, ov] ∧ Ow V1 87 36 pv n cs) := by rw [← hv1]; exact ⟨hX0.out.1.alloc _, hX0.out.2.below (below_al _ _)⟩
    rw [hv1, hmb1]
    clear hv1 hmb1
    refine hK1.out _ _ hS1.out ?_
    clear hK1
    intro _
    try simp only [Act.put, List.setIfInBounds_toArray, List.set_cons_zero, List.set_cons_succ]
    refine wpAnyH_take (i := 9) (oi := { dst := some 38, op := Op.build 87 #[(0, Operand.tmp 34), (1, Operand.tmp 35), (2, Operand.tmp 36), (3, Operand.tmp 37)], type := 87, pos := "review.go:52", after := #[{ on := 5, ground := Ground.data }, { on := 6, ground := Ground.data }, { on := 7, ground := Ground.data }, { on := 8, ground := Ground.data }], guard := none }) (v := .agg ((Pr.new au ch h mb1).cells).toArray) rfl (by kernel_rfl) (by kernel_rfl) (by kernel_rfl) (fun _ _ _ h => h.elim) (Or.inl ⟨by rfl, ?y10⟩) hS1.out ?_
    case y10 =>
      intro V hV
      exact yl_build4 V 87 _ _ _ _ _ _ _ _ _ rfl rfl rfl rfl rfl (run_build87 au ch h HL.out.2.2.2.2 _)
    simp only [Act.put, List.setIfInBounds_toArray, List.set_cons_zero, List.set_cons_succ]
    refine wpAnyH_ready (rs := [4, 10]) (by kernel_rfl) (by simp) (AllReadyH.cons (i := 4) (o := { dst := some 33, op := Op.load 68 (Operand.tmp 32), type := 68, pos := "review.go:52", after := #[{ on := 3, ground := Ground.data }], guard := none }) rfl ?_ (AllReadyH.cons (i := 10) (o := { dst := some 39, op := Op.buildSlice 68 1 #[(0, Operand.tmp 38)], type := 68, pos := "review.go:52", after := #[{ on := 9, ground := Ground.data }], guard := none }) rfl ?_ AllReadyH.nil))
    · intro K1 hK1
      rw [if_pos (by rfl)]
      have hc : V1.cell? ⟨b, 1, none⟩ = some pv := hX1.out.1.cell rfl
      go_wp2
      clear hc
      refine hK1.out _ _ hS1.out ?_
      clear hK1
      intro _
      try simp only [Act.put, List.setIfInBounds_toArray, List.set_cons_zero, List.set_cons_succ]
      refine wpAnyH_ready (rs := [10]) (by kernel_rfl) (by simp) (AllReadyH.cons (i := 10) (o := { dst := some 39, op := Op.buildSlice 68 1 #[(0, Operand.tmp 38)], type := 68, pos := "review.go:52", after := #[{ on := 9, ground := Ground.data }], guard := none }) rfl ?_ AllReadyH.nil)
      · intro K1 hK1
        refine step_bs (by rfl) 68 (.tmp 38) _ rfl rfl (run_bslice Try.underlying68 sized87 (by omega) (Pr.new au ch h mb1).cells (Pr.length (p := Pr.new au ch h mb1) HL.out.2.2.2.2) _) ?_
        obtain ⟨V3, hv3⟩ : ∃ V, V1.alloc (.cells ((Pr.new au ch h mb1).cells).toArray 87) = V := ⟨_, rfl⟩
        obtain ⟨q3, hq3⟩ : ∃ m, V1.heap.size = m := ⟨_, rfl⟩
        have hS3 : Hid (Keep (SB b pv) A V3) := by rw [← hv3]; exact keep_al hS1.out _
        have hM3 : Hid (MP V3 mb1 [] ∧ A.heap.size ≤ mb1) := by rw [← hv3]; exact ⟨hM1.out.1.same (Below.heap_alloc _ _ _ hM1.out.1.lt), hM1.out.2⟩
        have hX3 : Hid (Blk V3 b 70 [.bool true, pv, ov] ∧ Ow V3 87 36 pv n cs) := by rw [← hv3]; exact ⟨hX1.out.1.alloc _, hX1.out.2.below (below_al _ _)⟩
        have hR3 : Hid (V3.rangeAt q3 0 (Pr.new au ch h mb1).cells) := by rw [← hv3, ← hq3]; exact range_new _ _ _
        rw [hv3, hq3]
        clear hv3 hq3
        refine hK1.out _ _ hS3.out ?_
        clear hK1
        intro _
        try simp only [Act.put, List.setIfInBounds_toArray, List.set_cons_zero, List.set_cons_succ]
        refine wpAnyH_ready (rs := [11]) (by kernel_rfl) (by simp) (AllReadyH.cons (i := 11) (o := { dst := some 40, op := Op.call { callee := Callee.builtin Builtin.append, args := #[Operand.tmp 33, Operand.tmp 39], argTypes := #[68, 68] }, type := 68, pos := "review.go:52", after := #[{ on := 4, ground := Ground.data }, { on := 10, ground := Ground.data }], guard := none }) rfl ?_ AllReadyH.nil)
        · intro K1 hK1
          refine step_app (by rfl) 68 87 36 96 (.tmp 33) (.tmp 39) rfl Try.underlying68 sized87 (by omega) (by omega) pv n cs hX3.out.2 q3 1 (Pr.new au ch h mb1).cells (Pr.length (p := Pr.new au ch h mb1) HL.out.2.2.2.2) hR3.out (new_one _ _ _ _) HN.out rfl rfl ?_
          intro v4 V4 ho4 hg4 hp4
          have hS4 : Hid (Keep (SB b pv) A V4) := hS3.out.trans (Keep.grownO (S := SB b pv) hg4.out (fun k hk => .inr hk)) (fun _ hj _ => hj)
          have hM4 : Hid (MP V4 mb1 [] ∧ A.heap.size ≤ mb1) := ⟨hM3.out.1.same (hg4.out.block _ hM3.out.1.lt (fun hk => by have h1 := HPV.out _ hk.symm; have h2 := hM3.out.2; omega)), hM3.out.2⟩
          have hX4 : Hid (Blk V4 b 70 [.bool true, pv, ov] ∧ Ow V4 87 36 v4 (n + 1) (cs ++ (Pr.new au ch h mb1).cells)) := ⟨hX3.out.1.kept hg4.out (fun hk => HNB.out hk.symm), ho4.out⟩
          have hP4 : Hid (∃ g', v4.ownBlock = some g' ∧ (pv.ownBlock = some g' ∨ A.heap.size ≤ g') ∧ g' ≠ mb1) := by
            obtain ⟨g1, h1, h2⟩ := hp4.out
            refine ⟨g1, h1, h2.imp id (fun e => by rw [e]; exact hS3.out.size), fun hm => ?_⟩
            rcases h2 with h2 | h2
            · have h3 := HPV.out _ h2
              have h4 := hM3.out.2
              omega
            · have h3 := hM3.out.1.lt
              omega
          clear ho4 hg4 hp4
          refine hK1.out _ _ hS4.out ?_
          clear hK1
          intro _
          try simp only [Act.put, List.setIfInBounds_toArray, List.set_cons_zero, List.set_cons_succ]
          refine wpAnyH_take (i := 12) (oi := { dst := some 41, op := Op.nilCheck (Operand.tmp 29), type := 0, pos := "review.go:52", after := #[{ on := 0, ground := Ground.data }, { on := 0, ground := Ground.phase }, { on := 1, ground := Ground.phase }, { on := 2, ground := Ground.phase }, { on := 3, ground := Ground.phase }, { on := 4, ground := Ground.phase }, { on := 5, ground := Ground.phase }, { on := 6, ground := Ground.phase }, { on := 7, ground := Ground.phase }, { on := 8, ground := Ground.phase }, { on := 9, ground := Ground.phase }, { on := 10, ground := Ground.phase }, { on := 11, ground := Ground.phase }], guard := none }) (v := .pointer (some ⟨b, 0, none⟩)) rfl (by kernel_rfl) (by kernel_rfl) (by kernel_rfl) (fun _ _ _ h => h.elim) (Or.inl ⟨by rfl, ?y11⟩) hS4.out ?_
          case y11 =>
            intro V hV
            go_simp
          simp only [Act.put, List.setIfInBounds_toArray, List.set_cons_zero, List.set_cons_succ]
          refine wpAnyH_take (i := 13) (oi := { dst := some 42, op := Op.fieldAddr 70 (Operand.tmp 41) 1, type := 0, pos := "review.go:52", after := #[{ on := 12, ground := Ground.data }, { on := 0, ground := Ground.phase }, { on := 1, ground := Ground.phase }, { on := 2, ground := Ground.phase }, { on := 3, ground := Ground.phase }, { on := 4, ground := Ground.phase }, { on := 5, ground := Ground.phase }, { on := 6, ground := Ground.phase }, { on := 7, ground := Ground.phase }, { on := 8, ground := Ground.phase }, { on := 9, ground := Ground.phase }, { on := 10, ground := Ground.phase }, { on := 11, ground := Ground.phase }], guard := none }) (v := .pointer (some ⟨b, 1, none⟩)) rfl (by kernel_rfl) (by kernel_rfl) (by kernel_rfl) (fun _ _ _ h => h.elim) (Or.inl ⟨by rfl, ?y12⟩) hS4.out ?_
          case y12 =>
            intro V hV
            go_simp
          simp only [Act.put, List.setIfInBounds_toArray, List.set_cons_zero, List.set_cons_succ]
          refine wpAnyH_ready (rs := [14]) (by kernel_rfl) (by simp) (AllReadyH.cons (i := 14) (o := { dst := none, op := Op.store 68 (Operand.tmp 42) (Operand.tmp 40), type := 0, pos := "review.go:52", after := #[{ on := 13, ground := Ground.data }, { on := 11, ground := Ground.data }, { on := 11, ground := Ground.chain }, { on := 0, ground := Ground.phase }, { on := 1, ground := Ground.phase }, { on := 2, ground := Ground.phase }, { on := 3, ground := Ground.phase }, { on := 4, ground := Ground.phase }, { on := 5, ground := Ground.phase }, { on := 6, ground := Ground.phase }, { on := 7, ground := Ground.phase }, { on := 8, ground := Ground.phase }, { on := 9, ground := Ground.phase }, { on := 10, ground := Ground.phase }, { on := 11, ground := Ground.phase }], guard := none }) rfl ?_ AllReadyH.nil)
          · intro K1 hK1
            refine step_st (by rfl) 68 (.tmp 42) (.tmp 40) rfl b 1 v4 70 _ rfl rfl hX4.out.1 (by simp) (by kernel_rfl) (ow_slice hX4.out.2).1 (ow_slice hX4.out.2).2 ?_
            obtain ⟨V5, hv5⟩ : ∃ V, V4.setCell ⟨b, 1, none⟩ v4 = V := ⟨_, rfl⟩
            have hg5 : V4.grownBy V5 (some b) := by rw [← hv5]; exact grown_setCell _ _ _ _
            have hS5 : Hid (Keep (SB b pv) A V5) := hS4.out.trans (Keep.grown (S := SB b pv) hg5 (.inl rfl)) (fun _ hj _ => hj)
            have hM5 : Hid (MP V5 mb1 [] ∧ A.heap.size ≤ mb1) := ⟨hM4.out.1.same (hg5.block _ hM4.out.1.lt (fun hk => by cases hk; have := HLB.out; have := hM4.out.2; omega)), hM4.out.2⟩
            have hX5 : Hid (Blk V5 b 70 [.bool true, v4, ov]) := by rw [← hv5]; exact hX4.out.1.set 1 v4
            have hO5 : Hid (Ow V5 87 36 v4 (n + 1) (cs ++ (Pr.new au ch h mb1).cells)) := hX4.out.2.same (fun g hg => hg5.block g (hX4.out.2.lt hg) (fun hk => by cases hk; obtain ⟨g1, h1, h2, _⟩ := hP4.out; rw [hg] at h1; cases h1; exact h2.elim (fun h2 => HNB.out h2) (fun h2 => by have := HLB.out; omega)))
            rw [hv5]
            clear hv5 hg5
            refine hK1.out _ _ hS5.out ?_
            clear hK1
            intro _
            try simp only [Act.put, List.setIfInBounds_toArray, List.set_cons_zero, List.set_cons_succ]
            refine wpAnyH_done (by kernel_rfl) ?_ _
            exact hQ V5 _ _ _ ⟨hM5.out, hO5.out, hX5.out, hP4.out, hS5.out⟩
    · intro K1 hK1
      refine step_bs (by rfl) 68 (.tmp 38) _ rfl rfl (run_bslice Try.underlying68 sized87 (by omega) (Pr.new au ch h mb1).cells (Pr.length (p := Pr.new au ch h mb1) HL.out.2.2.2.2) _) ?_
      obtain ⟨V2, hv2⟩ : ∃ V, V1.alloc (.cells ((Pr.new au ch h mb1).cells).toArray 87) = V := ⟨_, rfl⟩
      obtain ⟨q2, hq2⟩ : ∃ m, V1.heap.size = m := ⟨_, rfl⟩
      have hS2 : Hid (Keep (SB b pv) A V2) := by rw [← hv2]; exact keep_al hS1.out _
      have hM2 : Hid (MP V2 mb1 [] ∧ A.heap.size ≤ mb1) := by rw [← hv2]; exact ⟨hM1.out.1.same (Below.heap_alloc _ _ _ hM1.out.1.lt), hM1.out.2⟩
      have hX2 : Hid (Blk V2 b 70 [.bool true, pv, ov] ∧ Ow V2 87 36 pv n cs) := by rw [← hv2]; exact ⟨hX1.out.1.alloc _, hX1.out.2.below (below_al _ _)⟩
      have hR2 : Hid (V2.rangeAt q2 0 (Pr.new au ch h mb1).cells) := by rw [← hv2, ← hq2]; exact range_new _ _ _
      rw [hv2, hq2]
      clear hv2 hq2
      refine hK1.out _ _ hS2.out ?_
      clear hK1
      intro _
      try simp only [Act.put, List.setIfInBounds_toArray, List.set_cons_zero, List.set_cons_succ]
      refine wpAnyH_ready (rs := [4]) (by kernel_rfl) (by simp) (AllReadyH.cons (i := 4) (o := { dst := some 33, op := Op.load 68 (Operand.tmp 32), type := 68, pos := "review.go:52", after := #[{ on := 3, ground := Ground.data }], guard := none }) rfl ?_ AllReadyH.nil)
      · intro K1 hK1
        rw [if_pos (by rfl)]
        have hc : V2.cell? ⟨b, 1, none⟩ = some pv := hX2.out.1.cell rfl
        go_wp2
        clear hc
        refine hK1.out _ _ hS2.out ?_
        clear hK1
        intro _
        try simp only [Act.put, List.setIfInBounds_toArray, List.set_cons_zero, List.set_cons_succ]
        refine wpAnyH_ready (rs := [11]) (by kernel_rfl) (by simp) (AllReadyH.cons (i := 11) (o := { dst := some 40, op := Op.call { callee := Callee.builtin Builtin.append, args := #[Operand.tmp 33, Operand.tmp 39], argTypes := #[68, 68] }, type := 68, pos := "review.go:52", after := #[{ on := 4, ground := Ground.data }, { on := 10, ground := Ground.data }], guard := none }) rfl ?_ AllReadyH.nil)
        · intro K1 hK1
          refine step_app (by rfl) 68 87 36 96 (.tmp 33) (.tmp 39) rfl Try.underlying68 sized87 (by omega) (by omega) pv n cs hX2.out.2 q2 1 (Pr.new au ch h mb1).cells (Pr.length (p := Pr.new au ch h mb1) HL.out.2.2.2.2) hR2.out (new_one _ _ _ _) HN.out rfl rfl ?_
          intro v4 V4 ho4 hg4 hp4
          have hS4 : Hid (Keep (SB b pv) A V4) := hS2.out.trans (Keep.grownO (S := SB b pv) hg4.out (fun k hk => .inr hk)) (fun _ hj _ => hj)
          have hM4 : Hid (MP V4 mb1 [] ∧ A.heap.size ≤ mb1) := ⟨hM2.out.1.same (hg4.out.block _ hM2.out.1.lt (fun hk => by have h1 := HPV.out _ hk.symm; have h2 := hM2.out.2; omega)), hM2.out.2⟩
          have hX4 : Hid (Blk V4 b 70 [.bool true, pv, ov] ∧ Ow V4 87 36 v4 (n + 1) (cs ++ (Pr.new au ch h mb1).cells)) := ⟨hX2.out.1.kept hg4.out (fun hk => HNB.out hk.symm), ho4.out⟩
          have hP4 : Hid (∃ g', v4.ownBlock = some g' ∧ (pv.ownBlock = some g' ∨ A.heap.size ≤ g') ∧ g' ≠ mb1) := by
            obtain ⟨g1, h1, h2⟩ := hp4.out
            refine ⟨g1, h1, h2.imp id (fun e => by rw [e]; exact hS2.out.size), fun hm => ?_⟩
            rcases h2 with h2 | h2
            · have h3 := HPV.out _ h2
              have h4 := hM2.out.2
              omega
            · have h3 := hM2.out.1.lt
              omega
          clear ho4 hg4 hp4
          refine hK1.out _ _ hS4.out ?_
          clear hK1
          intro _
          try simp only [Act.put, List.setIfInBounds_toArray, List.set_cons_zero, List.set_cons_succ]
          refine wpAnyH_take (i := 12) (oi := { dst := some 41, op := Op.nilCheck (Operand.tmp 29), type := 0, pos := "review.go:52", after := #[{ on := 0, ground := Ground.data }, { on := 0, ground := Ground.phase }, { on := 1, ground := Ground.phase }, { on := 2, ground := Ground.phase }, { on := 3, ground := Ground.phase }, { on := 4, ground := Ground.phase }, { on := 5, ground := Ground.phase }, { on := 6, ground := Ground.phase }, { on := 7, ground := Ground.phase }, { on := 8, ground := Ground.phase }, { on := 9, ground := Ground.phase }, { on := 10, ground := Ground.phase }, { on := 11, ground := Ground.phase }], guard := none }) (v := .pointer (some ⟨b, 0, none⟩)) rfl (by kernel_rfl) (by kernel_rfl) (by kernel_rfl) (fun _ _ _ h => h.elim) (Or.inl ⟨by rfl, ?y13⟩) hS4.out ?_
          case y13 =>
            intro V hV
            go_simp
          simp only [Act.put, List.setIfInBounds_toArray, List.set_cons_zero, List.set_cons_succ]
          refine wpAnyH_take (i := 13) (oi := { dst := some 42, op := Op.fieldAddr 70 (Operand.tmp 41) 1, type := 0, pos := "review.go:52", after := #[{ on := 12, ground := Ground.data }, { on := 0, ground := Ground.phase }, { on := 1, ground := Ground.phase }, { on := 2, ground := Ground.phase }, { on := 3, ground := Ground.phase }, { on := 4, ground := Ground.phase }, { on := 5, ground := Ground.phase }, { on := 6, ground := Ground.phase }, { on := 7, ground := Ground.phase }, { on := 8, ground := Ground.phase }, { on := 9, ground := Ground.phase }, { on := 10, ground := Ground.phase }, { on := 11, ground := Ground.phase }], guard := none }) (v := .pointer (some ⟨b, 1, none⟩)) rfl (by kernel_rfl) (by kernel_rfl) (by kernel_rfl) (fun _ _ _ h => h.elim) (Or.inl ⟨by rfl, ?y14⟩) hS4.out ?_
          case y14 =>
            intro V hV
            go_simp
          simp only [Act.put, List.setIfInBounds_toArray, List.set_cons_zero, List.set_cons_succ]
          refine wpAnyH_ready (rs := [14]) (by kernel_rfl) (by simp) (AllReadyH.cons (i := 14) (o := { dst := none, op := Op.store 68 (Operand.tmp 42) (Operand.tmp 40), type := 0, pos := "review.go:52", after := #[{ on := 13, ground := Ground.data }, { on := 11, ground := Ground.data }, { on := 11, ground := Ground.chain }, { on := 0, ground := Ground.phase }, { on := 1, ground := Ground.phase }, { on := 2, ground := Ground.phase }, { on := 3, ground := Ground.phase }, { on := 4, ground := Ground.phase }, { on := 5, ground := Ground.phase }, { on := 6, ground := Ground.phase }, { on := 7, ground := Ground.phase }, { on := 8, ground := Ground.phase }, { on := 9, ground := Ground.phase }, { on := 10, ground := Ground.phase }, { on := 11, ground := Ground.phase }], guard := none }) rfl ?_ AllReadyH.nil)
          · intro K1 hK1
            refine step_st (by rfl) 68 (.tmp 42) (.tmp 40) rfl b 1 v4 70 _ rfl rfl hX4.out.1 (by simp) (by kernel_rfl) (ow_slice hX4.out.2).1 (ow_slice hX4.out.2).2 ?_
            obtain ⟨V5, hv5⟩ : ∃ V, V4.setCell ⟨b, 1, none⟩ v4 = V := ⟨_, rfl⟩
            have hg5 : V4.grownBy V5 (some b) := by rw [← hv5]; exact grown_setCell _ _ _ _
            have hS5 : Hid (Keep (SB b pv) A V5) := hS4.out.trans (Keep.grown (S := SB b pv) hg5 (.inl rfl)) (fun _ hj _ => hj)
            have hM5 : Hid (MP V5 mb1 [] ∧ A.heap.size ≤ mb1) := ⟨hM4.out.1.same (hg5.block _ hM4.out.1.lt (fun hk => by cases hk; have := HLB.out; have := hM4.out.2; omega)), hM4.out.2⟩
            have hX5 : Hid (Blk V5 b 70 [.bool true, v4, ov]) := by rw [← hv5]; exact hX4.out.1.set 1 v4
            have hO5 : Hid (Ow V5 87 36 v4 (n + 1) (cs ++ (Pr.new au ch h mb1).cells)) := hX4.out.2.same (fun g hg => hg5.block g (hX4.out.2.lt hg) (fun hk => by cases hk; obtain ⟨g1, h1, h2, _⟩ := hP4.out; rw [hg] at h1; cases h1; exact h2.elim (fun h2 => HNB.out h2) (fun h2 => by have := HLB.out; omega)))
            rw [hv5]
            clear hv5 hg5
            refine hK1.out _ _ hS5.out ?_
            clear hK1
            intro _
            try simp only [Act.put, List.setIfInBounds_toArray, List.set_cons_zero, List.set_cons_succ]
            refine wpAnyH_done (by kernel_rfl) ?_ _
            exact hQ V5 _ _ _ ⟨hM5.out, hO5.out, hX5.out, hP4.out, hS5.out⟩
#print axioms prop7
end Go.Proofs.Ytaecigpjcbjcbaa.Oct
