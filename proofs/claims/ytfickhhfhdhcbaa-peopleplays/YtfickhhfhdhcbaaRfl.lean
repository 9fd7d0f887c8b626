/-
  Layer 15 (people): the document's people: Subject: the drawn regions.
-/
import Derived.Test.YtfickhhfhdhcbaaRfk
import Derived.Deep.RegionHeld
import Derived.Deep.RegionHeldLaw
namespace Go.Proofs.Ytfickhhfhdhcbaa.Oct
open Go.RowKit
set_option linter.unusedSimpArgs false
set_option linter.unusedVariables false

set_option maxRecDepth 100000 in
set_option maxHeartbeats 4000000 in
theorem sub7 {Q : Exit → Act → World → Prop} {x0 x1 x2 x3 x4 x5 x6 x10 x11 x12 x13 x14 x15 x16 x17 x18 x19 x20 x21 x22 x23 x24 x25 x26 x27 x28 x29 x30 x31 x32 x33 x34 x35 x36 x37 x38 x39 x40 x41 x42 x43 x44 x45 x46 x47 : Value} {ds : List Deferred} {A : World} {b7 B g ln lc i k vc : Nat} {va : Option Addr} {cs : List Value} {su sy : ByteArray} {r : Int} {i0 : TypeInfo} {z : Value}
    (HL : Hid (b7 < B ∧ B ≤ A.heap.size)) (HX : Hid (Blk A b7 42 [.string su, .slice va k vc, iv r])) (HO : Hid (A.ownsRow B 9 1 (.slice va k vc) k cs)) (HIX : Hid ((i : Int) < (ln : Int) ∧ i < ln)) (HCY : Hid (∀ V, Keep (fun j => j = b7 ∨ B ≤ j) A V → Blk V b7 42 [.string su, .slice va k vc, iv r] → V.cell? ⟨g, i, none⟩ = some (.string sy))) (HN : Hid (k ≤ 1000)) (HI0 : Hid (Try.prog.info? 9 = some i0 ∧ i0.zero = some z ∧ i0.size = 1 ∧ i0.bytes = 16 ∧ z.cells.size = 1))
    (hQ : ∀ V1 v2 nb, V1.ownsRow B 9 1 v2 (k + 1) (cs ++ [.string sy]) → Blk V1 b7 42 [.string su, v2, iv r] → Keep (fun j => j = b7 ∨ B ≤ j) A V1 → Q .normal { tmps := #[x0, x1, x2, x3, x4, x5, x6, .pointer (some ⟨b7, 0, none⟩), .slice (some ⟨g, 0, none⟩) ln lc, iv (i : Int), x10, x11, x12, x13, x14, x15, x16, x17, x18, x19, x20, x21, x22, x23, x24, x25, x26, x27, x28, x29, x30, x31, x32, x33, x34, x35, x36, x37, .pointer (some ⟨b7, 1, none⟩), .slice va k vc, .slice (some ⟨g, 0, none⟩) ln lc, iv (i : Int), .pointer (some ⟨g, i, none⟩), .string sy, .slice (some ⟨nb, 0, none⟩) 1 1, v2, .pointer (some ⟨b7, 1, none⟩), x47], defers := ds } V1) :
    (Code.region 7 #[{ dst := some 38, op := Op.fieldAddr 42 (Operand.tmp 7) 1, type := 0, pos := "ref.go:224", after := #[], guard := none }, { dst := some 39, op := Op.load 27 (Operand.tmp 38), type := 27, pos := "ref.go:224", after := #[{ on := 0, ground := Ground.data }], guard := none }, { dst := some 40, op := Op.move (Operand.tmp 8), type := 27, pos := "ref.go:224", after := #[], guard := none }, { dst := some 41, op := Op.move (Operand.tmp 9), type := 3, pos := "ref.go:224", after := #[], guard := none }, { dst := some 42, op := Op.indexAddr 27 (Operand.tmp 40) (Operand.tmp 41), type := 0, pos := "ref.go:224", after := #[{ on := 2, ground := Ground.data }, { on := 3, ground := Ground.data }], guard := none }, { dst := some 43, op := Op.load 9 (Operand.tmp 42), type := 9, pos := "ref.go:224", after := #[{ on := 4, ground := Ground.data }], guard := none }, { dst := some 44, op := Op.buildSlice 27 1 #[(0, Operand.tmp 43)], type := 27, pos := "ref.go:224", after := #[{ on := 5, ground := Ground.data }], guard := none }, { dst := some 45, op := Op.call { callee := Callee.builtin Builtin.append, args := #[Operand.tmp 39, Operand.tmp 44], argTypes := #[27, 27] }, type := 27, pos := "ref.go:224", after := #[{ on := 1, ground := Ground.data }, { on := 6, ground := Ground.data }], guard := none }, { dst := some 46, op := Op.fieldAddr 42 (Operand.tmp 7) 1, type := 0, pos := "ref.go:224", after := #[{ on := 0, ground := Ground.phase }, { on := 1, ground := Ground.phase }, { on := 2, ground := Ground.phase }, { on := 3, ground := Ground.phase }, { on := 4, ground := Ground.phase }, { on := 5, ground := Ground.phase }, { on := 6, ground := Ground.phase }, { on := 7, ground := Ground.phase }], guard := none }, { dst := none, op := Op.store 27 (Operand.tmp 46) (Operand.tmp 45), type := 0, pos := "ref.go:224", after := #[{ on := 8, ground := Ground.data }, { on := 7, ground := Ground.data }, { on := 7, ground := Ground.chain }, { on := 0, ground := Ground.phase }, { on := 1, ground := Ground.phase }, { on := 2, ground := Ground.phase }, { on := 3, ground := Ground.phase }, { on := 4, ground := Ground.phase }, { on := 5, ground := Ground.phase }, { on := 6, ground := Ground.phase }, { on := 7, ground := Ground.phase }], guard := none }] true).wp Try.prog Q { tmps := #[x0, x1, x2, x3, x4, x5, x6, .pointer (some ⟨b7, 0, none⟩), .slice (some ⟨g, 0, none⟩) ln lc, iv (i : Int), x10, x11, x12, x13, x14, x15, x16, x17, x18, x19, x20, x21, x22, x23, x24, x25, x26, x27, x28, x29, x30, x31, x32, x33, x34, x35, x36, x37, x38, x39, x40, x41, x42, x43, x44, x45, x46, x47], defers := ds } A := by
  refine Code.wp_mono (Q := fun x a' w' => match x with | .normal => Q .normal a' w' | _ => False) (by intro x a' w' h; cases x <;> first | exact h | exact h.elim) ?_
  refine wp_region_held (S := fun V => Keep (fun j => j = b7 ∨ B ≤ j) A V) (by kernel_rfl) ?_
  have hS0 : Hid (Keep (fun j => j = b7 ∨ B ≤ j) A A.drew) := (Keep.refl _ A).drew
  change wpAnyH Try.prog .any _ _ (fun V => Keep (fun j => j = b7 ∨ B ≤ j) A V) 10 (Array.replicate 10 false) _ A.drew
  obtain ⟨V0, hV0⟩ : ∃ V0, A.drew = V0 := ⟨_, rfl⟩
  rw [hV0]
  rw [hV0] at hS0
  have hX0 : Hid (Blk V0 b7 42 [.string su, .slice va k vc, iv r]) := by rw [← hV0]; exact HX.out
  have hO0 : Hid (V0.ownsRow B 9 1 (.slice va k vc) k cs) := by rw [← hV0]; exact own_same HO.out (fun _ _ _ => rfl)
  clear hV0
  refine wpAnyH_take (i := 0) (oi := { dst := some 38, op := Op.fieldAddr 42 (Operand.tmp 7) 1, type := 0, pos := "ref.go:224", after := #[], guard := none }) (v := .pointer (some ⟨b7, 1, none⟩)) rfl (by kernel_rfl) (by kernel_rfl) (by kernel_rfl) (fun _ _ _ h => h.elim) (Or.inl ⟨by rfl, ?y1⟩) hS0.out ?_
  case y1 =>
    intro V hV
    go_simp
  simp only [Act.put, List.setIfInBounds_toArray, List.set_cons_zero, List.set_cons_succ]
  refine wpAnyH_take (i := 2) (oi := { dst := some 40, op := Op.move (Operand.tmp 8), type := 27, pos := "ref.go:224", after := #[], guard := none }) (v := .slice (some ⟨g, 0, none⟩) ln lc) rfl (by kernel_rfl) (by kernel_rfl) (by kernel_rfl) (fun _ _ _ h => h.elim) (Or.inl ⟨by rfl, ?y2⟩) hS0.out ?_
  case y2 =>
    intro V hV
    go_simp
  simp only [Act.put, List.setIfInBounds_toArray, List.set_cons_zero, List.set_cons_succ]
  refine wpAnyH_take (i := 3) (oi := { dst := some 41, op := Op.move (Operand.tmp 9), type := 3, pos := "ref.go:224", after := #[], guard := none }) (v := iv (i : Int)) rfl (by kernel_rfl) (by kernel_rfl) (by kernel_rfl) (fun _ _ _ h => h.elim) (Or.inl ⟨by rfl, ?y3⟩) hS0.out ?_
  case y3 =>
    intro V hV
    go_simp
  simp only [Act.put, List.setIfInBounds_toArray, List.set_cons_zero, List.set_cons_succ]
  refine wpAnyH_take (i := 4) (oi := { dst := some 42, op := Op.indexAddr 27 (Operand.tmp 40) (Operand.tmp 41), type := 0, pos := "ref.go:224", after := #[{ on := 2, ground := Ground.data }, { on := 3, ground := Ground.data }], guard := none }) (v := .pointer (some ⟨g, i, none⟩)) rfl (by kernel_rfl) (by kernel_rfl) (by kernel_rfl) (fun _ _ _ h => h.elim) (Or.inl ⟨by rfl, ?y4⟩) hS0.out ?_
  case y4 =>
    intro V hV
    have h1 := HIX.out.1
    have h2 := HIX.out.2
    go_simp
  simp only [Act.put, List.setIfInBounds_toArray, List.set_cons_zero, List.set_cons_succ]
  refine wpAnyH_ready (rs := [1, 5]) (by kernel_rfl) (by simp) (AllReadyH.cons (i := 1) (o := { dst := some 39, op := Op.load 27 (Operand.tmp 38), type := 27, pos := "ref.go:224", after := #[{ on := 0, ground := Ground.data }], guard := none }) rfl ?_ (AllReadyH.cons (i := 5) (o := { dst := some 43, op := Op.load 9 (Operand.tmp 42), type := 9, pos := "ref.go:224", after := #[{ on := 4, ground := Ground.data }], guard := none }) rfl ?_ AllReadyH.nil))
  · intro K1 hK1
    rw [if_pos (by rfl)]
    have hc : V0.cell? ⟨b7, 1, none⟩ = some (.slice va k vc) := hX0.out.cell rfl
    go_wp2
    clear hc
    refine hK1.out _ _ hS0.out ?_
    clear hK1
    intro _
    try simp only [Act.put, List.setIfInBounds_toArray, List.set_cons_zero, List.set_cons_succ]
    refine wpAnyH_ready (rs := [5]) (by kernel_rfl) (by simp) (AllReadyH.cons (i := 5) (o := { dst := some 43, op := Op.load 9 (Operand.tmp 42), type := 9, pos := "ref.go:224", after := #[{ on := 4, ground := Ground.data }], guard := none }) rfl ?_ AllReadyH.nil)
    · intro K1 hK1
      rw [if_pos (by rfl)]
      have hc : V0.cell? ⟨g, i, none⟩ = some (.string sy) := HCY.out V0 hS0.out hX0.out
      go_wp2
      clear hc
      refine hK1.out _ _ hS0.out ?_
      clear hK1
      intro _
      try simp only [Act.put, List.setIfInBounds_toArray, List.set_cons_zero, List.set_cons_succ]
      refine wpAnyH_ready (rs := [6]) (by kernel_rfl) (by simp) (AllReadyH.cons (i := 6) (o := { dst := some 44, op := Op.buildSlice 27 1 #[(0, Operand.tmp 43)], type := 27, pos := "ref.go:224", after := #[{ on := 5, ground := Ground.data }], guard := none }) rfl ?_ AllReadyH.nil)
      · intro K1 hK1
        refine step_bs (by rfl) 27 (.tmp 43) _ rfl rfl (run_bs27 sy _) ?_
        have hr3 : V0.heap.size ≥ A.heap.size := hS0.out.size
        obtain ⟨V3, hv3⟩ : ∃ V, V0.alloc (.cells #[.string sy] 9) = V := ⟨_, rfl⟩
        have hl3 : Below V0.heap.size V0 V3 := by rw [← hv3]; exact below_al _ _
        have hS3 : Hid (Keep (fun j => j = b7 ∨ B ≤ j) A V3) := keepB hS0.out (hl3.mono hr3)
        have hX3 : Hid (Blk V3 b7 42 [.string su, .slice va k vc, iv r]) := hX0.out.below hl3 hX0.out.lt
        have hO3 : Hid (V3.ownsRow B 9 1 (.slice va k vc) k cs) := ownsRow_below hO0.out hl3
        obtain ⟨nb, hnb⟩ : ∃ m, V0.heap.size = m := ⟨_, rfl⟩
        have hM3 : Hid (Rx V3 (some ⟨nb, 0, none⟩) 1 1 [.string sy]) := by rw [← hv3, ← hnb]; exact ⟨rfl, by simp [Value.oneCell'], fun _ => ⟨_, 0, rfl, range_new V0 [.string sy] 9⟩⟩
        rw [hv3, hnb]
        clear hv3 hnb hr3 hl3
        refine hK1.out _ _ hS3.out ?_
        clear hK1
        intro _
        try simp only [Act.put, List.setIfInBounds_toArray, List.set_cons_zero, List.set_cons_succ]
        refine wpAnyH_ready (rs := [7]) (by kernel_rfl) (by simp) (AllReadyH.cons (i := 7) (o := { dst := some 45, op := Op.call { callee := Callee.builtin Builtin.append, args := #[Operand.tmp 39, Operand.tmp 44], argTypes := #[27, 27] }, type := 27, pos := "ref.go:224", after := #[{ on := 1, ground := Ground.data }, { on := 6, ground := Ground.data }], guard := none }) rfl ?_ AllReadyH.nil)
        · intro K1 hK1
          refine step_append_g (by rfl) (.tmp 39) (.tmp 44) 27 rfl _ 9 i0 z 1 B Try.underlying27 HI0.out.1 HI0.out.2.1 HI0.out.2.2.1 (by have := HI0.out.2.2.2.1; omega) HI0.out.2.2.2.2 (by omega) _ k cs hO3.out (some ⟨nb, 0, none⟩) 1 1 [.string sy] rfl rfl hM3.out (Nat.le_trans HL.out.2 hS3.out.size) (by have := HN.out; omega) ?_
          intro v4 V4 ho4 hg4 hp4
          have hS4 : Hid (Keep (fun j => j = b7 ∨ B ≤ j) A V4) := hS3.out.trans (Keep.grownO (S := fun j => j = b7 ∨ B ≤ j) hg4.out (fun b e => .inr (hO3.out.lt b e).1)) (fun _ hj _ => hj)
          have hX4 : Hid (Blk V4 b7 42 [.string su, .slice va k vc, iv r]) := hX3.out.kept hg4.out (fun e => by have h1 := (hO3.out.lt b7 e.symm).1; have h2 := HL.out.1; omega)
          clear hg4 hp4
          refine hK1.out _ _ hS4.out ?_
          clear hK1
          intro _
          try simp only [Act.put, List.setIfInBounds_toArray, List.set_cons_zero, List.set_cons_succ]
          refine wpAnyH_take (i := 8) (oi := { dst := some 46, op := Op.fieldAddr 42 (Operand.tmp 7) 1, type := 0, pos := "ref.go:224", after := #[{ on := 0, ground := Ground.phase }, { on := 1, ground := Ground.phase }, { on := 2, ground := Ground.phase }, { on := 3, ground := Ground.phase }, { on := 4, ground := Ground.phase }, { on := 5, ground := Ground.phase }, { on := 6, ground := Ground.phase }, { on := 7, ground := Ground.phase }], guard := none }) (v := .pointer (some ⟨b7, 1, none⟩)) rfl (by kernel_rfl) (by kernel_rfl) (by kernel_rfl) (fun _ _ _ h => h.elim) (Or.inl ⟨by rfl, ?y5⟩) hS4.out ?_
          case y5 =>
            intro V hV
            go_simp
          simp only [Act.put, List.setIfInBounds_toArray, List.set_cons_zero, List.set_cons_succ]
          refine wpAnyH_ready (rs := [9]) (by kernel_rfl) (by simp) (AllReadyH.cons (i := 9) (o := { dst := none, op := Op.store 27 (Operand.tmp 46) (Operand.tmp 45), type := 0, pos := "ref.go:224", after := #[{ on := 8, ground := Ground.data }, { on := 7, ground := Ground.data }, { on := 7, ground := Ground.chain }, { on := 0, ground := Ground.phase }, { on := 1, ground := Ground.phase }, { on := 2, ground := Ground.phase }, { on := 3, ground := Ground.phase }, { on := 4, ground := Ground.phase }, { on := 5, ground := Ground.phase }, { on := 6, ground := Ground.phase }, { on := 7, ground := Ground.phase }], guard := none }) rfl ?_ AllReadyH.nil)
          · intro K1 hK1
            refine step_st (by rfl) 27 (.tmp 46) (.tmp 45) rfl b7 1 v4 42 _ rfl rfl hX4.out (by simp) (by kernel_rfl) (own_slice ho4.out).1 (own_slice ho4.out).2 ?_
            obtain ⟨V5, hv5⟩ : ∃ V, V4.setCell ⟨b7, 1, none⟩ v4 = V := ⟨_, rfl⟩
            have hg5 : V4.grownBy V5 (some b7) := by rw [← hv5]; exact grown_setCell _ _ _ _
            have hS5 : Hid (Keep (fun j => j = b7 ∨ B ≤ j) A V5) := hS4.out.trans (Keep.grown (S := fun j => j = b7 ∨ B ≤ j) hg5 (.inl rfl)) (fun _ hj _ => hj)
            have hX5 : Hid (Blk V5 b7 42 [.string su, v4, iv r]) := by rw [← hv5]; exact hX4.out.set 1 v4
            have hO5 : Hid (V5.ownsRow B 9 1 v4 (k + 1) (cs ++ [.string sy])) := own_same ho4.out (fun g h1 h2 => hg5.block g h2 (fun e => by cases e; have := HL.out.1; omega))
            rw [hv5]
            clear hv5 hg5
            refine hK1.out _ _ hS5.out ?_
            clear hK1
            intro _
            try simp only [Act.put, List.setIfInBounds_toArray, List.set_cons_zero, List.set_cons_succ]
            refine wpAnyH_done (by kernel_rfl) ?_ _
            exact hQ V5 _ _ hO5.out hX5.out hS5.out
  · intro K1 hK1
    rw [if_pos (by rfl)]
    have hc : V0.cell? ⟨g, i, none⟩ = some (.string sy) := HCY.out V0 hS0.out hX0.out
    go_wp2
    clear hc
    refine hK1.out _ _ hS0.out ?_
    clear hK1
    intro _
    try simp only [Act.put, List.setIfInBounds_toArray, List.set_cons_zero, List.set_cons_succ]
    refine wpAnyH_ready (rs := [1, 6]) (by kernel_rfl) (by simp) (AllReadyH.cons (i := 1) (o := { dst := some 39, op := Op.load 27 (Operand.tmp 38), type := 27, pos := "ref.go:224", after := #[{ on := 0, ground := Ground.data }], guard := none }) rfl ?_ (AllReadyH.cons (i := 6) (o := { dst := some 44, op := Op.buildSlice 27 1 #[(0, Operand.tmp 43)], type := 27, pos := "ref.go:224", after := #[{ on := 5, ground := Ground.data }], guard := none }) rfl ?_ AllReadyH.nil))
    · intro K1 hK1
      rw [if_pos (by rfl)]
      have hc : V0.cell? ⟨b7, 1, none⟩ = some (.slice va k vc) := hX0.out.cell rfl
      go_wp2
      clear hc
      refine hK1.out _ _ hS0.out ?_
      clear hK1
      intro _
      try simp only [Act.put, List.setIfInBounds_toArray, List.set_cons_zero, List.set_cons_succ]
      refine wpAnyH_ready (rs := [6]) (by kernel_rfl) (by simp) (AllReadyH.cons (i := 6) (o := { dst := some 44, op := Op.buildSlice 27 1 #[(0, Operand.tmp 43)], type := 27, pos := "ref.go:224", after := #[{ on := 5, ground := Ground.data }], guard := none }) rfl ?_ AllReadyH.nil)
      · intro K1 hK1
        refine step_bs (by rfl) 27 (.tmp 43) _ rfl rfl (run_bs27 sy _) ?_
        have hr3 : V0.heap.size ≥ A.heap.size := hS0.out.size
        obtain ⟨V3, hv3⟩ : ∃ V, V0.alloc (.cells #[.string sy] 9) = V := ⟨_, rfl⟩
        have hl3 : Below V0.heap.size V0 V3 := by rw [← hv3]; exact below_al _ _
        have hS3 : Hid (Keep (fun j => j = b7 ∨ B ≤ j) A V3) := keepB hS0.out (hl3.mono hr3)
        have hX3 : Hid (Blk V3 b7 42 [.string su, .slice va k vc, iv r]) := hX0.out.below hl3 hX0.out.lt
        have hO3 : Hid (V3.ownsRow B 9 1 (.slice va k vc) k cs) := ownsRow_below hO0.out hl3
        obtain ⟨nb, hnb⟩ : ∃ m, V0.heap.size = m := ⟨_, rfl⟩
        have hM3 : Hid (Rx V3 (some ⟨nb, 0, none⟩) 1 1 [.string sy]) := by rw [← hv3, ← hnb]; exact ⟨rfl, by simp [Value.oneCell'], fun _ => ⟨_, 0, rfl, range_new V0 [.string sy] 9⟩⟩
        rw [hv3, hnb]
        clear hv3 hnb hr3 hl3
        refine hK1.out _ _ hS3.out ?_
        clear hK1
        intro _
        try simp only [Act.put, List.setIfInBounds_toArray, List.set_cons_zero, List.set_cons_succ]
        refine wpAnyH_ready (rs := [7]) (by kernel_rfl) (by simp) (AllReadyH.cons (i := 7) (o := { dst := some 45, op := Op.call { callee := Callee.builtin Builtin.append, args := #[Operand.tmp 39, Operand.tmp 44], argTypes := #[27, 27] }, type := 27, pos := "ref.go:224", after := #[{ on := 1, ground := Ground.data }, { on := 6, ground := Ground.data }], guard := none }) rfl ?_ AllReadyH.nil)
        · intro K1 hK1
          refine step_append_g (by rfl) (.tmp 39) (.tmp 44) 27 rfl _ 9 i0 z 1 B Try.underlying27 HI0.out.1 HI0.out.2.1 HI0.out.2.2.1 (by have := HI0.out.2.2.2.1; omega) HI0.out.2.2.2.2 (by omega) _ k cs hO3.out (some ⟨nb, 0, none⟩) 1 1 [.string sy] rfl rfl hM3.out (Nat.le_trans HL.out.2 hS3.out.size) (by have := HN.out; omega) ?_
          intro v4 V4 ho4 hg4 hp4
          have hS4 : Hid (Keep (fun j => j = b7 ∨ B ≤ j) A V4) := hS3.out.trans (Keep.grownO (S := fun j => j = b7 ∨ B ≤ j) hg4.out (fun b e => .inr (hO3.out.lt b e).1)) (fun _ hj _ => hj)
          have hX4 : Hid (Blk V4 b7 42 [.string su, .slice va k vc, iv r]) := hX3.out.kept hg4.out (fun e => by have h1 := (hO3.out.lt b7 e.symm).1; have h2 := HL.out.1; omega)
          clear hg4 hp4
          refine hK1.out _ _ hS4.out ?_
          clear hK1
          intro _
          try simp only [Act.put, List.setIfInBounds_toArray, List.set_cons_zero, List.set_cons_succ]
          refine wpAnyH_take (i := 8) (oi := { dst := some 46, op := Op.fieldAddr 42 (Operand.tmp 7) 1, type := 0, pos := "ref.go:224", after := #[{ on := 0, ground := Ground.phase }, { on := 1, ground := Ground.phase }, { on := 2, ground := Ground.phase }, { on := 3, ground := Ground.phase }, { on := 4, ground := Ground.phase }, { on := 5, ground := Ground.phase }, { on := 6, ground := Ground.phase }, { on := 7, ground := Ground.phase }], guard := none }) (v := .pointer (some ⟨b7, 1, none⟩)) rfl (by kernel_rfl) (by kernel_rfl) (by kernel_rfl) (fun _ _ _ h => h.elim) (Or.inl ⟨by rfl, ?y6⟩) hS4.out ?_
          case y6 =>
            intro V hV
            go_simp
          simp only [Act.put, List.setIfInBounds_toArray, List.set_cons_zero, List.set_cons_succ]
          refine wpAnyH_ready (rs := [9]) (by kernel_rfl) (by simp) (AllReadyH.cons (i := 9) (o := { dst := none, op := Op.store 27 (Operand.tmp 46) (Operand.tmp 45), type := 0, pos := "ref.go:224", after := #[{ on := 8, ground := Ground.data }, { on := 7, ground := Ground.data }, { on := 7, ground := Ground.chain }, { on := 0, ground := Ground.phase }, { on := 1, ground := Ground.phase }, { on := 2, ground := Ground.phase }, { on := 3, ground := Ground.phase }, { on := 4, ground := Ground.phase }, { on := 5, ground := Ground.phase }, { on := 6, ground := Ground.phase }, { on := 7, ground := Ground.phase }], guard := none }) rfl ?_ AllReadyH.nil)
          · intro K1 hK1
            refine step_st (by rfl) 27 (.tmp 46) (.tmp 45) rfl b7 1 v4 42 _ rfl rfl hX4.out (by simp) (by kernel_rfl) (own_slice ho4.out).1 (own_slice ho4.out).2 ?_
            obtain ⟨V5, hv5⟩ : ∃ V, V4.setCell ⟨b7, 1, none⟩ v4 = V := ⟨_, rfl⟩
            have hg5 : V4.grownBy V5 (some b7) := by rw [← hv5]; exact grown_setCell _ _ _ _
            have hS5 : Hid (Keep (fun j => j = b7 ∨ B ≤ j) A V5) := hS4.out.trans (Keep.grown (S := fun j => j = b7 ∨ B ≤ j) hg5 (.inl rfl)) (fun _ hj _ => hj)
            have hX5 : Hid (Blk V5 b7 42 [.string su, v4, iv r]) := by rw [← hv5]; exact hX4.out.set 1 v4
            have hO5 : Hid (V5.ownsRow B 9 1 v4 (k + 1) (cs ++ [.string sy])) := own_same ho4.out (fun g h1 h2 => hg5.block g h2 (fun e => by cases e; have := HL.out.1; omega))
            rw [hv5]
            clear hv5 hg5
            refine hK1.out _ _ hS5.out ?_
            clear hK1
            intro _
            try simp only [Act.put, List.setIfInBounds_toArray, List.set_cons_zero, List.set_cons_succ]
            refine wpAnyH_done (by kernel_rfl) ?_ _
            exact hQ V5 _ _ hO5.out hX5.out hS5.out
    · intro K1 hK1
      refine step_bs (by rfl) 27 (.tmp 43) _ rfl rfl (run_bs27 sy _) ?_
      have hr2 : V0.heap.size ≥ A.heap.size := hS0.out.size
      obtain ⟨V2, hv2⟩ : ∃ V, V0.alloc (.cells #[.string sy] 9) = V := ⟨_, rfl⟩
      have hl2 : Below V0.heap.size V0 V2 := by rw [← hv2]; exact below_al _ _
      have hS2 : Hid (Keep (fun j => j = b7 ∨ B ≤ j) A V2) := keepB hS0.out (hl2.mono hr2)
      have hX2 : Hid (Blk V2 b7 42 [.string su, .slice va k vc, iv r]) := hX0.out.below hl2 hX0.out.lt
      have hO2 : Hid (V2.ownsRow B 9 1 (.slice va k vc) k cs) := ownsRow_below hO0.out hl2
      obtain ⟨nb, hnb⟩ : ∃ m, V0.heap.size = m := ⟨_, rfl⟩
      have hM2 : Hid (Rx V2 (some ⟨nb, 0, none⟩) 1 1 [.string sy]) := by rw [← hv2, ← hnb]; exact ⟨rfl, by simp [Value.oneCell'], fun _ => ⟨_, 0, rfl, range_new V0 [.string sy] 9⟩⟩
      rw [hv2, hnb]
      clear hv2 hnb hr2 hl2
      refine hK1.out _ _ hS2.out ?_
      clear hK1
      intro _
      try simp only [Act.put, List.setIfInBounds_toArray, List.set_cons_zero, List.set_cons_succ]
      refine wpAnyH_ready (rs := [1]) (by kernel_rfl) (by simp) (AllReadyH.cons (i := 1) (o := { dst := some 39, op := Op.load 27 (Operand.tmp 38), type := 27, pos := "ref.go:224", after := #[{ on := 0, ground := Ground.data }], guard := none }) rfl ?_ AllReadyH.nil)
      · intro K1 hK1
        rw [if_pos (by rfl)]
        have hc : V2.cell? ⟨b7, 1, none⟩ = some (.slice va k vc) := hX2.out.cell rfl
        go_wp2
        clear hc
        refine hK1.out _ _ hS2.out ?_
        clear hK1
        intro _
        try simp only [Act.put, List.setIfInBounds_toArray, List.set_cons_zero, List.set_cons_succ]
        refine wpAnyH_ready (rs := [7]) (by kernel_rfl) (by simp) (AllReadyH.cons (i := 7) (o := { dst := some 45, op := Op.call { callee := Callee.builtin Builtin.append, args := #[Operand.tmp 39, Operand.tmp 44], argTypes := #[27, 27] }, type := 27, pos := "ref.go:224", after := #[{ on := 1, ground := Ground.data }, { on := 6, ground := Ground.data }], guard := none }) rfl ?_ AllReadyH.nil)
        · intro K1 hK1
          refine step_append_g (by rfl) (.tmp 39) (.tmp 44) 27 rfl _ 9 i0 z 1 B Try.underlying27 HI0.out.1 HI0.out.2.1 HI0.out.2.2.1 (by have := HI0.out.2.2.2.1; omega) HI0.out.2.2.2.2 (by omega) _ k cs hO2.out (some ⟨nb, 0, none⟩) 1 1 [.string sy] rfl rfl hM2.out (Nat.le_trans HL.out.2 hS2.out.size) (by have := HN.out; omega) ?_
          intro v4 V4 ho4 hg4 hp4
          have hS4 : Hid (Keep (fun j => j = b7 ∨ B ≤ j) A V4) := hS2.out.trans (Keep.grownO (S := fun j => j = b7 ∨ B ≤ j) hg4.out (fun b e => .inr (hO2.out.lt b e).1)) (fun _ hj _ => hj)
          have hX4 : Hid (Blk V4 b7 42 [.string su, .slice va k vc, iv r]) := hX2.out.kept hg4.out (fun e => by have h1 := (hO2.out.lt b7 e.symm).1; have h2 := HL.out.1; omega)
          clear hg4 hp4
          refine hK1.out _ _ hS4.out ?_
          clear hK1
          intro _
          try simp only [Act.put, List.setIfInBounds_toArray, List.set_cons_zero, List.set_cons_succ]
          refine wpAnyH_take (i := 8) (oi := { dst := some 46, op := Op.fieldAddr 42 (Operand.tmp 7) 1, type := 0, pos := "ref.go:224", after := #[{ on := 0, ground := Ground.phase }, { on := 1, ground := Ground.phase }, { on := 2, ground := Ground.phase }, { on := 3, ground := Ground.phase }, { on := 4, ground := Ground.phase }, { on := 5, ground := Ground.phase }, { on := 6, ground := Ground.phase }, { on := 7, ground := Ground.phase }], guard := none }) (v := .pointer (some ⟨b7, 1, none⟩)) rfl (by kernel_rfl) (by kernel_rfl) (by kernel_rfl) (fun _ _ _ h => h.elim) (Or.inl ⟨by rfl, ?y7⟩) hS4.out ?_
          case y7 =>
            intro V hV
            go_simp
          simp only [Act.put, List.setIfInBounds_toArray, List.set_cons_zero, List.set_cons_succ]
          refine wpAnyH_ready (rs := [9]) (by kernel_rfl) (by simp) (AllReadyH.cons (i := 9) (o := { dst := none, op := Op.store 27 (Operand.tmp 46) (Operand.tmp 45), type := 0, pos := "ref.go:224", after := #[{ on := 8, ground := Ground.data }, { on := 7, ground := Ground.data }, { on := 7, ground := Ground.chain }, { on := 0, ground := Ground.phase }, { on := 1, ground := Ground.phase }, { on := 2, ground := Ground.phase }, { on := 3, ground := Ground.phase }, { on := 4, ground := Ground.phase }, { on := 5, ground := Ground.phase }, { on := 6, ground := Ground.phase }, { on := 7, ground := Ground.phase }], guard := none }) rfl ?_ AllReadyH.nil)
          · intro K1 hK1
            refine step_st (by rfl) 27 (.tmp 46) (.tmp 45) rfl b7 1 v4 42 _ rfl rfl hX4.out (by simp) (by kernel_rfl) (own_slice ho4.out).1 (own_slice ho4.out).2 ?_
            obtain ⟨V5, hv5⟩ : ∃ V, V4.setCell ⟨b7, 1, none⟩ v4 = V := ⟨_, rfl⟩
            have hg5 : V4.grownBy V5 (some b7) := by rw [← hv5]; exact grown_setCell _ _ _ _
            have hS5 : Hid (Keep (fun j => j = b7 ∨ B ≤ j) A V5) := hS4.out.trans (Keep.grown (S := fun j => j = b7 ∨ B ≤ j) hg5 (.inl rfl)) (fun _ hj _ => hj)
            have hX5 : Hid (Blk V5 b7 42 [.string su, v4, iv r]) := by rw [← hv5]; exact hX4.out.set 1 v4
            have hO5 : Hid (V5.ownsRow B 9 1 v4 (k + 1) (cs ++ [.string sy])) := own_same ho4.out (fun g h1 h2 => hg5.block g h2 (fun e => by cases e; have := HL.out.1; omega))
            rw [hv5]
            clear hv5 hg5
            refine hK1.out _ _ hS5.out ?_
            clear hK1
            intro _
            try simp only [Act.put, List.setIfInBounds_toArray, List.set_cons_zero, List.set_cons_succ]
            refine wpAnyH_done (by kernel_rfl) ?_ _
            exact hQ V5 _ _ hO5.out hX5.out hS5.out
#print axioms sub7
set_option maxRecDepth 100000 in
set_option maxHeartbeats 4000000 in
theorem sub6y {Q : Exit → Act → World → Prop} {x0 x4 x5 x6 x7 x10 x11 x12 x13 x14 x15 x16 x17 x18 x19 x20 x21 x22 x23 x24 x25 x26 x27 x28 x29 x30 x31 x32 x33 x34 x35 x36 x37 x38 x39 x40 x41 x42 x43 x44 x45 x46 x47 : Value} {ds : List Deferred} {A : World} {b g ln lc i nu uc no oc m c : Nat} {ua oa a : Option Addr} {so sy su : ByteArray} {kf : Int}
    (HB2 : Hid (Blk A b 30 [.slice ua nu uc, .slice oa no oc, .slice a m c])) (HIX : Hid ((i : Int) < (ln : Int) ∧ i < ln)) (HCY : Hid (A.cell? ⟨g, i, none⟩ = some (.string sy) ∧ g < A.heap.size)) (HRO : Hid (∀ V, Below A.heap.size A V → Calls Try.prog 47 #[.agg #[.slice ua nu uc, .slice oa no oc, .slice a m c], .string so, .string sy, .string su] V fun e V2 => e = .returned (iv kf) ∧ Below V.heap.size V V2)) (b1 : su.toList.isEmpty = false)
    (hQ : ∀ V1, Below A.heap.size A V1 → Q .normal { tmps := #[x0, .string so, .string su, .pointer (some ⟨b, 0, none⟩), x4, x5, x6, x7, .slice (some ⟨g, 0, none⟩) ln lc, iv (i : Int), x10, x11, x12, x13, x14, x15, x16, x17, x18, x19, x20, x21, x22, x23, x24, .string su, .bool true, .bool true, .agg [.slice ua nu uc, .slice oa no oc, .slice a m c].toArray, .string so, .slice (some ⟨g, 0, none⟩) ln lc, iv (i : Int), .pointer (some ⟨g, i, none⟩), .string sy, .string su, iv kf, .bool (decide (0 ≤ kf)), .bool (decide (0 ≤ kf)), x38, x39, x40, x41, x42, x43, x44, x45, x46, x47], defers := ds } V1) :
    (Code.region 6 #[{ dst := some 25, op := Op.move (Operand.tmp 2), type := 9, pos := "ref.go:223", after := #[], guard := none }, { dst := some 26, op := Op.binOp BinOp.neq 9 (Operand.tmp 25) (Operand.const (Value.string { data := #[] })) 9, type := 4, pos := "ref.go:223", after := #[{ on := 0, ground := Ground.data }], guard := none }, { dst := some 27, op := Op.move (Operand.tmp 26), type := 4, pos := "ref.go:223", after := #[{ on := 1, ground := Ground.data }], guard := none }, { dst := some 28, op := Op.load 30 (Operand.tmp 3), type := 30, pos := "ref.go:223", after := #[{ on := 2, ground := Ground.guard }], guard := some (2, true) }, { dst := some 29, op := Op.move (Operand.tmp 1), type := 9, pos := "ref.go:223", after := #[{ on := 2, ground := Ground.guard }], guard := some (2, true) }, { dst := some 30, op := Op.move (Operand.tmp 8), type := 27, pos := "ref.go:223", after := #[{ on := 2, ground := Ground.guard }], guard := some (2, true) }, { dst := some 31, op := Op.move (Operand.tmp 9), type := 3, pos := "ref.go:223", after := #[{ on := 2, ground := Ground.guard }], guard := some (2, true) }, { dst := some 32, op := Op.indexAddr 27 (Operand.tmp 30) (Operand.tmp 31), type := 0, pos := "ref.go:223", after := #[{ on := 5, ground := Ground.data }, { on := 6, ground := Ground.data }, { on := 2, ground := Ground.guard }], guard := some (2, true) }, { dst := some 33, op := Op.load 9 (Operand.tmp 32), type := 9, pos := "ref.go:223", after := #[{ on := 7, ground := Ground.data }, { on := 2, ground := Ground.guard }], guard := some (2, true) }, { dst := some 34, op := Op.move (Operand.tmp 2), type := 9, pos := "ref.go:223", after := #[{ on := 2, ground := Ground.guard }], guard := some (2, true) }, { dst := some 35, op := Op.call { callee := Callee.value (Operand.func 47), args := #[Operand.tmp 28, Operand.tmp 29, Operand.tmp 33, Operand.tmp 34], argTypes := #[30, 9, 9, 9] }, type := 3, pos := "ref.go:223", after := #[{ on := 3, ground := Ground.data }, { on := 4, ground := Ground.data }, { on := 8, ground := Ground.data }, { on := 9, ground := Ground.data }, { on := 2, ground := Ground.chain }, { on := 2, ground := Ground.guard }], guard := some (2, true) }, { dst := some 36, op := Op.binOp BinOp.geq 3 (Operand.tmp 35) (Operand.const (Value.int IntKind.i64 0)) 3, type := 4, pos := "ref.go:223", after := #[{ on := 10, ground := Ground.data }, { on := 2, ground := Ground.guard }], guard := some (2, true) }, { dst := some 37, op := Op.pick (Operand.tmp 27) (Operand.tmp 36) (Operand.const (Value.bool false)), type := 4, pos := "ref.go:223", after := #[{ on := 2, ground := Ground.data }, { on := 11, ground := Ground.data }], guard := none }] true).wp Try.prog Q { tmps := #[x0, .string so, .string su, .pointer (some ⟨b, 0, none⟩), x4, x5, x6, x7, .slice (some ⟨g, 0, none⟩) ln lc, iv (i : Int), x10, x11, x12, x13, x14, x15, x16, x17, x18, x19, x20, x21, x22, x23, x24, x25, x26, x27, x28, x29, x30, x31, x32, x33, x34, x35, x36, x37, x38, x39, x40, x41, x42, x43, x44, x45, x46, x47], defers := ds } A := by
  refine Code.wp_mono (Q := fun x a' w' => match x with | .normal => Q .normal a' w' | _ => False) (by intro x a' w' h; cases x <;> first | exact h | exact h.elim) ?_
  refine wp_region_held (S := fun V => Below A.heap.size A V) (by kernel_rfl) ?_
  have hS0 : Hid (Below A.heap.size A A.drew) := below_drew0 A
  change wpAnyH Try.prog .any _ _ (fun V => Below A.heap.size A V) 13 (Array.replicate 13 false) _ A.drew
  obtain ⟨V0, hV0⟩ : ∃ V0, A.drew = V0 := ⟨_, rfl⟩
  rw [hV0]
  rw [hV0] at hS0
  clear hV0
  refine wpAnyH_take (i := 0) (oi := { dst := some 25, op := Op.move (Operand.tmp 2), type := 9, pos := "ref.go:223", after := #[], guard := none }) (v := .string su) rfl (by kernel_rfl) (by kernel_rfl) (by kernel_rfl) (fun _ _ _ h => h.elim) (Or.inl ⟨by rfl, ?y1⟩) hS0.out ?_
  case y1 =>
    intro V hV
    go_simp
  simp only [Act.put, List.setIfInBounds_toArray, List.set_cons_zero, List.set_cons_succ]
  refine wpAnyH_take (i := 1) (oi := { dst := some 26, op := Op.binOp BinOp.neq 9 (Operand.tmp 25) (Operand.const (Value.string { data := #[] })) 9, type := 4, pos := "ref.go:223", after := #[{ on := 0, ground := Ground.data }], guard := none }) (v := .bool true) rfl (by kernel_rfl) (by kernel_rfl) (by kernel_rfl) (fun _ _ _ h => h.elim) (Or.inl ⟨by rfl, ?y2⟩) hS0.out ?_
  case y2 =>
    intro V hV
    have hcmp := b1
    go_simp
  simp only [Act.put, List.setIfInBounds_toArray, List.set_cons_zero, List.set_cons_succ]
  refine wpAnyH_take (i := 2) (oi := { dst := some 27, op := Op.move (Operand.tmp 26), type := 4, pos := "ref.go:223", after := #[{ on := 1, ground := Ground.data }], guard := none }) (v := .bool true) rfl (by kernel_rfl) (by kernel_rfl) (by kernel_rfl) (fun _ _ _ h => h.elim) (Or.inl ⟨by rfl, ?y3⟩) hS0.out ?_
  case y3 =>
    intro V hV
    go_simp
  simp only [Act.put, List.setIfInBounds_toArray, List.set_cons_zero, List.set_cons_succ]
  refine wpAnyH_take (i := 3) (oi := { dst := some 28, op := Op.load 30 (Operand.tmp 3), type := 30, pos := "ref.go:223", after := #[{ on := 2, ground := Ground.guard }], guard := some (2, true) }) (v := .agg [.slice ua nu uc, .slice oa no oc, .slice a m c].toArray) rfl (by kernel_rfl) (by kernel_rfl) (by kernel_rfl) (fun _ _ _ h => h.elim) (yieldsIf_load_mid (by rfl) _ _ rfl _ _ rfl ([.slice ua nu uc, .slice oa no oc, .slice a m c]) _ (fun V hV => rangeAt_same ((by have := HB2.out.range 0 3; simpa using this)) ((show Below A.heap.size A V from hV).block _ (HB2.out.lt))) Try.underlying30 rfl (size30)) hS0.out ?_
  simp only [Act.put, List.setIfInBounds_toArray, List.set_cons_zero, List.set_cons_succ]
  refine wpAnyH_take (i := 4) (oi := { dst := some 29, op := Op.move (Operand.tmp 1), type := 9, pos := "ref.go:223", after := #[{ on := 2, ground := Ground.guard }], guard := some (2, true) }) (v := .string so) rfl (by kernel_rfl) (by kernel_rfl) (by kernel_rfl) (fun _ _ _ h => h.elim) (Or.inl ⟨by rfl, ?y4⟩) hS0.out ?_
  case y4 =>
    intro V hV
    go_simp
  simp only [Act.put, List.setIfInBounds_toArray, List.set_cons_zero, List.set_cons_succ]
  refine wpAnyH_take (i := 5) (oi := { dst := some 30, op := Op.move (Operand.tmp 8), type := 27, pos := "ref.go:223", after := #[{ on := 2, ground := Ground.guard }], guard := some (2, true) }) (v := .slice (some ⟨g, 0, none⟩) ln lc) rfl (by kernel_rfl) (by kernel_rfl) (by kernel_rfl) (fun _ _ _ h => h.elim) (Or.inl ⟨by rfl, ?y5⟩) hS0.out ?_
  case y5 =>
    intro V hV
    go_simp
  simp only [Act.put, List.setIfInBounds_toArray, List.set_cons_zero, List.set_cons_succ]
  refine wpAnyH_take (i := 6) (oi := { dst := some 31, op := Op.move (Operand.tmp 9), type := 3, pos := "ref.go:223", after := #[{ on := 2, ground := Ground.guard }], guard := some (2, true) }) (v := iv (i : Int)) rfl (by kernel_rfl) (by kernel_rfl) (by kernel_rfl) (fun _ _ _ h => h.elim) (Or.inl ⟨by rfl, ?y6⟩) hS0.out ?_
  case y6 =>
    intro V hV
    go_simp
  simp only [Act.put, List.setIfInBounds_toArray, List.set_cons_zero, List.set_cons_succ]
  refine wpAnyH_take (i := 7) (oi := { dst := some 32, op := Op.indexAddr 27 (Operand.tmp 30) (Operand.tmp 31), type := 0, pos := "ref.go:223", after := #[{ on := 5, ground := Ground.data }, { on := 6, ground := Ground.data }, { on := 2, ground := Ground.guard }], guard := some (2, true) }) (v := .pointer (some ⟨g, i, none⟩)) rfl (by kernel_rfl) (by kernel_rfl) (by kernel_rfl) (fun _ _ _ h => h.elim) (Or.inl ⟨by rfl, ?y7⟩) hS0.out ?_
  case y7 =>
    intro V hV
    have h1 := HIX.out.1
    have h2 := HIX.out.2
    go_simp
  simp only [Act.put, List.setIfInBounds_toArray, List.set_cons_zero, List.set_cons_succ]
  refine wpAnyH_take (i := 8) (oi := { dst := some 33, op := Op.load 9 (Operand.tmp 32), type := 9, pos := "ref.go:223", after := #[{ on := 7, ground := Ground.data }, { on := 2, ground := Ground.guard }], guard := some (2, true) }) (v := .string sy) rfl (by kernel_rfl) (by kernel_rfl) (by kernel_rfl) (fun _ _ _ h => h.elim) (Or.inl ⟨by rfl, ?y8⟩) hS0.out ?_
  case y8 =>
    intro V hV
    have hc : V.cell? ⟨g, i, none⟩ = some (.string sy) := ((show Below A.heap.size A V from hV).cell (p := ⟨g, i, none⟩) (HCY.out.2)).trans HCY.out.1
    go_simp
  simp only [Act.put, List.setIfInBounds_toArray, List.set_cons_zero, List.set_cons_succ]
  refine wpAnyH_take (i := 9) (oi := { dst := some 34, op := Op.move (Operand.tmp 2), type := 9, pos := "ref.go:223", after := #[{ on := 2, ground := Ground.guard }], guard := some (2, true) }) (v := .string su) rfl (by kernel_rfl) (by kernel_rfl) (by kernel_rfl) (fun _ _ _ h => h.elim) (Or.inl ⟨by rfl, ?y9⟩) hS0.out ?_
  case y9 =>
    intro V hV
    go_simp
  simp only [Act.put, List.setIfInBounds_toArray, List.set_cons_zero, List.set_cons_succ]
  refine wpAnyH_ready (rs := [10]) (by kernel_rfl) (by simp) (AllReadyH.cons (i := 10) (o := { dst := some 35, op := Op.call { callee := Callee.value (Operand.func 47), args := #[Operand.tmp 28, Operand.tmp 29, Operand.tmp 33, Operand.tmp 34], argTypes := #[30, 9, 9, 9] }, type := 3, pos := "ref.go:223", after := #[{ on := 3, ground := Ground.data }, { on := 4, ground := Ground.data }, { on := 8, ground := Ground.data }, { on := 9, ground := Ground.data }, { on := 2, ground := Ground.chain }, { on := 2, ground := Ground.guard }], guard := some (2, true) }) rfl ?_ AllReadyH.nil)
  · intro K1 hK1
    rw [if_pos (by rfl)]
    have HC1 := (HRO.out V0 hS0.out)
    go_wp2_with fail
    refine HC1.mono ?_
    rintro e V1 ⟨rfl, hb1⟩
    dsimp only
    clear HC1
    have hS1 : Hid (Below A.heap.size A V1) := hS0.out.trans ((hb1).mono hS0.out.size)
    clear hb1
    refine hK1.out _ _ hS1.out ?_
    clear hK1
    intro _
    try simp only [Act.put, List.setIfInBounds_toArray, List.set_cons_zero, List.set_cons_succ]
    refine wpAnyH_take (i := 11) (oi := { dst := some 36, op := Op.binOp BinOp.geq 3 (Operand.tmp 35) (Operand.const (Value.int IntKind.i64 0)) 3, type := 4, pos := "ref.go:223", after := #[{ on := 10, ground := Ground.data }, { on := 2, ground := Ground.guard }], guard := some (2, true) }) (v := .bool (decide (0 ≤ kf))) rfl (by kernel_rfl) (by kernel_rfl) (by kernel_rfl) (fun _ _ _ h => h.elim) (Or.inl ⟨by rfl, ?y10⟩) hS1.out ?_
    case y10 =>
      intro V hV
      go_simp
    simp only [Act.put, List.setIfInBounds_toArray, List.set_cons_zero, List.set_cons_succ]
    refine wpAnyH_take (i := 12) (oi := { dst := some 37, op := Op.pick (Operand.tmp 27) (Operand.tmp 36) (Operand.const (Value.bool false)), type := 4, pos := "ref.go:223", after := #[{ on := 2, ground := Ground.data }, { on := 11, ground := Ground.data }], guard := none }) (v := .bool (decide (0 ≤ kf))) rfl (by kernel_rfl) (by kernel_rfl) (by kernel_rfl) (fun _ _ _ h => h.elim) (Or.inl ⟨by rfl, ?y11⟩) hS1.out ?_
    case y11 =>
      intro V hV
      go_simp
    simp only [Act.put, List.setIfInBounds_toArray, List.set_cons_zero, List.set_cons_succ]
    refine wpAnyH_done (by kernel_rfl) ?_ _
    exact hQ V1 hS1.out
#print axioms sub6y
set_option maxRecDepth 100000 in
set_option maxHeartbeats 4000000 in
theorem sub6n {Q : Exit → Act → World → Prop} {x0 x4 x5 x6 x7 x10 x11 x12 x13 x14 x15 x16 x17 x18 x19 x20 x21 x22 x23 x24 x25 x26 x27 x28 x29 x30 x31 x32 x33 x34 x35 x36 x37 x38 x39 x40 x41 x42 x43 x44 x45 x46 x47 : Value} {ds : List Deferred} {A : World} {b g ln lc i : Nat} {so su : ByteArray}
    (b1 : su.toList.isEmpty = true)
    (hQ : ∀ V1, Below A.heap.size A V1 → Q .normal { tmps := #[x0, .string so, .string su, .pointer (some ⟨b, 0, none⟩), x4, x5, x6, x7, .slice (some ⟨g, 0, none⟩) ln lc, iv (i : Int), x10, x11, x12, x13, x14, x15, x16, x17, x18, x19, x20, x21, x22, x23, x24, .string su, .bool false, .bool false, undef, undef, undef, undef, undef, undef, undef, undef, undef, .bool false, x38, x39, x40, x41, x42, x43, x44, x45, x46, x47], defers := ds } V1) :
    (Code.region 6 #[{ dst := some 25, op := Op.move (Operand.tmp 2), type := 9, pos := "ref.go:223", after := #[], guard := none }, { dst := some 26, op := Op.binOp BinOp.neq 9 (Operand.tmp 25) (Operand.const (Value.string { data := #[] })) 9, type := 4, pos := "ref.go:223", after := #[{ on := 0, ground := Ground.data }], guard := none }, { dst := some 27, op := Op.move (Operand.tmp 26), type := 4, pos := "ref.go:223", after := #[{ on := 1, ground := Ground.data }], guard := none }, { dst := some 28, op := Op.load 30 (Operand.tmp 3), type := 30, pos := "ref.go:223", after := #[{ on := 2, ground := Ground.guard }], guard := some (2, true) }, { dst := some 29, op := Op.move (Operand.tmp 1), type := 9, pos := "ref.go:223", after := #[{ on := 2, ground := Ground.guard }], guard := some (2, true) }, { dst := some 30, op := Op.move (Operand.tmp 8), type := 27, pos := "ref.go:223", after := #[{ on := 2, ground := Ground.guard }], guard := some (2, true) }, { dst := some 31, op := Op.move (Operand.tmp 9), type := 3, pos := "ref.go:223", after := #[{ on := 2, ground := Ground.guard }], guard := some (2, true) }, { dst := some 32, op := Op.indexAddr 27 (Operand.tmp 30) (Operand.tmp 31), type := 0, pos := "ref.go:223", after := #[{ on := 5, ground := Ground.data }, { on := 6, ground := Ground.data }, { on := 2, ground := Ground.guard }], guard := some (2, true) }, { dst := some 33, op := Op.load 9 (Operand.tmp 32), type := 9, pos := "ref.go:223", after := #[{ on := 7, ground := Ground.data }, { on := 2, ground := Ground.guard }], guard := some (2, true) }, { dst := some 34, op := Op.move (Operand.tmp 2), type := 9, pos := "ref.go:223", after := #[{ on := 2, ground := Ground.guard }], guard := some (2, true) }, { dst := some 35, op := Op.call { callee := Callee.value (Operand.func 47), args := #[Operand.tmp 28, Operand.tmp 29, Operand.tmp 33, Operand.tmp 34], argTypes := #[30, 9, 9, 9] }, type := 3, pos := "ref.go:223", after := #[{ on := 3, ground := Ground.data }, { on := 4, ground := Ground.data }, { on := 8, ground := Ground.data }, { on := 9, ground := Ground.data }, { on := 2, ground := Ground.chain }, { on := 2, ground := Ground.guard }], guard := some (2, true) }, { dst := some 36, op := Op.binOp BinOp.geq 3 (Operand.tmp 35) (Operand.const (Value.int IntKind.i64 0)) 3, type := 4, pos := "ref.go:223", after := #[{ on := 10, ground := Ground.data }, { on := 2, ground := Ground.guard }], guard := some (2, true) }, { dst := some 37, op := Op.pick (Operand.tmp 27) (Operand.tmp 36) (Operand.const (Value.bool false)), type := 4, pos := "ref.go:223", after := #[{ on := 2, ground := Ground.data }, { on := 11, ground := Ground.data }], guard := none }] true).wp Try.prog Q { tmps := #[x0, .string so, .string su, .pointer (some ⟨b, 0, none⟩), x4, x5, x6, x7, .slice (some ⟨g, 0, none⟩) ln lc, iv (i : Int), x10, x11, x12, x13, x14, x15, x16, x17, x18, x19, x20, x21, x22, x23, x24, x25, x26, x27, x28, x29, x30, x31, x32, x33, x34, x35, x36, x37, x38, x39, x40, x41, x42, x43, x44, x45, x46, x47], defers := ds } A := by
  refine Code.wp_mono (Q := fun x a' w' => match x with | .normal => Q .normal a' w' | _ => False) (by intro x a' w' h; cases x <;> first | exact h | exact h.elim) ?_
  refine wp_region_held (S := fun V => Below A.heap.size A V) (by kernel_rfl) ?_
  have hS0 : Hid (Below A.heap.size A A.drew) := below_drew0 A
  change wpAnyH Try.prog .any _ _ (fun V => Below A.heap.size A V) 13 (Array.replicate 13 false) _ A.drew
  obtain ⟨V0, hV0⟩ : ∃ V0, A.drew = V0 := ⟨_, rfl⟩
  rw [hV0]
  rw [hV0] at hS0
  clear hV0
  refine wpAnyH_take (i := 0) (oi := { dst := some 25, op := Op.move (Operand.tmp 2), type := 9, pos := "ref.go:223", after := #[], guard := none }) (v := .string su) rfl (by kernel_rfl) (by kernel_rfl) (by kernel_rfl) (fun _ _ _ h => h.elim) (Or.inl ⟨by rfl, ?y1⟩) hS0.out ?_
  case y1 =>
    intro V hV
    go_simp
  simp only [Act.put, List.setIfInBounds_toArray, List.set_cons_zero, List.set_cons_succ]
  refine wpAnyH_take (i := 1) (oi := { dst := some 26, op := Op.binOp BinOp.neq 9 (Operand.tmp 25) (Operand.const (Value.string { data := #[] })) 9, type := 4, pos := "ref.go:223", after := #[{ on := 0, ground := Ground.data }], guard := none }) (v := .bool false) rfl (by kernel_rfl) (by kernel_rfl) (by kernel_rfl) (fun _ _ _ h => h.elim) (Or.inl ⟨by rfl, ?y2⟩) hS0.out ?_
  case y2 =>
    intro V hV
    have hcmp := b1
    go_simp
  simp only [Act.put, List.setIfInBounds_toArray, List.set_cons_zero, List.set_cons_succ]
  refine wpAnyH_take (i := 2) (oi := { dst := some 27, op := Op.move (Operand.tmp 26), type := 4, pos := "ref.go:223", after := #[{ on := 1, ground := Ground.data }], guard := none }) (v := .bool false) rfl (by kernel_rfl) (by kernel_rfl) (by kernel_rfl) (fun _ _ _ h => h.elim) (Or.inl ⟨by rfl, ?y3⟩) hS0.out ?_
  case y3 =>
    intro V hV
    go_simp
  simp only [Act.put, List.setIfInBounds_toArray, List.set_cons_zero, List.set_cons_succ]
  refine wpAnyH_take (i := 3) (oi := { dst := some 28, op := Op.load 30 (Operand.tmp 3), type := 30, pos := "ref.go:223", after := #[{ on := 2, ground := Ground.guard }], guard := some (2, true) }) (v := undef) rfl (by kernel_rfl) (by kernel_rfl) (by kernel_rfl) (fun _ _ _ h => h.elim) (Or.inr ⟨by rfl, rfl⟩) hS0.out ?_
  simp only [Act.put, List.setIfInBounds_toArray, List.set_cons_zero, List.set_cons_succ]
  refine wpAnyH_take (i := 4) (oi := { dst := some 29, op := Op.move (Operand.tmp 1), type := 9, pos := "ref.go:223", after := #[{ on := 2, ground := Ground.guard }], guard := some (2, true) }) (v := undef) rfl (by kernel_rfl) (by kernel_rfl) (by kernel_rfl) (fun _ _ _ h => h.elim) (Or.inr ⟨by rfl, rfl⟩) hS0.out ?_
  simp only [Act.put, List.setIfInBounds_toArray, List.set_cons_zero, List.set_cons_succ]
  refine wpAnyH_take (i := 5) (oi := { dst := some 30, op := Op.move (Operand.tmp 8), type := 27, pos := "ref.go:223", after := #[{ on := 2, ground := Ground.guard }], guard := some (2, true) }) (v := undef) rfl (by kernel_rfl) (by kernel_rfl) (by kernel_rfl) (fun _ _ _ h => h.elim) (Or.inr ⟨by rfl, rfl⟩) hS0.out ?_
  simp only [Act.put, List.setIfInBounds_toArray, List.set_cons_zero, List.set_cons_succ]
  refine wpAnyH_take (i := 6) (oi := { dst := some 31, op := Op.move (Operand.tmp 9), type := 3, pos := "ref.go:223", after := #[{ on := 2, ground := Ground.guard }], guard := some (2, true) }) (v := undef) rfl (by kernel_rfl) (by kernel_rfl) (by kernel_rfl) (fun _ _ _ h => h.elim) (Or.inr ⟨by rfl, rfl⟩) hS0.out ?_
  simp only [Act.put, List.setIfInBounds_toArray, List.set_cons_zero, List.set_cons_succ]
  refine wpAnyH_take (i := 7) (oi := { dst := some 32, op := Op.indexAddr 27 (Operand.tmp 30) (Operand.tmp 31), type := 0, pos := "ref.go:223", after := #[{ on := 5, ground := Ground.data }, { on := 6, ground := Ground.data }, { on := 2, ground := Ground.guard }], guard := some (2, true) }) (v := undef) rfl (by kernel_rfl) (by kernel_rfl) (by kernel_rfl) (fun _ _ _ h => h.elim) (Or.inr ⟨by rfl, rfl⟩) hS0.out ?_
  simp only [Act.put, List.setIfInBounds_toArray, List.set_cons_zero, List.set_cons_succ]
  refine wpAnyH_take (i := 8) (oi := { dst := some 33, op := Op.load 9 (Operand.tmp 32), type := 9, pos := "ref.go:223", after := #[{ on := 7, ground := Ground.data }, { on := 2, ground := Ground.guard }], guard := some (2, true) }) (v := undef) rfl (by kernel_rfl) (by kernel_rfl) (by kernel_rfl) (fun _ _ _ h => h.elim) (Or.inr ⟨by rfl, rfl⟩) hS0.out ?_
  simp only [Act.put, List.setIfInBounds_toArray, List.set_cons_zero, List.set_cons_succ]
  refine wpAnyH_take (i := 9) (oi := { dst := some 34, op := Op.move (Operand.tmp 2), type := 9, pos := "ref.go:223", after := #[{ on := 2, ground := Ground.guard }], guard := some (2, true) }) (v := undef) rfl (by kernel_rfl) (by kernel_rfl) (by kernel_rfl) (fun _ _ _ h => h.elim) (Or.inr ⟨by rfl, rfl⟩) hS0.out ?_
  simp only [Act.put, List.setIfInBounds_toArray, List.set_cons_zero, List.set_cons_succ]
  refine wpAnyH_take (i := 10) (oi := { dst := some 35, op := Op.call { callee := Callee.value (Operand.func 47), args := #[Operand.tmp 28, Operand.tmp 29, Operand.tmp 33, Operand.tmp 34], argTypes := #[30, 9, 9, 9] }, type := 3, pos := "ref.go:223", after := #[{ on := 3, ground := Ground.data }, { on := 4, ground := Ground.data }, { on := 8, ground := Ground.data }, { on := 9, ground := Ground.data }, { on := 2, ground := Ground.chain }, { on := 2, ground := Ground.guard }], guard := some (2, true) }) (v := undef) rfl (by kernel_rfl) (by kernel_rfl) (by kernel_rfl) (fun _ _ _ h => h.elim) (Or.inr ⟨by rfl, rfl⟩) hS0.out ?_
  simp only [Act.put, List.setIfInBounds_toArray, List.set_cons_zero, List.set_cons_succ]
  refine wpAnyH_take (i := 11) (oi := { dst := some 36, op := Op.binOp BinOp.geq 3 (Operand.tmp 35) (Operand.const (Value.int IntKind.i64 0)) 3, type := 4, pos := "ref.go:223", after := #[{ on := 10, ground := Ground.data }, { on := 2, ground := Ground.guard }], guard := some (2, true) }) (v := undef) rfl (by kernel_rfl) (by kernel_rfl) (by kernel_rfl) (fun _ _ _ h => h.elim) (Or.inr ⟨by rfl, rfl⟩) hS0.out ?_
  simp only [Act.put, List.setIfInBounds_toArray, List.set_cons_zero, List.set_cons_succ]
  refine wpAnyH_take (i := 12) (oi := { dst := some 37, op := Op.pick (Operand.tmp 27) (Operand.tmp 36) (Operand.const (Value.bool false)), type := 4, pos := "ref.go:223", after := #[{ on := 2, ground := Ground.data }, { on := 11, ground := Ground.data }], guard := none }) (v := .bool false) rfl (by kernel_rfl) (by kernel_rfl) (by kernel_rfl) (fun _ _ _ h => h.elim) (Or.inl ⟨by rfl, ?y4⟩) hS0.out ?_
  case y4 =>
    intro V hV
    go_simp
  simp only [Act.put, List.setIfInBounds_toArray, List.set_cons_zero, List.set_cons_succ]
  refine wpAnyH_done (by kernel_rfl) ?_ _
  exact hQ V0 hS0.out
#print axioms sub6n
end Go.Proofs.Ytfickhhfhdhcbaa.Oct
