/-
  Layer 15 (people): the document's people: Subject: the drawn regions.
  Layer 15 (people): the document's people: Subject.
  Layer 15 (people): the document's people: the two side by side: what each says.
  Layer 15 (people): the document's people: the two side by side: the facts, changed.
  Layer 15 (people): the document's people: the two side by side: each call.
  Layer 15 (people): the document's people: PeoplePlays: few, rows told by both.
-/
import Derived.Test.YtfickhhfhdhcbaaPkA
import Derived.Deep.RegionHeld
import Derived.Deep.RegionHeldLaw
/- Layer 15 (people): the document's people: Subject: the drawn regions. -/
namespace Go.Proofs.Ytfickhhfhdhcbaa.Oct
open Go.RowKit
set_option linter.unusedSimpArgs false
set_option linter.unusedVariables false

set_option maxRecDepth 100000 in
set_option maxHeartbeats 4000000 in
theorem sub7 {Q : Exit → Act → World → Prop} {x0 x1 x2 x3 x4 x5 x6 x10 x11 x12 x13 x14 x15 x16 x17 x18 x19 x20 x21 x22 x23 x24 x25 x26 x27 x28 x29 x30 x31 x32 x33 x34 x35 x36 x37 x38 x39 x40 x41 x42 x43 x44 x45 x46 x47 : Value} {ds : List Deferred} {A : World} {b7 B g ln lc i k vc : Nat} {va : Option Addr} {cs : List Value} {su sy : ByteArray} {r : Int} {i0 : TypeInfo} {z : Value}
    (HL : Hid (b7 < B ∧ B ≤ A.heap.size)) (HX : Hid (Blk A b7 42 [.string su, .slice va k vc, iv r])) (HO : Hid (A.ownsRow B 9 1 (.slice va k vc) k cs)) (HIX : Hid ((i : Int) < (ln : Int) ∧ i < ln)) (HCY : Hid (∀ V, Keep (fun j => j = b7 ∨ B ≤ j) A V → Blk V b7 42 [.string su, .slice va k vc, iv r] → V.cell? ⟨g, i, none⟩ = some (.string sy))) (HN : Hid (k ≤ 1000)) (HI0 : Hid (Try.prog.info? 9 = some i0 ∧ i0.zero = some z ∧ i0.size = 1 ∧ i0.bytes = 16 ∧ z.cells.size = 1))
    (hQ : ∀ V1 v2 nb, V1.ownsRow B 9 1 v2 (k + 1) (cs ++ [.string sy]) → Blk V1 b7 42 [.string su, v2, iv r] → Keep (fun j => j = b7 ∨ B ≤ j) A V1 → Q .normal { tmps := #[x0, x1, x2, x3, x4, x5, x6, .pointer (some ⟨b7, 0, none⟩), .slice (some ⟨g, 0, none⟩) ln lc, iv (i : Int), x10, x11, x12, x13, x14, x15, x16, x17, x18, x19, x20, x21, x22, x23, x24, x25, x26, x27, x28, x29, x30, x31, x32, x33, x34, x35, x36, x37, .pointer (some ⟨b7, 1, none⟩), .slice va k vc, .slice (some ⟨g, 0, none⟩) ln lc, iv (i : Int), .pointer (some ⟨g, i, none⟩), .string sy, .slice (some ⟨nb, 0, none⟩) 1 1, v2, .pointer (some ⟨b7, 1, none⟩), x47], defers := ds } V1) :
    (Code.region 7 #[{ dst := some 38, op := Op.fieldAddr 42 (Operand.tmp 7) 1, type := 0, pos := "ref.go:224", after := #[], guard := none }, { dst := some 39, op := Op.load 27 (Operand.tmp 38), type := 27, pos := "ref.go:224", after := #[{ on := 0, ground := Ground.data }], guard := none }, { dst := some 40, op := Op.move (Operand.tmp 8), type := 27, pos := "ref.go:224", after := #[], guard := none }, { dst := some 41, op := Op.move (Operand.tmp 9), type := 3, pos := "ref.go:224", after := #[], guard := none }, { dst := some 42, op := Op.indexAddr 27 (Operand.tmp 40) (Operand.tmp 41), type := 0, pos := "ref.go:224", after := #[{ on := 2, ground := Ground.data }, { on := 3, ground := Ground.data }], guard := none }, { dst := some 43, op := Op.load 9 (Operand.tmp 42), type := 9, pos := "ref.go:224", after := #[{ on := 4, ground := Ground.data }], guard := none }, { dst := some 44, op := Op.buildSlice 27 1 #[(0, Operand.tmp 43)], type := 27, pos := "ref.go:224", after := #[{ on := 5, ground := Ground.data }], guard := none }, { dst := some 45, op := Op.call { callee := Callee.builtin Builtin.append, args := #[Operand.tmp 39, Operand.tmp 44], argTypes := #[27, 27] }, type := 27, pos := "ref.go:224", after := #[{ on := 1, ground := Ground.data }, { on := 6, ground := Ground.data }], guard := none }, { dst := some 46, op := Op.fieldAddr 42 (Operand.tmp 7) 1, type := 0, pos := "ref.go:224", after := #[{ on := 0, ground := Ground.phase }, { on := 1, ground := Ground.phase }, { on := 2, ground := Ground.phase }, { on := 3, ground := Ground.phase }, { on := 4, ground := Ground.phase }, { on := 5, ground := Ground.phase }, { on := 6, ground := Ground.phase }, { on := 7, ground := Ground.phase }], guard := none }, { dst := none, op := Op.store 27 (Operand.tmp 46) (Operand.tmp 45), type := 0, pos := "ref.go:224", after := #[{ on := 8, ground := Ground.data }, { on := 7, ground := Ground.data }, { on := 7, ground := Ground.chain }, { on := 0, ground := Ground.phase }, { on := 1, ground := Ground.phase }, { on := 2, ground := Ground.phase }, { on := 3, ground := Ground.phase }, { on := 4, ground := Ground.phase }, { on := 5, ground := Ground.phase }, { on := 6, ground := Ground.phase }, { on := 7, ground := Ground.phase }], guard := none }] true).wp Try.prog Q { tmps := #[x0, x1, x2, x3, x4, x5, x6, .pointer (some ⟨b7, 0, none⟩), .slice (some ⟨g, 0, none⟩) ln lc, iv (i : Int), x10, x11, x12, x13, x14, x15, x16, x17, x18, x19, x20, x21, x22, x23, x24, x25, x26, x27, x28, x29, x30, x31, x32, x33, x34, x35, x36, x37, x38, x39, x40, x41, x42, x43, x44, x45, x46, x47], defers := ds } A := by
  refine Code.wp_mono (Q := fun x a' w' => match x with | .normal => Q .normal a' w' | _ => False) (by intro x a' w' h; cases x <;> first | exact h | exact h.elim) ?_
  refine wp_region_held (S := fun V => Keep (fun j => j = b7 ∨ B ≤ j) A V) (by kernel_rfl) ?_
  have hS0 : Hid (Keep (fun j => j = b7 ∨ B ≤ j) A A.drew) := (Keep.refl _ A).drew
  change wpAnyH Try.prog .any _ _ (fun V => Keep (fun j => j = b7 ∨ B ≤ j) A V) 10 (Array.replicate 10 false) _ A.drew
  obtain ⟨V0, hV0⟩ : ∃ V0, A.drew = V0 := ⟨_, rfl⟩
  rw [hV0]
  rw [hV0] at hS0
  have hX0 : Hid (Blk V0 b7 42 [.string su, .slice va k vc, iv r]) := by rw [← hV0]; exact HX.out
  have hO0 : Hid (V0.ownsRow B 9 1 (.slice va k vc) k cs) := by rw [← hV0]; exact own_same HO.out (fun _ _ _ => rfl)
  clear hV0
  refine wpAnyH_take (i := 0) (oi := { dst := some 38, op := Op.fieldAddr 42 (Operand.tmp 7) 1, type := 0, pos := "ref.go:224", after := #[], guard := none }) (v := .pointer (some ⟨b7, 1, none⟩)) rfl (by kernel_rfl) (by kernel_rfl) (by kernel_rfl) (fun _ _ _ h => h.elim) (Or.inl ⟨by rfl, ?y1⟩) hS0.out ?_
  case y1 =>
    intro V hV
    go_simp
  simp only [Act.put, List.setIfInBounds_toArray, List.set_cons_zero, List.set_cons_succ]
  refine wpAnyH_take (i := 2) (oi := { dst := some 40, op := Op.move (Operand.tmp 8), type := 27, pos := "ref.go:224", after := #[], guard := none }) (v := .slice (some ⟨g, 0, none⟩) ln lc) rfl (by kernel_rfl) (by kernel_rfl) (by kernel_rfl) (fun _ _ _ h => h.elim) (Or.inl ⟨by rfl, ?y2⟩) hS0.out ?_
  case y2 =>
    intro V hV
    go_simp
  simp only [Act.put, List.setIfInBounds_toArray, List.set_cons_zero, List.set_cons_succ]
  refine wpAnyH_take (i := 3) (oi := { dst := some 41, op := Op.move (Operand.tmp 9), type := 3, pos := "ref.go:224", after := #[], guard := none }) (v := iv (i : Int)) rfl (by kernel_rfl) (by kernel_rfl) (by kernel_rfl) (fun _ _ _ h => h.elim) (Or.inl ⟨by rfl, ?y3⟩) hS0.out ?_
  case y3 =>
    intro V hV
    go_simp
  simp only [Act.put, List.setIfInBounds_toArray, List.set_cons_zero, List.set_cons_succ]
  refine wpAnyH_take (i := 4) (oi := { dst := some 42, op := Op.indexAddr 27 (Operand.tmp 40) (Operand.tmp 41), type := 0, pos := "ref.go:224", after := #[{ on := 2, ground := Ground.data }, { on := 3, ground := Ground.data }], guard := none }) (v := .pointer (some ⟨g, i, none⟩)) rfl (by kernel_rfl) (by kernel_rfl) (by kernel_rfl) (fun _ _ _ h => h.elim) (Or.inl ⟨by rfl, ?y4⟩) hS0.out ?_
  case y4 =>
    intro V hV
    have h1 := HIX.out.1
    have h2 := HIX.out.2
    go_simp
  simp only [Act.put, List.setIfInBounds_toArray, List.set_cons_zero, List.set_cons_succ]
  refine wpAnyH_ready (rs := [1, 5]) (by kernel_rfl) (by simp) (AllReadyH.cons (i := 1) (o := { dst := some 39, op := Op.load 27 (Operand.tmp 38), type := 27, pos := "ref.go:224", after := #[{ on := 0, ground := Ground.data }], guard := none }) rfl ?_ (AllReadyH.cons (i := 5) (o := { dst := some 43, op := Op.load 9 (Operand.tmp 42), type := 9, pos := "ref.go:224", after := #[{ on := 4, ground := Ground.data }], guard := none }) rfl ?_ AllReadyH.nil))
  · intro K1 hK1
    rw [if_pos (by rfl)]
    have hc : V0.cell? ⟨b7, 1, none⟩ = some (.slice va k vc) := hX0.out.cell rfl
    go_wp2
    clear hc
    refine hK1.out _ _ hS0.out ?_
    clear hK1
    intro _
    try simp only [Act.put, List.setIfInBounds_toArray, List.set_cons_zero, List.set_cons_succ]
    refine wpAnyH_ready (rs := [5]) (by kernel_rfl) (by simp) (AllReadyH.cons (i := 5) (o := { dst := some 43, op := Op.load 9 (Operand.tmp 42), type := 9, pos := "ref.go:224", after := #[{ on := 4, ground := Ground.data }], guard := none }) rfl ?_ AllReadyH.nil)
    · intro K1 hK1
      rw [if_pos (by rfl)]
      have hc : V0.cell? ⟨g, i, none⟩ = some (.string sy) := HCY.out V0 hS0.out hX0.out
      go_wp2
      clear hc
      refine hK1.out _ _ hS0.out ?_
      clear hK1
      intro _
      try simp only [Act.put, List.setIfInBounds_toArray, List.set_cons_zero, List.set_cons_succ]
      refine wpAnyH_ready (rs := [6]) (by kernel_rfl) (by simp) (AllReadyH.cons (i := 6) (o := { dst := some 44, op := Op.buildSlice 27 1 #[(0, Operand.tmp 43)], type := 27, pos := "ref.go:224", after := #[{ on := 5, ground := Ground.data }], guard := none }) rfl ?_ AllReadyH.nil)
      · intro K1 hK1
        refine step_bs (by rfl) 27 (.tmp 43) _ rfl rfl (run_bs27 sy _) ?_
        have hr3 : V0.heap.size ≥ A.heap.size := hS0.out.size
        obtain ⟨V3, hv3⟩ : ∃ V, V0.alloc (.cells #[.string sy] 9) = V := ⟨_, rfl⟩
        have hl3 : Below V0.heap.size V0 V3 := by rw [← hv3]; exact below_al _ _
        have hS3 : Hid (Keep (fun j => j = b7 ∨ B ≤ j) A V3) := keepB hS0.out (hl3.mono hr3)
        have hX3 : Hid (Blk V3 b7 42 [.string su, .slice va k vc, iv r]) := hX0.out.below hl3 hX0.out.lt
        have hO3 : Hid (V3.ownsRow B 9 1 (.slice va k vc) k cs) := ownsRow_below hO0.out hl3
        obtain ⟨nb, hnb⟩ : ∃ m, V0.heap.size = m := ⟨_, rfl⟩
        have hM3 : Hid (Rx V3 (some ⟨nb, 0, none⟩) 1 1 [.string sy]) := by rw [← hv3, ← hnb]; exact ⟨rfl, by simp [Value.oneCell'], fun _ => ⟨_, 0, rfl, range_new V0 [.string sy] 9⟩⟩
        rw [hv3, hnb]
        clear hv3 hnb hr3 hl3
        refine hK1.out _ _ hS3.out ?_
        clear hK1
        intro _
        try simp only [Act.put, List.setIfInBounds_toArray, List.set_cons_zero, List.set_cons_succ]
        refine wpAnyH_ready (rs := [7]) (by kernel_rfl) (by simp) (AllReadyH.cons (i := 7) (o := { dst := some 45, op := Op.call { callee := Callee.builtin Builtin.append, args := #[Operand.tmp 39, Operand.tmp 44], argTypes := #[27, 27] }, type := 27, pos := "ref.go:224", after := #[{ on := 1, ground := Ground.data }, { on := 6, ground := Ground.data }], guard := none }) rfl ?_ AllReadyH.nil)
        · intro K1 hK1
          refine step_append_g (by rfl) (.tmp 39) (.tmp 44) 27 rfl _ 9 i0 z 1 B Try.underlying27 HI0.out.1 HI0.out.2.1 HI0.out.2.2.1 (by have := HI0.out.2.2.2.1; omega) HI0.out.2.2.2.2 (by omega) _ k cs hO3.out (some ⟨nb, 0, none⟩) 1 1 [.string sy] rfl rfl hM3.out (Nat.le_trans HL.out.2 hS3.out.size) (by have := HN.out; omega) ?_
          intro v4 V4 ho4 hg4 hp4
          have hS4 : Hid (Keep (fun j => j = b7 ∨ B ≤ j) A V4) := hS3.out.trans (Keep.grownO (S := fun j => j = b7 ∨ B ≤ j) hg4.out (fun b e => .inr (hO3.out.lt b e).1)) (fun _ hj _ => hj)
          have hX4 : Hid (Blk V4 b7 42 [.string su, .slice va k vc, iv r]) := hX3.out.kept hg4.out (fun e => by have h1 := (hO3.out.lt b7 e.symm).1; have h2 := HL.out.1; omega)
          clear hg4 hp4
          refine hK1.out _ _ hS4.out ?_
          clear hK1
          intro _
          try simp only [Act.put, List.setIfInBounds_toArray, List.set_cons_zero, List.set_cons_succ]
          refine wpAnyH_take (i := 8) (oi := { dst := some 46, op := Op.fieldAddr 42 (Operand.tmp 7) 1, type := 0, pos := "ref.go:224", after := #[{ on := 0, ground := Ground.phase }, { on := 1, ground := Ground.phase }, { on := 2, ground := Ground.phase }, { on := 3, ground := Ground.phase }, { on := 4, ground := Ground.phase }, { on := 5, ground := Ground.phase }, { on := 6, ground := Ground.phase }, { on := 7, ground := Ground.phase }], guard := none }) (v := .pointer (some ⟨b7, 1, none⟩)) rfl (by kernel_rfl) (by kernel_rfl) (by kernel_rfl) (fun _ _ _ h => h.elim) (Or.inl ⟨by rfl, ?y5⟩) hS4.out ?_
          case y5 =>
            intro V hV
            go_simp
          simp only [Act.put, List.setIfInBounds_toArray, List.set_cons_zero, List.set_cons_succ]
          refine wpAnyH_ready (rs := [9]) (by kernel_rfl) (by simp) (AllReadyH.cons (i := 9) (o := { dst := none, op := Op.store 27 (Operand.tmp 46) (Operand.tmp 45), type := 0, pos := "ref.go:224", after := #[{ on := 8, ground := Ground.data }, { on := 7, ground := Ground.data }, { on := 7, ground := Ground.chain }, { on := 0, ground := Ground.phase }, { on := 1, ground := Ground.phase }, { on := 2, ground := Ground.phase }, { on := 3, ground := Ground.phase }, { on := 4, ground := Ground.phase }, { on := 5, ground := Ground.phase }, { on := 6, ground := Ground.phase }, { on := 7, ground := Ground.phase }], guard := none }) rfl ?_ AllReadyH.nil)
          · intro K1 hK1
            refine step_st (by rfl) 27 (.tmp 46) (.tmp 45) rfl b7 1 v4 42 _ rfl rfl hX4.out (by simp) (by kernel_rfl) (own_slice ho4.out).1 (own_slice ho4.out).2 ?_
            obtain ⟨V5, hv5⟩ : ∃ V, V4.setCell ⟨b7, 1, none⟩ v4 = V := ⟨_, rfl⟩
            have hg5 : V4.grownBy V5 (some b7) := by rw [← hv5]; exact grown_setCell _ _ _ _
            have hS5 : Hid (Keep (fun j => j = b7 ∨ B ≤ j) A V5) := hS4.out.trans (Keep.grown (S := fun j => j = b7 ∨ B ≤ j) hg5 (.inl rfl)) (fun _ hj _ => hj)
            have hX5 : Hid (Blk V5 b7 42 [.string su, v4, iv r]) := by rw [← hv5]; exact hX4.out.set 1 v4
            have hO5 : Hid (V5.ownsRow B 9 1 v4 (k + 1) (cs ++ [.string sy])) := own_same ho4.out (fun g h1 h2 => hg5.block g h2 (fun e => by cases e; have := HL.out.1; omega))
            rw [hv5]
            clear hv5 hg5
            refine hK1.out _ _ hS5.out ?_
            clear hK1
            intro _
            try simp only [Act.put, List.setIfInBounds_toArray, List.set_cons_zero, List.set_cons_succ]
            refine wpAnyH_done (by kernel_rfl) ?_ _
            exact hQ V5 _ _ hO5.out hX5.out hS5.out
  · intro K1 hK1
    rw [if_pos (by rfl)]
    have hc : V0.cell? ⟨g, i, none⟩ = some (.string sy) := HCY.out V0 hS0.out hX0.out
    go_wp2
    clear hc
    refine hK1.out _ _ hS0.out ?_
    clear hK1
    intro _
    try simp only [Act.put, List.setIfInBounds_toArray, List.set_cons_zero, List.set_cons_succ]
    refine wpAnyH_ready (rs := [1, 6]) (by kernel_rfl) (by simp) (AllReadyH.cons (i := 1) (o := { dst := some 39, op := Op.load 27 (Operand.tmp 38), type := 27, pos := "ref.go:224", after := #[{ on := 0, ground := Ground.data }], guard := none }) rfl ?_ (AllReadyH.cons (i := 6) (o := { dst := some 44, op := Op.buildSlice 27 1 #[(0, Operand.tmp 43)], type := 27, pos := "ref.go:224", after := #[{ on := 5, ground := Ground.data }], guard := none }) rfl ?_ AllReadyH.nil))
    · intro K1 hK1
      rw [if_pos (by rfl)]
      have hc : V0.cell? ⟨b7, 1, none⟩ = some (.slice va k vc) := hX0.out.cell rfl
      go_wp2
      clear hc
      refine hK1.out _ _ hS0.out ?_
      clear hK1
      intro _
      try simp only [Act.put, List.setIfInBounds_toArray, List.set_cons_zero, List.set_cons_succ]
      refine wpAnyH_ready (rs := [6]) (by kernel_rfl) (by simp) (AllReadyH.cons (i := 6) (o := { dst := some 44, op := Op.buildSlice 27 1 #[(0, Operand.tmp 43)], type := 27, pos := "ref.go:224", after := #[{ on := 5, ground := Ground.data }], guard := none }) rfl ?_ AllReadyH.nil)
      · intro K1 hK1
        refine step_bs (by rfl) 27 (.tmp 43) _ rfl rfl (run_bs27 sy _) ?_
        have hr3 : V0.heap.size ≥ A.heap.size := hS0.out.size
        obtain ⟨V3, hv3⟩ : ∃ V, V0.alloc (.cells #[.string sy] 9) = V := ⟨_, rfl⟩
        have hl3 : Below V0.heap.size V0 V3 := by rw [← hv3]; exact below_al _ _
        have hS3 : Hid (Keep (fun j => j = b7 ∨ B ≤ j) A V3) := keepB hS0.out (hl3.mono hr3)
        have hX3 : Hid (Blk V3 b7 42 [.string su, .slice va k vc, iv r]) := hX0.out.below hl3 hX0.out.lt
        have hO3 : Hid (V3.ownsRow B 9 1 (.slice va k vc) k cs) := ownsRow_below hO0.out hl3
        obtain ⟨nb, hnb⟩ : ∃ m, V0.heap.size = m := ⟨_, rfl⟩
        have hM3 : Hid (Rx V3 (some ⟨nb, 0, none⟩) 1 1 [.string sy]) := by rw [← hv3, ← hnb]; exact ⟨rfl, by simp [Value.oneCell'], fun _ => ⟨_, 0, rfl, range_new V0 [.string sy] 9⟩⟩
        rw [hv3, hnb]
        clear hv3 hnb hr3 hl3
        refine hK1.out _ _ hS3.out ?_
        clear hK1
        intro _
        try simp only [Act.put, List.setIfInBounds_toArray, List.set_cons_zero, List.set_cons_succ]
        refine wpAnyH_ready (rs := [7]) (by kernel_rfl) (by simp) (AllReadyH.cons (i := 7) (o := { dst := some 45, op := Op.call { callee := Callee.builtin Builtin.append, args := #[Operand.tmp 39, Operand.tmp 44], argTypes := #[27, 27] }, type := 27, pos := "ref.go:224", after := #[{ on := 1, ground := Ground.data }, { on := 6, ground := Ground.data }], guard := none }) rfl ?_ AllReadyH.nil)
        · intro K1 hK1
          refine step_append_g (by rfl) (.tmp 39) (.tmp 44) 27 rfl _ 9 i0 z 1 B Try.underlying27 HI0.out.1 HI0.out.2.1 HI0.out.2.2.1 (by have := HI0.out.2.2.2.1; omega) HI0.out.2.2.2.2 (by omega) _ k cs hO3.out (some ⟨nb, 0, none⟩) 1 1 [.string sy] rfl rfl hM3.out (Nat.le_trans HL.out.2 hS3.out.size) (by have := HN.out; omega) ?_
          intro v4 V4 ho4 hg4 hp4
          have hS4 : Hid (Keep (fun j => j = b7 ∨ B ≤ j) A V4) := hS3.out.trans (Keep.grownO (S := fun j => j = b7 ∨ B ≤ j) hg4.out (fun b e => .inr (hO3.out.lt b e).1)) (fun _ hj _ => hj)
          have hX4 : Hid (Blk V4 b7 42 [.string su, .slice va k vc, iv r]) := hX3.out.kept hg4.out (fun e => by have h1 := (hO3.out.lt b7 e.symm).1; have h2 := HL.out.1; omega)
          clear hg4 hp4
          refine hK1.out _ _ hS4.out ?_
          clear hK1
          intro _
          try simp only [Act.put, List.setIfInBounds_toArray, List.set_cons_zero, List.set_cons_succ]
          refine wpAnyH_take (i := 8) (oi := { dst := some 46, op := Op.fieldAddr 42 (Operand.tmp 7) 1, type := 0, pos := "ref.go:224", after := #[{ on := 0, ground := Ground.phase }, { on := 1, ground := Ground.phase }, { on := 2, ground := Ground.phase }, { on := 3, ground := Ground.phase }, { on := 4, ground := Ground.phase }, { on := 5, ground := Ground.phase }, { on := 6, ground := Ground.phase }, { on := 7, ground := Ground.phase }], guard := none }) (v := .pointer (some ⟨b7, 1, none⟩)) rfl (by kernel_rfl) (by kernel_rfl) (by kernel_rfl) (fun _ _ _ h => h.elim) (Or.inl ⟨by rfl, ?y6⟩) hS4.out ?_
          case y6 =>
            intro V hV
            go_simp
          simp only [Act.put, List.setIfInBounds_toArray, List.set_cons_zero, List.set_cons_succ]
          refine wpAnyH_ready (rs := [9]) (by kernel_rfl) (by simp) (AllReadyH.cons (i := 9) (o := { dst := none, op := Op.store 27 (Operand.tmp 46) (Operand.tmp 45), type := 0, pos := "ref.go:224", after := #[{ on := 8, ground := Ground.data }, { on := 7, ground := Ground.data }, { on := 7, ground := Ground.chain }, { on := 0, ground := Ground.phase }, { on := 1, ground := Ground.phase }, { on := 2, ground := Ground.phase }, { on := 3, ground := Ground.phase }, { on := 4, ground := Ground.phase }, { on := 5, ground := Ground.phase }, { on := 6, ground := Ground.phase }, { on := 7, ground := Ground.phase }], guard := none }) rfl ?_ AllReadyH.nil)
          · intro K1 hK1
            refine step_st (by rfl) 27 (.tmp 46) (.tmp 45) rfl b7 1 v4 42 _ rfl rfl hX4.out (by simp) (by kernel_rfl) (own_slice ho4.out).1 (own_slice ho4.out).2 ?_
            obtain ⟨V5, hv5⟩ : ∃ V, V4.setCell ⟨b7, 1, none⟩ v4 = V := ⟨_, rfl⟩
            have hg5 : V4.grownBy V5 (some b7) := by rw [← hv5]; exact grown_setCell _ _ _ _
            have hS5 : Hid (Keep (fun j => j = b7 ∨ B ≤ j) A V5) := hS4.out.trans (Keep.grown (S := fun j => j = b7 ∨ B ≤ j) hg5 (.inl rfl)) (fun _ hj _ => hj)
            have hX5 : Hid (Blk V5 b7 42 [.string su, v4, iv r]) := by rw [← hv5]; exact hX4.out.set 1 v4
            have hO5 : Hid (V5.ownsRow B 9 1 v4 (k + 1) (cs ++ [.string sy])) := own_same ho4.out (fun g h1 h2 => hg5.block g h2 (fun e => by cases e; have := HL.out.1; omega))
            rw [hv5]
            clear hv5 hg5
            refine hK1.out _ _ hS5.out ?_
            clear hK1
            intro _
            try simp only [Act.put, List.setIfInBounds_toArray, List.set_cons_zero, List.set_cons_succ]
            refine wpAnyH_done (by kernel_rfl) ?_ _
            exact hQ V5 _ _ hO5.out hX5.out hS5.out
    · intro K1 hK1
      refine step_bs (by rfl) 27 (.tmp 43) _ rfl rfl (run_bs27 sy _) ?_
      have hr2 : V0.heap.size ≥ A.heap.size := hS0.out.size
      obtain ⟨V2, hv2⟩ : ∃ V, V0.alloc (.cells #[.string sy] 9) = V := ⟨_, rfl⟩
      have hl2 : Below V0.heap.size V0 V2 := by rw [← hv2]; exact below_al _ _
      have hS2 : Hid (Keep (fun j => j = b7 ∨ B ≤ j) A V2) := keepB hS0.out (hl2.mono hr2)
      have hX2 : Hid (Blk V2 b7 42 [.string su, .slice va k vc, iv r]) := hX0.out.below hl2 hX0.out.lt
      have hO2 : Hid (V2.ownsRow B 9 1 (.slice va k vc) k cs) := ownsRow_below hO0.out hl2
      obtain ⟨nb, hnb⟩ : ∃ m, V0.heap.size = m := ⟨_, rfl⟩
      have hM2 : Hid (Rx V2 (some ⟨nb, 0, none⟩) 1 1 [.string sy]) := by rw [← hv2, ← hnb]; exact ⟨rfl, by simp [Value.oneCell'], fun _ => ⟨_, 0, rfl, range_new V0 [.string sy] 9⟩⟩
      rw [hv2, hnb]
      clear hv2 hnb hr2 hl2
      refine hK1.out _ _ hS2.out ?_
      clear hK1
      intro _
      try simp only [Act.put, List.setIfInBounds_toArray, List.set_cons_zero, List.set_cons_succ]
      refine wpAnyH_ready (rs := [1]) (by kernel_rfl) (by simp) (AllReadyH.cons (i := 1) (o := { dst := some 39, op := Op.load 27 (Operand.tmp 38), type := 27, pos := "ref.go:224", after := #[{ on := 0, ground := Ground.data }], guard := none }) rfl ?_ AllReadyH.nil)
      · intro K1 hK1
        rw [if_pos (by rfl)]
        have hc : V2.cell? ⟨b7, 1, none⟩ = some (.slice va k vc) := hX2.out.cell rfl
        go_wp2
        clear hc
        refine hK1.out _ _ hS2.out ?_
        clear hK1
        intro _
        try simp only [Act.put, List.setIfInBounds_toArray, List.set_cons_zero, List.set_cons_succ]
        refine wpAnyH_ready (rs := [7]) (by kernel_rfl) (by simp) (AllReadyH.cons (i := 7) (o := { dst := some 45, op := Op.call { callee := Callee.builtin Builtin.append, args := #[Operand.tmp 39, Operand.tmp 44], argTypes := #[27, 27] }, type := 27, pos := "ref.go:224", after := #[{ on := 1, ground := Ground.data }, { on := 6, ground := Ground.data }], guard := none }) rfl ?_ AllReadyH.nil)
        · intro K1 hK1
          refine step_append_g (by rfl) (.tmp 39) (.tmp 44) 27 rfl _ 9 i0 z 1 B Try.underlying27 HI0.out.1 HI0.out.2.1 HI0.out.2.2.1 (by have := HI0.out.2.2.2.1; omega) HI0.out.2.2.2.2 (by omega) _ k cs hO2.out (some ⟨nb, 0, none⟩) 1 1 [.string sy] rfl rfl hM2.out (Nat.le_trans HL.out.2 hS2.out.size) (by have := HN.out; omega) ?_
          intro v4 V4 ho4 hg4 hp4
          have hS4 : Hid (Keep (fun j => j = b7 ∨ B ≤ j) A V4) := hS2.out.trans (Keep.grownO (S := fun j => j = b7 ∨ B ≤ j) hg4.out (fun b e => .inr (hO2.out.lt b e).1)) (fun _ hj _ => hj)
          have hX4 : Hid (Blk V4 b7 42 [.string su, .slice va k vc, iv r]) := hX2.out.kept hg4.out (fun e => by have h1 := (hO2.out.lt b7 e.symm).1; have h2 := HL.out.1; omega)
          clear hg4 hp4
          refine hK1.out _ _ hS4.out ?_
          clear hK1
          intro _
          try simp only [Act.put, List.setIfInBounds_toArray, List.set_cons_zero, List.set_cons_succ]
          refine wpAnyH_take (i := 8) (oi := { dst := some 46, op := Op.fieldAddr 42 (Operand.tmp 7) 1, type := 0, pos := "ref.go:224", after := #[{ on := 0, ground := Ground.phase }, { on := 1, ground := Ground.phase }, { on := 2, ground := Ground.phase }, { on := 3, ground := Ground.phase }, { on := 4, ground := Ground.phase }, { on := 5, ground := Ground.phase }, { on := 6, ground := Ground.phase }, { on := 7, ground := Ground.phase }], guard := none }) (v := .pointer (some ⟨b7, 1, none⟩)) rfl (by kernel_rfl) (by kernel_rfl) (by kernel_rfl) (fun _ _ _ h => h.elim) (Or.inl ⟨by rfl, ?y7⟩) hS4.out ?_
          case y7 =>
            intro V hV
            go_simp
          simp only [Act.put, List.setIfInBounds_toArray, List.set_cons_zero, List.set_cons_succ]
          refine wpAnyH_ready (rs := [9]) (by kernel_rfl) (by simp) (AllReadyH.cons (i := 9) (o := { dst := none, op := Op.store 27 (Operand.tmp 46) (Operand.tmp 45), type := 0, pos := "ref.go:224", after := #[{ on := 8, ground := Ground.data }, { on := 7, ground := Ground.data }, { on := 7, ground := Ground.chain }, { on := 0, ground := Ground.phase }, { on := 1, ground := Ground.phase }, { on := 2, ground := Ground.phase }, { on := 3, ground := Ground.phase }, { on := 4, ground := Ground.phase }, { on := 5, ground := Ground.phase }, { on := 6, ground := Ground.phase }, { on := 7, ground := Ground.phase }], guard := none }) rfl ?_ AllReadyH.nil)
          · intro K1 hK1
            refine step_st (by rfl) 27 (.tmp 46) (.tmp 45) rfl b7 1 v4 42 _ rfl rfl hX4.out (by simp) (by kernel_rfl) (own_slice ho4.out).1 (own_slice ho4.out).2 ?_
            obtain ⟨V5, hv5⟩ : ∃ V, V4.setCell ⟨b7, 1, none⟩ v4 = V := ⟨_, rfl⟩
            have hg5 : V4.grownBy V5 (some b7) := by rw [← hv5]; exact grown_setCell _ _ _ _
            have hS5 : Hid (Keep (fun j => j = b7 ∨ B ≤ j) A V5) := hS4.out.trans (Keep.grown (S := fun j => j = b7 ∨ B ≤ j) hg5 (.inl rfl)) (fun _ hj _ => hj)
            have hX5 : Hid (Blk V5 b7 42 [.string su, v4, iv r]) := by rw [← hv5]; exact hX4.out.set 1 v4
            have hO5 : Hid (V5.ownsRow B 9 1 v4 (k + 1) (cs ++ [.string sy])) := own_same ho4.out (fun g h1 h2 => hg5.block g h2 (fun e => by cases e; have := HL.out.1; omega))
            rw [hv5]
            clear hv5 hg5
            refine hK1.out _ _ hS5.out ?_
            clear hK1
            intro _
            try simp only [Act.put, List.setIfInBounds_toArray, List.set_cons_zero, List.set_cons_succ]
            refine wpAnyH_done (by kernel_rfl) ?_ _
            exact hQ V5 _ _ hO5.out hX5.out hS5.out
set_option maxRecDepth 100000 in
set_option maxHeartbeats 4000000 in
theorem sub6y {Q : Exit → Act → World → Prop} {x0 x4 x5 x6 x7 x10 x11 x12 x13 x14 x15 x16 x17 x18 x19 x20 x21 x22 x23 x24 x25 x26 x27 x28 x29 x30 x31 x32 x33 x34 x35 x36 x37 x38 x39 x40 x41 x42 x43 x44 x45 x46 x47 : Value} {ds : List Deferred} {A : World} {b g ln lc i nu uc no oc m c : Nat} {ua oa a : Option Addr} {so sy su : ByteArray} {kf : Int}
    (HB2 : Hid (Blk A b 30 [.slice ua nu uc, .slice oa no oc, .slice a m c])) (HIX : Hid ((i : Int) < (ln : Int) ∧ i < ln)) (HCY : Hid (A.cell? ⟨g, i, none⟩ = some (.string sy) ∧ g < A.heap.size)) (HRO : Hid (∀ V, Below A.heap.size A V → Calls Try.prog 47 #[.agg #[.slice ua nu uc, .slice oa no oc, .slice a m c], .string so, .string sy, .string su] V fun e V2 => e = .returned (iv kf) ∧ Below V.heap.size V V2)) (b1 : su.toList.isEmpty = false)
    (hQ : ∀ V1, Below A.heap.size A V1 → Q .normal { tmps := #[x0, .string so, .string su, .pointer (some ⟨b, 0, none⟩), x4, x5, x6, x7, .slice (some ⟨g, 0, none⟩) ln lc, iv (i : Int), x10, x11, x12, x13, x14, x15, x16, x17, x18, x19, x20, x21, x22, x23, x24, .string su, .bool true, .bool true, .agg [.slice ua nu uc, .slice oa no oc, .slice a m c].toArray, .string so, .slice (some ⟨g, 0, none⟩) ln lc, iv (i : Int), .pointer (some ⟨g, i, none⟩), .string sy, .string su, iv kf, .bool (decide (0 ≤ kf)), .bool (decide (0 ≤ kf)), x38, x39, x40, x41, x42, x43, x44, x45, x46, x47], defers := ds } V1) :
    (Code.region 6 #[{ dst := some 25, op := Op.move (Operand.tmp 2), type := 9, pos := "ref.go:223", after := #[], guard := none }, { dst := some 26, op := Op.binOp BinOp.neq 9 (Operand.tmp 25) (Operand.const (Value.string { data := #[] })) 9, type := 4, pos := "ref.go:223", after := #[{ on := 0, ground := Ground.data }], guard := none }, { dst := some 27, op := Op.move (Operand.tmp 26), type := 4, pos := "ref.go:223", after := #[{ on := 1, ground := Ground.data }], guard := none }, { dst := some 28, op := Op.load 30 (Operand.tmp 3), type := 30, pos := "ref.go:223", after := #[{ on := 2, ground := Ground.guard }], guard := some (2, true) }, { dst := some 29, op := Op.move (Operand.tmp 1), type := 9, pos := "ref.go:223", after := #[{ on := 2, ground := Ground.guard }], guard := some (2, true) }, { dst := some 30, op := Op.move (Operand.tmp 8), type := 27, pos := "ref.go:223", after := #[{ on := 2, ground := Ground.guard }], guard := some (2, true) }, { dst := some 31, op := Op.move (Operand.tmp 9), type := 3, pos := "ref.go:223", after := #[{ on := 2, ground := Ground.guard }], guard := some (2, true) }, { dst := some 32, op := Op.indexAddr 27 (Operand.tmp 30) (Operand.tmp 31), type := 0, pos := "ref.go:223", after := #[{ on := 5, ground := Ground.data }, { on := 6, ground := Ground.data }, { on := 2, ground := Ground.guard }], guard := some (2, true) }, { dst := some 33, op := Op.load 9 (Operand.tmp 32), type := 9, pos := "ref.go:223", after := #[{ on := 7, ground := Ground.data }, { on := 2, ground := Ground.guard }], guard := some (2, true) }, { dst := some 34, op := Op.move (Operand.tmp 2), type := 9, pos := "ref.go:223", after := #[{ on := 2, ground := Ground.guard }], guard := some (2, true) }, { dst := some 35, op := Op.call { callee := Callee.value (Operand.func 47), args := #[Operand.tmp 28, Operand.tmp 29, Operand.tmp 33, Operand.tmp 34], argTypes := #[30, 9, 9, 9] }, type := 3, pos := "ref.go:223", after := #[{ on := 3, ground := Ground.data }, { on := 4, ground := Ground.data }, { on := 8, ground := Ground.data }, { on := 9, ground := Ground.data }, { on := 2, ground := Ground.chain }, { on := 2, ground := Ground.guard }], guard := some (2, true) }, { dst := some 36, op := Op.binOp BinOp.geq 3 (Operand.tmp 35) (Operand.const (Value.int IntKind.i64 0)) 3, type := 4, pos := "ref.go:223", after := #[{ on := 10, ground := Ground.data }, { on := 2, ground := Ground.guard }], guard := some (2, true) }, { dst := some 37, op := Op.pick (Operand.tmp 27) (Operand.tmp 36) (Operand.const (Value.bool false)), type := 4, pos := "ref.go:223", after := #[{ on := 2, ground := Ground.data }, { on := 11, ground := Ground.data }], guard := none }] true).wp Try.prog Q { tmps := #[x0, .string so, .string su, .pointer (some ⟨b, 0, none⟩), x4, x5, x6, x7, .slice (some ⟨g, 0, none⟩) ln lc, iv (i : Int), x10, x11, x12, x13, x14, x15, x16, x17, x18, x19, x20, x21, x22, x23, x24, x25, x26, x27, x28, x29, x30, x31, x32, x33, x34, x35, x36, x37, x38, x39, x40, x41, x42, x43, x44, x45, x46, x47], defers := ds } A := by
  refine Code.wp_mono (Q := fun x a' w' => match x with | .normal => Q .normal a' w' | _ => False) (by intro x a' w' h; cases x <;> first | exact h | exact h.elim) ?_
  refine wp_region_held (S := fun V => Below A.heap.size A V) (by kernel_rfl) ?_
  have hS0 : Hid (Below A.heap.size A A.drew) := below_drew0 A
  change wpAnyH Try.prog .any _ _ (fun V => Below A.heap.size A V) 13 (Array.replicate 13 false) _ A.drew
  obtain ⟨V0, hV0⟩ : ∃ V0, A.drew = V0 := ⟨_, rfl⟩
  rw [hV0]
  rw [hV0] at hS0
  clear hV0
  refine wpAnyH_take (i := 0) (oi := { dst := some 25, op := Op.move (Operand.tmp 2), type := 9, pos := "ref.go:223", after := #[], guard := none }) (v := .string su) rfl (by kernel_rfl) (by kernel_rfl) (by kernel_rfl) (fun _ _ _ h => h.elim) (Or.inl ⟨by rfl, ?y1⟩) hS0.out ?_
  case y1 =>
    intro V hV
    go_simp
  simp only [Act.put, List.setIfInBounds_toArray, List.set_cons_zero, List.set_cons_succ]
  refine wpAnyH_take (i := 1) (oi := { dst := some 26, op := Op.binOp BinOp.neq 9 (Operand.tmp 25) (Operand.const (Value.string { data := #[] })) 9, type := 4, pos := "ref.go:223", after := #[{ on := 0, ground := Ground.data }], guard := none }) (v := .bool true) rfl (by kernel_rfl) (by kernel_rfl) (by kernel_rfl) (fun _ _ _ h => h.elim) (Or.inl ⟨by rfl, ?y2⟩) hS0.out ?_
  case y2 =>
    intro V hV
    have hcmp := b1
    go_simp
  simp only [Act.put, List.setIfInBounds_toArray, List.set_cons_zero, List.set_cons_succ]
  refine wpAnyH_take (i := 2) (oi := { dst := some 27, op := Op.move (Operand.tmp 26), type := 4, pos := "ref.go:223", after := #[{ on := 1, ground := Ground.data }], guard := none }) (v := .bool true) rfl (by kernel_rfl) (by kernel_rfl) (by kernel_rfl) (fun _ _ _ h => h.elim) (Or.inl ⟨by rfl, ?y3⟩) hS0.out ?_
  case y3 =>
    intro V hV
    go_simp
  simp only [Act.put, List.setIfInBounds_toArray, List.set_cons_zero, List.set_cons_succ]
  refine wpAnyH_take (i := 3) (oi := { dst := some 28, op := Op.load 30 (Operand.tmp 3), type := 30, pos := "ref.go:223", after := #[{ on := 2, ground := Ground.guard }], guard := some (2, true) }) (v := .agg [.slice ua nu uc, .slice oa no oc, .slice a m c].toArray) rfl (by kernel_rfl) (by kernel_rfl) (by kernel_rfl) (fun _ _ _ h => h.elim) (yieldsIf_load_mid (by rfl) _ _ rfl _ _ rfl ([.slice ua nu uc, .slice oa no oc, .slice a m c]) _ (fun V hV => rangeAt_same ((by have := HB2.out.range 0 3; simpa using this)) ((show Below A.heap.size A V from hV).block _ (HB2.out.lt))) Try.underlying30 rfl (size30)) hS0.out ?_
  simp only [Act.put, List.setIfInBounds_toArray, List.set_cons_zero, List.set_cons_succ]
  refine wpAnyH_take (i := 4) (oi := { dst := some 29, op := Op.move (Operand.tmp 1), type := 9, pos := "ref.go:223", after := #[{ on := 2, ground := Ground.guard }], guard := some (2, true) }) (v := .string so) rfl (by kernel_rfl) (by kernel_rfl) (by kernel_rfl) (fun _ _ _ h => h.elim) (Or.inl ⟨by rfl, ?y4⟩) hS0.out ?_
  case y4 =>
    intro V hV
    go_simp
  simp only [Act.put, List.setIfInBounds_toArray, List.set_cons_zero, List.set_cons_succ]
  refine wpAnyH_take (i := 5) (oi := { dst := some 30, op := Op.move (Operand.tmp 8), type := 27, pos := "ref.go:223", after := #[{ on := 2, ground := Ground.guard }], guard := some (2, true) }) (v := .slice (some ⟨g, 0, none⟩) ln lc) rfl (by kernel_rfl) (by kernel_rfl) (by kernel_rfl) (fun _ _ _ h => h.elim) (Or.inl ⟨by rfl, ?y5⟩) hS0.out ?_
  case y5 =>
    intro V hV
    go_simp
  simp only [Act.put, List.setIfInBounds_toArray, List.set_cons_zero, List.set_cons_succ]
  refine wpAnyH_take (i := 6) (oi := { dst := some 31, op := Op.move (Operand.tmp 9), type := 3, pos := "ref.go:223", after := #[{ on := 2, ground := Ground.guard }], guard := some (2, true) }) (v := iv (i : Int)) rfl (by kernel_rfl) (by kernel_rfl) (by kernel_rfl) (fun _ _ _ h => h.elim) (Or.inl ⟨by rfl, ?y6⟩) hS0.out ?_
  case y6 =>
    intro V hV
    go_simp
  simp only [Act.put, List.setIfInBounds_toArray, List.set_cons_zero, List.set_cons_succ]
  refine wpAnyH_take (i := 7) (oi := { dst := some 32, op := Op.indexAddr 27 (Operand.tmp 30) (Operand.tmp 31), type := 0, pos := "ref.go:223", after := #[{ on := 5, ground := Ground.data }, { on := 6, ground := Ground.data }, { on := 2, ground := Ground.guard }], guard := some (2, true) }) (v := .pointer (some ⟨g, i, none⟩)) rfl (by kernel_rfl) (by kernel_rfl) (by kernel_rfl) (fun _ _ _ h => h.elim) (Or.inl ⟨by rfl, ?y7⟩) hS0.out ?_
  case y7 =>
    intro V hV
    have h1 := HIX.out.1
    have h2 := HIX.out.2
    go_simp
  simp only [Act.put, List.setIfInBounds_toArray, List.set_cons_zero, List.set_cons_succ]
  refine wpAnyH_take (i := 8) (oi := { dst := some 33, op := Op.load 9 (Operand.tmp 32), type := 9, pos := "ref.go:223", after := #[{ on := 7, ground := Ground.data }, { on := 2, ground := Ground.guard }], guard := some (2, true) }) (v := .string sy) rfl (by kernel_rfl) (by kernel_rfl) (by kernel_rfl) (fun _ _ _ h => h.elim) (Or.inl ⟨by rfl, ?y8⟩) hS0.out ?_
  case y8 =>
    intro V hV
    have hc : V.cell? ⟨g, i, none⟩ = some (.string sy) := ((show Below A.heap.size A V from hV).cell (p := ⟨g, i, none⟩) (HCY.out.2)).trans HCY.out.1
    go_simp
  simp only [Act.put, List.setIfInBounds_toArray, List.set_cons_zero, List.set_cons_succ]
  refine wpAnyH_take (i := 9) (oi := { dst := some 34, op := Op.move (Operand.tmp 2), type := 9, pos := "ref.go:223", after := #[{ on := 2, ground := Ground.guard }], guard := some (2, true) }) (v := .string su) rfl (by kernel_rfl) (by kernel_rfl) (by kernel_rfl) (fun _ _ _ h => h.elim) (Or.inl ⟨by rfl, ?y9⟩) hS0.out ?_
  case y9 =>
    intro V hV
    go_simp
  simp only [Act.put, List.setIfInBounds_toArray, List.set_cons_zero, List.set_cons_succ]
  refine wpAnyH_ready (rs := [10]) (by kernel_rfl) (by simp) (AllReadyH.cons (i := 10) (o := { dst := some 35, op := Op.call { callee := Callee.value (Operand.func 47), args := #[Operand.tmp 28, Operand.tmp 29, Operand.tmp 33, Operand.tmp 34], argTypes := #[30, 9, 9, 9] }, type := 3, pos := "ref.go:223", after := #[{ on := 3, ground := Ground.data }, { on := 4, ground := Ground.data }, { on := 8, ground := Ground.data }, { on := 9, ground := Ground.data }, { on := 2, ground := Ground.chain }, { on := 2, ground := Ground.guard }], guard := some (2, true) }) rfl ?_ AllReadyH.nil)
  · intro K1 hK1
    rw [if_pos (by rfl)]
    have HC1 := (HRO.out V0 hS0.out)
    go_wp2_with fail
    refine HC1.mono ?_
    rintro e V1 ⟨rfl, hb1⟩
    dsimp only
    clear HC1
    have hS1 : Hid (Below A.heap.size A V1) := hS0.out.trans ((hb1).mono hS0.out.size)
    clear hb1
    refine hK1.out _ _ hS1.out ?_
    clear hK1
    intro _
    try simp only [Act.put, List.setIfInBounds_toArray, List.set_cons_zero, List.set_cons_succ]
    refine wpAnyH_take (i := 11) (oi := { dst := some 36, op := Op.binOp BinOp.geq 3 (Operand.tmp 35) (Operand.const (Value.int IntKind.i64 0)) 3, type := 4, pos := "ref.go:223", after := #[{ on := 10, ground := Ground.data }, { on := 2, ground := Ground.guard }], guard := some (2, true) }) (v := .bool (decide (0 ≤ kf))) rfl (by kernel_rfl) (by kernel_rfl) (by kernel_rfl) (fun _ _ _ h => h.elim) (Or.inl ⟨by rfl, ?y10⟩) hS1.out ?_
    case y10 =>
      intro V hV
      go_simp
    simp only [Act.put, List.setIfInBounds_toArray, List.set_cons_zero, List.set_cons_succ]
    refine wpAnyH_take (i := 12) (oi := { dst := some 37, op := Op.pick (Operand.tmp 27) (Operand.tmp 36) (Operand.const (Value.bool false)), type := 4, pos := "ref.go:223", after := #[{ on := 2, ground := Ground.data }, { on := 11, ground := Ground.data }], guard := none }) (v := .bool (decide (0 ≤ kf))) rfl (by kernel_rfl) (by kernel_rfl) (by kernel_rfl) (fun _ _ _ h => h.elim) (Or.inl ⟨by rfl, ?y11⟩) hS1.out ?_
    case y11 =>
      intro V hV
      go_simp
    simp only [Act.put, List.setIfInBounds_toArray, List.set_cons_zero, List.set_cons_succ]
    refine wpAnyH_done (by kernel_rfl) ?_ _
    exact hQ V1 hS1.out
set_option maxRecDepth 100000 in
set_option maxHeartbeats 4000000 in
theorem sub6n {Q : Exit → Act → World → Prop} {x0 x4 x5 x6 x7 x10 x11 x12 x13 x14 x15 x16 x17 x18 x19 x20 x21 x22 x23 x24 x25 x26 x27 x28 x29 x30 x31 x32 x33 x34 x35 x36 x37 x38 x39 x40 x41 x42 x43 x44 x45 x46 x47 : Value} {ds : List Deferred} {A : World} {b g ln lc i : Nat} {so su : ByteArray}
    (b1 : su.toList.isEmpty = true)
    (hQ : ∀ V1, Below A.heap.size A V1 → Q .normal { tmps := #[x0, .string so, .string su, .pointer (some ⟨b, 0, none⟩), x4, x5, x6, x7, .slice (some ⟨g, 0, none⟩) ln lc, iv (i : Int), x10, x11, x12, x13, x14, x15, x16, x17, x18, x19, x20, x21, x22, x23, x24, .string su, .bool false, .bool false, undef, undef, undef, undef, undef, undef, undef, undef, undef, .bool false, x38, x39, x40, x41, x42, x43, x44, x45, x46, x47], defers := ds } V1) :
    (Code.region 6 #[{ dst := some 25, op := Op.move (Operand.tmp 2), type := 9, pos := "ref.go:223", after := #[], guard := none }, { dst := some 26, op := Op.binOp BinOp.neq 9 (Operand.tmp 25) (Operand.const (Value.string { data := #[] })) 9, type := 4, pos := "ref.go:223", after := #[{ on := 0, ground := Ground.data }], guard := none }, { dst := some 27, op := Op.move (Operand.tmp 26), type := 4, pos := "ref.go:223", after := #[{ on := 1, ground := Ground.data }], guard := none }, { dst := some 28, op := Op.load 30 (Operand.tmp 3), type := 30, pos := "ref.go:223", after := #[{ on := 2, ground := Ground.guard }], guard := some (2, true) }, { dst := some 29, op := Op.move (Operand.tmp 1), type := 9, pos := "ref.go:223", after := #[{ on := 2, ground := Ground.guard }], guard := some (2, true) }, { dst := some 30, op := Op.move (Operand.tmp 8), type := 27, pos := "ref.go:223", after := #[{ on := 2, ground := Ground.guard }], guard := some (2, true) }, { dst := some 31, op := Op.move (Operand.tmp 9), type := 3, pos := "ref.go:223", after := #[{ on := 2, ground := Ground.guard }], guard := some (2, true) }, { dst := some 32, op := Op.indexAddr 27 (Operand.tmp 30) (Operand.tmp 31), type := 0, pos := "ref.go:223", after := #[{ on := 5, ground := Ground.data }, { on := 6, ground := Ground.data }, { on := 2, ground := Ground.guard }], guard := some (2, true) }, { dst := some 33, op := Op.load 9 (Operand.tmp 32), type := 9, pos := "ref.go:223", after := #[{ on := 7, ground := Ground.data }, { on := 2, ground := Ground.guard }], guard := some (2, true) }, { dst := some 34, op := Op.move (Operand.tmp 2), type := 9, pos := "ref.go:223", after := #[{ on := 2, ground := Ground.guard }], guard := some (2, true) }, { dst := some 35, op := Op.call { callee := Callee.value (Operand.func 47), args := #[Operand.tmp 28, Operand.tmp 29, Operand.tmp 33, Operand.tmp 34], argTypes := #[30, 9, 9, 9] }, type := 3, pos := "ref.go:223", after := #[{ on := 3, ground := Ground.data }, { on := 4, ground := Ground.data }, { on := 8, ground := Ground.data }, { on := 9, ground := Ground.data }, { on := 2, ground := Ground.chain }, { on := 2, ground := Ground.guard }], guard := some (2, true) }, { dst := some 36, op := Op.binOp BinOp.geq 3 (Operand.tmp 35) (Operand.const (Value.int IntKind.i64 0)) 3, type := 4, pos := "ref.go:223", after := #[{ on := 10, ground := Ground.data }, { on := 2, ground := Ground.guard }], guard := some (2, true) }, { dst := some 37, op := Op.pick (Operand.tmp 27) (Operand.tmp 36) (Operand.const (Value.bool false)), type := 4, pos := "ref.go:223", after := #[{ on := 2, ground := Ground.data }, { on := 11, ground := Ground.data }], guard := none }] true).wp Try.prog Q { tmps := #[x0, .string so, .string su, .pointer (some ⟨b, 0, none⟩), x4, x5, x6, x7, .slice (some ⟨g, 0, none⟩) ln lc, iv (i : Int), x10, x11, x12, x13, x14, x15, x16, x17, x18, x19, x20, x21, x22, x23, x24, x25, x26, x27, x28, x29, x30, x31, x32, x33, x34, x35, x36, x37, x38, x39, x40, x41, x42, x43, x44, x45, x46, x47], defers := ds } A := by
  refine Code.wp_mono (Q := fun x a' w' => match x with | .normal => Q .normal a' w' | _ => False) (by intro x a' w' h; cases x <;> first | exact h | exact h.elim) ?_
  refine wp_region_held (S := fun V => Below A.heap.size A V) (by kernel_rfl) ?_
  have hS0 : Hid (Below A.heap.size A A.drew) := below_drew0 A
  change wpAnyH Try.prog .any _ _ (fun V => Below A.heap.size A V) 13 (Array.replicate 13 false) _ A.drew
  obtain ⟨V0, hV0⟩ : ∃ V0, A.drew = V0 := ⟨_, rfl⟩
  rw [hV0]
  rw [hV0] at hS0
  clear hV0
  refine wpAnyH_take (i := 0) (oi := { dst := some 25, op := Op.move (Operand.tmp 2), type := 9, pos := "ref.go:223", after := #[], guard := none }) (v := .string su) rfl (by kernel_rfl) (by kernel_rfl) (by kernel_rfl) (fun _ _ _ h => h.elim) (Or.inl ⟨by rfl, ?y1⟩) hS0.out ?_
  case y1 =>
    intro V hV
    go_simp
  simp only [Act.put, List.setIfInBounds_toArray, List.set_cons_zero, List.set_cons_succ]
  refine wpAnyH_take (i := 1) (oi := { dst := some 26, op := Op.binOp BinOp.neq 9 (Operand.tmp 25) (Operand.const (Value.string { data := #[] })) 9, type := 4, pos := "ref.go:223", after := #[{ on := 0, ground := Ground.data }], guard := none }) (v := .bool false) rfl (by kernel_rfl) (by kernel_rfl) (by kernel_rfl) (fun _ _ _ h => h.elim) (Or.inl ⟨by rfl, ?y2⟩) hS0.out ?_
  case y2 =>
    intro V hV
    have hcmp := b1
    go_simp
  simp only [Act.put, List.setIfInBounds_toArray, List.set_cons_zero, List.set_cons_succ]
  refine wpAnyH_take (i := 2) (oi := { dst := some 27, op := Op.move (Operand.tmp 26), type := 4, pos := "ref.go:223", after := #[{ on := 1, ground := Ground.data }], guard := none }) (v := .bool false) rfl (by kernel_rfl) (by kernel_rfl) (by kernel_rfl) (fun _ _ _ h => h.elim) (Or.inl ⟨by rfl, ?y3⟩) hS0.out ?_
  case y3 =>
    intro V hV
    go_simp
  simp only [Act.put, List.setIfInBounds_toArray, List.set_cons_zero, List.set_cons_succ]
  refine wpAnyH_take (i := 3) (oi := { dst := some 28, op := Op.load 30 (Operand.tmp 3), type := 30, pos := "ref.go:223", after := #[{ on := 2, ground := Ground.guard }], guard := some (2, true) }) (v := undef) rfl (by kernel_rfl) (by kernel_rfl) (by kernel_rfl) (fun _ _ _ h => h.elim) (Or.inr ⟨by rfl, rfl⟩) hS0.out ?_
  simp only [Act.put, List.setIfInBounds_toArray, List.set_cons_zero, List.set_cons_succ]
  refine wpAnyH_take (i := 4) (oi := { dst := some 29, op := Op.move (Operand.tmp 1), type := 9, pos := "ref.go:223", after := #[{ on := 2, ground := Ground.guard }], guard := some (2, true) }) (v := undef) rfl (by kernel_rfl) (by kernel_rfl) (by kernel_rfl) (fun _ _ _ h => h.elim) (Or.inr ⟨by rfl, rfl⟩) hS0.out ?_
  simp only [Act.put, List.setIfInBounds_toArray, List.set_cons_zero, List.set_cons_succ]
  refine wpAnyH_take (i := 5) (oi := { dst := some 30, op := Op.move (Operand.tmp 8), type := 27, pos := "ref.go:223", after := #[{ on := 2, ground := Ground.guard }], guard := some (2, true) }) (v := undef) rfl (by kernel_rfl) (by kernel_rfl) (by kernel_rfl) (fun _ _ _ h => h.elim) (Or.inr ⟨by rfl, rfl⟩) hS0.out ?_
  simp only [Act.put, List.setIfInBounds_toArray, List.set_cons_zero, List.set_cons_succ]
  refine wpAnyH_take (i := 6) (oi := { dst := some 31, op := Op.move (Operand.tmp 9), type := 3, pos := "ref.go:223", after := #[{ on := 2, ground := Ground.guard }], guard := some (2, true) }) (v := undef) rfl (by kernel_rfl) (by kernel_rfl) (by kernel_rfl) (fun _ _ _ h => h.elim) (Or.inr ⟨by rfl, rfl⟩) hS0.out ?_
  simp only [Act.put, List.setIfInBounds_toArray, List.set_cons_zero, List.set_cons_succ]
  refine wpAnyH_take (i := 7) (oi := { dst := some 32, op := Op.indexAddr 27 (Operand.tmp 30) (Operand.tmp 31), type := 0, pos := "ref.go:223", after := #[{ on := 5, ground := Ground.data }, { on := 6, ground := Ground.data }, { on := 2, ground := Ground.guard }], guard := some (2, true) }) (v := undef) rfl (by kernel_rfl) (by kernel_rfl) (by kernel_rfl) (fun _ _ _ h => h.elim) (Or.inr ⟨by rfl, rfl⟩) hS0.out ?_
  simp only [Act.put, List.setIfInBounds_toArray, List.set_cons_zero, List.set_cons_succ]
  refine wpAnyH_take (i := 8) (oi := { dst := some 33, op := Op.load 9 (Operand.tmp 32), type := 9, pos := "ref.go:223", after := #[{ on := 7, ground := Ground.data }, { on := 2, ground := Ground.guard }], guard := some (2, true) }) (v := undef) rfl (by kernel_rfl) (by kernel_rfl) (by kernel_rfl) (fun _ _ _ h => h.elim) (Or.inr ⟨by rfl, rfl⟩) hS0.out ?_
  simp only [Act.put, List.setIfInBounds_toArray, List.set_cons_zero, List.set_cons_succ]
  refine wpAnyH_take (i := 9) (oi := { dst := some 34, op := Op.move (Operand.tmp 2), type := 9, pos := "ref.go:223", after := #[{ on := 2, ground := Ground.guard }], guard := some (2, true) }) (v := undef) rfl (by kernel_rfl) (by kernel_rfl) (by kernel_rfl) (fun _ _ _ h => h.elim) (Or.inr ⟨by rfl, rfl⟩) hS0.out ?_
  simp only [Act.put, List.setIfInBounds_toArray, List.set_cons_zero, List.set_cons_succ]
  refine wpAnyH_take (i := 10) (oi := { dst := some 35, op := Op.call { callee := Callee.value (Operand.func 47), args := #[Operand.tmp 28, Operand.tmp 29, Operand.tmp 33, Operand.tmp 34], argTypes := #[30, 9, 9, 9] }, type := 3, pos := "ref.go:223", after := #[{ on := 3, ground := Ground.data }, { on := 4, ground := Ground.data }, { on := 8, ground := Ground.data }, { on := 9, ground := Ground.data }, { on := 2, ground := Ground.chain }, { on := 2, ground := Ground.guard }], guard := some (2, true) }) (v := undef) rfl (by kernel_rfl) (by kernel_rfl) (by kernel_rfl) (fun _ _ _ h => h.elim) (Or.inr ⟨by rfl, rfl⟩) hS0.out ?_
  simp only [Act.put, List.setIfInBounds_toArray, List.set_cons_zero, List.set_cons_succ]
  refine wpAnyH_take (i := 11) (oi := { dst := some 36, op := Op.binOp BinOp.geq 3 (Operand.tmp 35) (Operand.const (Value.int IntKind.i64 0)) 3, type := 4, pos := "ref.go:223", after := #[{ on := 10, ground := Ground.data }, { on := 2, ground := Ground.guard }], guard := some (2, true) }) (v := undef) rfl (by kernel_rfl) (by kernel_rfl) (by kernel_rfl) (fun _ _ _ h => h.elim) (Or.inr ⟨by rfl, rfl⟩) hS0.out ?_
  simp only [Act.put, List.setIfInBounds_toArray, List.set_cons_zero, List.set_cons_succ]
  refine wpAnyH_take (i := 12) (oi := { dst := some 37, op := Op.pick (Operand.tmp 27) (Operand.tmp 36) (Operand.const (Value.bool false)), type := 4, pos := "ref.go:223", after := #[{ on := 2, ground := Ground.data }, { on := 11, ground := Ground.data }], guard := none }) (v := .bool false) rfl (by kernel_rfl) (by kernel_rfl) (by kernel_rfl) (fun _ _ _ h => h.elim) (Or.inl ⟨by rfl, ?y4⟩) hS0.out ?_
  case y4 =>
    intro V hV
    go_simp
  simp only [Act.put, List.setIfInBounds_toArray, List.set_cons_zero, List.set_cons_succ]
  refine wpAnyH_done (by kernel_rfl) ?_ _
  exact hQ V0 hS0.out
end Go.Proofs.Ytfickhhfhdhcbaa.Oct

/- Layer 15 (people): the document's people: Subject. -/
namespace Go.Proofs.Ytfickhhfhdhcbaa.Oct
open Go.RowKit
set_option linter.unusedSimpArgs false
set_option linter.unusedVariables false

theorem zero42r (W : World) : (zeroValue 42).run Try.prog W = .ok (.agg #[.string ⟨#[]⟩, .slice none 0 0, iv 0]) W := by kernel_rfl
/-- a user's teams, by the facts -/
def subF (F : List Fc) (o u : Hs) : List Hs := if u = [] then [] else (teaF F o).filter (fun t => decide (0 ≤ fct F o t u))
def RSub (w : World) (F : List Fc) (o u : Hs) (e : Ending) (w' : World) : Prop := ∃ a n c, e = .returned (.agg #[hv u, .slice a n c, iv (roleF F o u)]) ∧ Hid (StrAt w' a n (subF F o u) ∧ n ≤ 990 ∧ Below w.heap.size w w')
/-- names stay where a box of a user is written -/
theorem sv_box {V W : World} {v : Value} {n b7 : Nat} {l : List Hs} {su : ByteArray} {va va' : Option Addr} {k vc k' vc' : Nat} {r : Int} {B : Nat} (h : SV V v n 1 (l.map hv)) (hb : Blk V b7 42 [.string su, .slice va k vc, iv r]) (hb' : Blk W b7 42 [.string su, .slice va' k' vc', iv r]) (hk : Keep (fun j => j = b7 ∨ B ≤ j) V W) (hB : V.heap.size ≤ B) : SV W v n 1 (l.map hv) := by
  obtain ⟨a', c', rfl, h1, h2, h3, h4, h5⟩ := h
  refine ⟨a', c', rfl, h1, h2, h3, h4, ?_⟩
  rcases h5 with h5 | ⟨g', rfl, hl, hc⟩
  · exact .inl h5
  · refine .inr ⟨g', rfl, Nat.lt_of_lt_of_le hl hk.size, fun j u hu => ?_⟩
    by_cases e : g' = b7
    · subst e
      have h0 : ∀ x, (l.map hv)[1]? = some x → False := fun x hx => by
        have h6 := hc 1 x hx
        have h7 : V.cell? ⟨g', 1, none⟩ = some (.slice va k vc) := hb.cell rfl
        rw [h7] at h6
        injection h6 with h6
        have := hv_one l x (List.mem_of_getElem? hx)
        simp only [List.getElem?_map] at hx
        obtain ⟨y, _, hy⟩ := Option.map_eq_some_iff.1 hx
        rw [← h6] at hy
        unfold hv at hy
        cases hy
      have hj : j = 0 := by
        have h8 := (List.getElem?_eq_some_iff.1 hu).1
        by_cases e2 : j = 0
        · exact e2
        · exact (h0 _ (List.getElem?_eq_getElem (by omega))).elim
      subst hj
      have h6 := hc 0 u hu
      have h7 : V.cell? ⟨g', 0, none⟩ = some (.string su) := hb.cell rfl
      rw [h7] at h6
      rw [← h6]
      exact hb'.cell rfl
    · exact (World.cell?_of_block (a := ⟨g', j, none⟩) (hk.block g' hl (by rintro (e3 | e3); exact e e3; omega))).trans (hc j u hu)
theorem own_sl {w : World} {B e sz n : Nat} {v : Value} {cs : List Value} (h : w.ownsRow B e sz v n cs) : ∃ a c, v = .slice a n c := by
  rcases h.2 with ⟨rfl, rfl⟩ | ⟨g, cap, cur, rfl, _⟩
  · exact ⟨none, 0, rfl⟩
  · exact ⟨_, _, rfl⟩
theorem rret42 {R : Ending → World → Prop} {fn : Func} {pt : Tmp} {a : Act} {w : World} {g : Nat} {X : List Value} (hr : fn.results = #[.cell pt 42]) (hd : a.defers = []) (hp : a.tmps.getD pt undef = .pointer (some ⟨g, 0, none⟩)) (hl : X.length = 3)
    (hb : Blk w g 42 X) (hR : R (.returned (.agg X.toArray)) w) : bodyPost Try.prog fn R .ret a w :=
  bodyPost_ret (results_cell_row hr _ w g 42 X.toArray (0, 0) _ hp hb Try.underlying42 rfl (by rw [List.size_toArray, hl]; exact size42)) hd hR
set_option maxRecDepth 100000 in
set_option maxHeartbeats 4000000 in
theorem rsub_is {w : World} {uv ov fv : Value} {R : Rp} (h : RPt w uv ov fv R) (hF : R.F.length ≤ 990) (o : Hs) (u : Hs) : Calls Try.prog 22 #[.agg #[uv, ov, fv], hv o, hv u] w (RSub w R.F o u) := by
  obtain ⟨m, hm⟩ : ∃ m, R.F.length = m := ⟨_, rfl⟩
  obtain ⟨nu, hnu⟩ : ∃ m, R.U.length = m := ⟨_, rfl⟩
  obtain ⟨no, hno⟩ : ∃ m, R.O.length = m := ⟨_, rfl⟩
  obtain ⟨ua, uc, rfl, _⟩ := h.u
  obtain ⟨oa, oc, rfl, _⟩ := h.o
  obtain ⟨a, c, rfl, _⟩ := h.f
  rw [hm, hnu, hno] at h ⊢
  obtain ⟨so, hso, hlo, hqo⟩ := bs_is o
  obtain ⟨su, hsu, hlu, hqu⟩ := bs_is u
  have HS : Hid (so.toList = o ∧ hv o = .string so ∧ su.toList = u ∧ hv u = .string su ∧ True) := ⟨hlo, hso, hlu, hsu, trivial⟩
  have hz30 := zero42r
  obtain ⟨b, hb⟩ : ∃ b, w.heap.size = b := ⟨_, rfl⟩
  obtain ⟨A, hA⟩ : ∃ A, (w.alloc (.cells #[.slice ua nu uc, .slice oa no oc, .slice a m c] 30)).alloc (.cells #[.string ⟨#[]⟩, .slice none 0 0, iv 0] 42) = A := ⟨_, rfl⟩
  have hB : Below w.heap.size w A := by rw [← hA]; exact ((Below.refl _ w).alloc (Nat.le_refl _) _).alloc (by simp) _
  have h2 : Blk A b 30 [.slice ua nu uc, .slice oa no oc, .slice a m c] := by rw [← hA, ← hb]; exact (Blk.new w _ _).alloc _
  have h4 : Blk A (b + 1) 42 [.string ⟨#[]⟩, .slice none 0 0, iv 0] := by
    rw [← hA, ← hb]
    have := Blk.new (w.alloc (.cells #[.slice ua nu uc, .slice oa no oc, .slice a m c] 30)) #[.string ⟨#[]⟩, .slice none 0 0, iv 0] 42
    rwa [World.size_alloc] at this
  have HA0 : Hid (RPt w (.slice ua nu uc) (.slice oa no oc) (.slice a m c) R) := h
  have HA : Hid (Below w.heap.size w A ∧ Blk A b 30 [.slice ua nu uc, .slice oa no oc, .slice a m c] ∧ RPt A (.slice ua nu uc) (.slice oa no oc) (.slice a m c) R ∧ Blk A (b + 1) 42 [.string ⟨#[]⟩, .slice none 0 0, iv 0]) := ⟨hB, h2, h.below hB, h4⟩
  have HN : Hid (R.F.length = m ∧ R.U.length = nu ∧ R.O.length = no ∧ m ≤ 990 ∧ w.heap.size = b) := ⟨hm, hnu, hno, by omega, hb⟩
  have qu : (nu : Int) ≤ 1000 := by have := h.nu; omega
  have qo : (no : Int) ≤ 1000 := by have := h.no; omega
  have qm : (m : Int) ≤ 990 := by omega
  rw [hso, hsu]
  clear h hF hm hnu hno hB h2 h4 hlo hqo hlu hqu
  go_enter Try.func22, Try.ntmps22
  obtain ⟨r, hr0⟩ : ∃ k, roleF R.F o u = k := ⟨_, rfl⟩
  have HR0 : Hid (roleF R.F o u = r) := hr0
  have HC := rrole_is HA.out.2.2.1 o u
  rw [hso, hsu, hr0] at HC
  go_wp2_with (with_reducible change wpList _ _ _ ({ dst := some 11, op := _, type := _, pos := _, after := _, guard := _ } :: _) _ _; refine Hid.out ?_)
  show wpList _ _ _ _ _ _
  refine wpList_load_row rfl 30 (.tmp 3) rfl b rfl 30 #[.slice ua nu uc, .slice oa no oc, .slice a m c] (0, 0) _ HA.out.2.1 Try.underlying30 rfl size30 ?_
  simp only [Act.put, List.setIfInBounds_toArray, List.set_cons_zero, List.set_cons_succ]
  go_wp2_with fail
  refine HC.mono ?_
  rintro e V1 ⟨rfl, hb1⟩
  have HV1 : Hid (Below w.heap.size w V1 ∧ Blk V1 b 30 [.slice ua nu uc, .slice oa no oc, .slice a m c] ∧ RPt V1 (.slice ua nu uc) (.slice oa no oc) (.slice a m c) R ∧ Blk V1 (b + 1) 42 [.string ⟨#[]⟩, .slice none 0 0, iv 0]) := ⟨below_tr HA.out.1 hb1, HA.out.2.1.below hb1 HA.out.2.1.lt, HA.out.2.2.1.below hb1, HA.out.2.2.2.below hb1 HA.out.2.2.2.lt⟩
  clear HC hb1 hr0 hA hb
  obtain ⟨b7, hb7⟩ : ∃ n, V1.heap.size = n := ⟨_, rfl⟩
  go_wp2_with (with_reducible change wpList _ _ _ ({ dst := none, op := Op.store 42 _ _, type := _, pos := _, after := _, guard := _ } :: _) _ _; refine Hid.out ?_)
  show wpList _ _ _ _ _ _
  refine wpList_store_blk rfl 42 (.tmp 7) (.tmp 15) rfl b7 0 42 [.string ⟨#[]⟩, .slice none 0 0, iv 0] [.string su, .slice none 0 0, iv r] rfl rfl (by rw [← hb7]; exact Blk.new V1 _ _) (by simp) size42 (by simp [Value.oneCell']) ?_
  intro V2 hb2 hg2
  have HV2 : Hid (Below w.heap.size w V2 ∧ Blk V2 b 30 [.slice ua nu uc, .slice oa no oc, .slice a m c] ∧ RPt V2 (.slice ua nu uc) (.slice oa no oc) (.slice a m c) R ∧ Blk V2 (b + 1) 42 [.string ⟨#[]⟩, .slice none 0 0, iv 0]) := by
    have hB : Below V1.heap.size V1 V2 := (below_al V1 _).grown hg2.out (by simp) (fun j hj => by cases hj; omega)
    exact ⟨below_tr HV1.out.1 hB, HV1.out.2.1.below hB HV1.out.2.1.lt, HV1.out.2.2.1.below hB, HV1.out.2.2.2.below hB HV1.out.2.2.2.lt⟩
  have H7 : Hid (Blk V2 b7 42 [.string su, .slice none 0 0, iv r] ∧ w.heap.size ≤ b7 ∧ b + 1 < b7) := ⟨by simpa using hb2.out, by rw [← hb7]; exact HV1.out.1.size, by rw [← hb7]; exact HV1.out.2.2.2.lt⟩
  clear hb2 hg2 hb7
  obtain ⟨L, hL⟩ : ∃ L, teaF R.F o = L := ⟨_, rfl⟩
  obtain ⟨ln, hln⟩ : ∃ n, L.length = n := ⟨_, rfl⟩
  have HLN : Hid (teaF R.F o = L ∧ L.length = ln ∧ ln ≤ 990) := ⟨hL, hln, by have h1 := teaF_len R.F o; have h2 := HN.out; rw [hL] at h1; omega⟩
  have ql : (ln : Int) ≤ 990 := by have := HLN.out.2.2; omega
  have HC1 := rteams_is HV2.out.2.2.1 (by have := HN.out; omega) o
  rw [hso, hL, hln] at HC1
  simp only [Act.put, List.setIfInBounds_toArray, List.set_cons_zero, List.set_cons_succ]
  go_wp2_with (with_reducible change wpList _ _ _ ({ dst := some 16, op := _, type := _, pos := _, after := _, guard := _ } :: _) _ _; refine Hid.out ?_)
  show wpList _ _ _ _ _ _
  refine wpList_load_row rfl 30 (.tmp 3) rfl b rfl 30 #[.slice ua nu uc, .slice oa no oc, .slice a m c] (0, 0) _ HV2.out.2.1 Try.underlying30 rfl size30 ?_
  simp only [Act.put, List.setIfInBounds_toArray, List.set_cons_zero, List.set_cons_succ]
  go_wp2_with fail
  refine HC1.mono ?_
  rintro e V3 ⟨v1, rfl, hs1, hb1⟩
  have hs1' := hs1
  obtain ⟨la, lc, hv1, _⟩ := hs1
  subst hv1
  have HV3 : Hid (Below w.heap.size w V3 ∧ Blk V3 b 30 [.slice ua nu uc, .slice oa no oc, .slice a m c] ∧ RPt V3 (.slice ua nu uc) (.slice oa no oc) (.slice a m c) R ∧ Blk V3 (b + 1) 42 [.string ⟨#[]⟩, .slice none 0 0, iv 0]) := ⟨below_tr HV2.out.1 hb1, HV2.out.2.1.below hb1 HV2.out.2.1.lt, HV2.out.2.2.1.below hb1, HV2.out.2.2.2.below hb1 HV2.out.2.2.2.lt⟩
  obtain ⟨B, hB⟩ : ∃ B, V3.heap.size = B := ⟨_, rfl⟩
  have HT : Hid (SV V3 (.slice la ln lc) ln 1 (L.map hv) ∧ Blk V3 b7 42 [.string su, .slice none 0 0, iv r] ∧ V3.heap.size = B ∧ b7 < B) := ⟨hs1', H7.out.1.below hb1 H7.out.1.lt, hB, by rw [← hB]; exact (H7.out.1.below hb1 H7.out.1.lt).lt⟩
  obtain ⟨pick6, hp6⟩ : ∃ f : List Hs → List Hs, f = fun l => if u = [] then [] else l.filter (fun t => decide (0 ≤ fct R.F o t u)) := ⟨_, rfl⟩
  have HP6 : Hid (pick6 = fun l => if u = [] then [] else l.filter (fun t => decide (0 ≤ fct R.F o t u))) := hp6
  clear HC1 hs1' hb1 hL hln hB hp6
  go_wp2
  go_loopw [9] (fun x9 W => ∃ i k vc : Nat, ∃ va, x9 = iv i ∧ Hid (i ≤ ln ∧ k ≤ i ∧ Keep (fun j => j = b7 ∨ B ≤ j) V3 W ∧ W.ownsRow B 9 1 (.slice va k vc) k ((pick6 (L.take i)).map hv) ∧ Blk W b7 42 [.string su, .slice va k vc, iv r])) (fun x9 _ => ln - (intOf x9).toNat)
  case atStart => exact ⟨0, 0, 0, none, rfl, Nat.zero_le _, Nat.le_refl _, Keep.refl _ _, ⟨by rw [HP6.out]; simp, .inl ⟨rfl, rfl⟩⟩, HT.out.2.1⟩
  case round =>
    obtain ⟨i, k, vc, va, rfl, HI⟩ := hrel
    have HBX : Hid (Blk wr b 30 [.slice ua nu uc, .slice oa no oc, .slice a m c] ∧ Blk wr (b + 1) 42 [.string ⟨#[]⟩, .slice none 0 0, iv 0] ∧ Below w.heap.size w wr ∧ SV wr (.slice la ln lc) ln 1 (L.map hv)) := by
      have hk := HI.out.2.2.1
      have h7 := H7.out
      have hn := HN.out.2.2.2.2
      have hB := HT.out.2.2.1
      refine ⟨hk.blk HV3.out.2.1 (by have := HV3.out.2.1.lt; omega), hk.blk HV3.out.2.2.2 (by have := HV3.out.2.2.2.lt; omega), HV3.out.1.trans (hk.toBelow HV3.out.1.size (fun j hj => by have := HV3.out.1.size; rcases hj with e | e <;> omega)), sv_box HT.out.1 HT.out.2.1 HI.out.2.2.2.2 hk (by omega)⟩
    by_cases hi : i = ln
    · have q1 : (ln : Int) ≤ (i : Int) := by omega
      clear hi
      go_wp2_with (with_reducible change wpList _ _ _ ({ dst := some 47, op := _, type := _, pos := _, after := _, guard := _ } :: _) _ _; refine Hid.out ?_)
      show wpList _ _ _ _ _ _
      refine wpList_load_row rfl 42 (.tmp 7) rfl b7 rfl 42 #[.string su, .slice va k vc, iv r] (0, 0) _ HI.out.2.2.2.2 Try.underlying42 rfl size42 ?_
      simp only [Act.put, List.setIfInBounds_toArray, List.set_cons_zero, List.set_cons_succ]
      go_wp2_with (with_reducible change wpList _ _ _ ({ dst := none, op := Op.store 42 _ _, type := _, pos := _, after := _, guard := _ } :: _) _ _; refine Hid.out ?_)
      show wpList _ _ _ _ _ _
      refine wpList_store_blk rfl 42 (.tmp 6) (.tmp 47) rfl (b + 1) 0 42 [.string ⟨#[]⟩, .slice none 0 0, iv 0] [.string su, .slice va k vc, iv r] rfl rfl HBX.out.2.1 (by simp) size42 (by simp [Value.oneCell']) ?_
      intro Ve hbe hge
      have HE : Hid (Blk Ve (b + 1) 42 [.string su, .slice va k vc, iv r] ∧ StrAt Ve va k (subF R.F o u) ∧ k ≤ 990 ∧ Below w.heap.size w Ve) := by
        have hn := HN.out.2.2.2.2
        have hlt := HV3.out.2.2.2.lt
        have hB := HT.out.2.2.1
        have hll := HLN.out
        have hp : pick6 (L.take i) = subF R.F o u := by
          rw [List.take_of_length_le (by omega), HP6.out, ← hll.1]
          rfl
        have ho : Ve.ownsRow B 9 1 (.slice va k vc) k ((subF R.F o u).map hv) := by
          rw [← hp]
          exact own_same HI.out.2.2.2.1 (fun g h1 h2 => hge.out.block g h2 (fun e => by cases e; omega))
        refine ⟨by simpa using hbe.out, own_str ho (by have := ho.1; simpa using this), by have := HI.out; omega, HBX.out.2.2.1.grown hge.out HBX.out.2.2.1.size (fun j hj => by cases hj; omega)⟩
      clear hbe hge
      go_wp2_with fail
      refine rret42 rfl rfl rfl rfl HE.out.1 ?_
      exact ⟨va, k, vc, by rw [HS.out.2.2.2.1, HR0.out], HE.out.2⟩
    · have HQ2 : Hid (i < ln) := by have := HI.out.1; show _ < _; omega
      have q1 : (i : Int) < (ln : Int) := by have := HQ2.out; omega
      have q2 : i < ln := HQ2.out
      obtain ⟨g, c', y, hlv, hg, hy, hc⟩ := (sv_name HBX.out.2.2.2).2 i q2
      cases hlv
      obtain ⟨sy, hsy, hly, _⟩ := bs_is y
      rw [hsy] at hc
      have HY : Hid (L[i]? = some y ∧ hv y = .string sy) := ⟨hy, hsy⟩
      have HB2 : Hid (Blk wr b 30 [.slice ua nu uc, .slice oa no oc, .slice a m c]) := HBX.out.1
      have HIX : Hid ((i : Int) < (ln : Int) ∧ i < ln) := ⟨q1, q2⟩
      have HCY : Hid (wr.cell? ⟨g, i, none⟩ = some (.string sy) ∧ g < wr.heap.size) := ⟨hc, hg⟩
      clear hi hy hsy hly hc hg
      by_cases hu : u = []
      · have b1 := empty_yes HS.out.2.2.1 hu
        have HE : Hid (i + 1 ≤ ln ∧ k ≤ i + 1 ∧ Keep (fun j => j = b7 ∨ B ≤ j) V3 wr ∧ wr.ownsRow B 9 1 (.slice va (k) vc) (k) ((pick6 (L.take (i + 1))).map hv) ∧ Blk wr b7 42 [.string su, .slice va (k) vc, iv r]) := ⟨HQ2.out, by have := HI.out.2.1; omega, HI.out.2.2.1, by have h1 := HI.out.2.2.2.1; rw [HP6.out] at h1 ⊢; simp only [if_pos hu] at h1 ⊢; exact h1, HI.out.2.2.2.2⟩
        clear hu
        go_wp2_with fail
        refine sub6n b1 ?_
        intro V4 hV4
        have HE4 : Hid (i + 1 ≤ ln ∧ k ≤ i + 1 ∧ Keep (fun j => j = b7 ∨ B ≤ j) V3 V4 ∧ V4.ownsRow B 9 1 (.slice va (k) vc) (k) ((pick6 (L.take (i + 1))).map hv) ∧ Blk V4 b7 42 [.string su, .slice va (k) vc, iv r]) := ⟨HE.out.1, HE.out.2.1, HE.out.2.2.1.trans (Keep.below hV4) (fun j hj _ => hj), ownsRow_below HE.out.2.2.2.1 hV4, HE.out.2.2.2.2.below hV4 HE.out.2.2.2.2.lt⟩
        clear hV4 HE
        go_wp2
        go_roundw
        case rel => exact ⟨i + 1, k, vc, va, by simp, HE4.out⟩
        case measure =>
          have := HQ2.out
          simp only [intOf]
          omega
      · have b1 := empty_no HS.out.2.2.1 hu
        obtain ⟨kf, hkf⟩ : ∃ k, fct R.F o y u = k := ⟨_, rfl⟩
        have HRO : Hid (∀ V, Below wr.heap.size wr V → Calls Try.prog 47 #[.agg #[.slice ua nu uc, .slice oa no oc, .slice a m c], .string so, .string sy, .string su] V fun e V2 => e = .returned (iv kf) ∧ Below V.heap.size V V2) := fun V hV => by
          have h0 : RPt V (.slice ua nu uc) (.slice oa no oc) (.slice a m c) R := (HA0.out.below HBX.out.2.2.1).below hV
          have h1 := rfact_is h0 o y u
          rw [HS.out.2.1, HY.out.2, HS.out.2.2.2.1, hkf] at h1
          exact h1
        have HST : Hid (pick6 (L.take (i + 1)) = pick6 (L.take i) ++ (if 0 ≤ kf then [y] else [])) := by
          show _ = _
          rw [HP6.out, take_snoc HY.out.1]
          simp only [if_neg hu, List.filter_append]
          congr 1
          rw [← hkf]
          by_cases e : 0 ≤ fct R.F o y u
          · simp [e]
          · simp [e]
        clear hu hkf
        go_wp2_with fail
        refine sub6y HB2 HIX HCY HRO b1 ?_
        intro V4 hV4
        have HI4 : Hid (i ≤ ln ∧ k ≤ i ∧ Keep (fun j => j = b7 ∨ B ≤ j) V3 V4 ∧ V4.ownsRow B 9 1 (.slice va k vc) k ((pick6 (L.take i)).map hv) ∧ Blk V4 b7 42 [.string su, .slice va k vc, iv r] ∧ B ≤ V4.heap.size) := ⟨HI.out.1, HI.out.2.1, HI.out.2.2.1.trans (Keep.below hV4) (fun j hj _ => hj), ownsRow_below HI.out.2.2.2.1 hV4, HI.out.2.2.2.2.below hV4 HI.out.2.2.2.2.lt, by have h1 := HI.out.2.2.1.size; have h2 := hV4.size; have h3 := HT.out.2.2.1; omega⟩
        clear hV4 HI HBX HB2 HCY HRO
        by_cases h0 : 0 ≤ kf
        · have HL7 : Hid (b7 < B ∧ B ≤ V4.heap.size) := ⟨HT.out.2.2.2, HI4.out.2.2.2.2.2⟩
          have HX7 : Hid (Blk V4 b7 42 [.string su, .slice va k vc, iv r]) := HI4.out.2.2.2.2.1
          have HO7 : Hid (V4.ownsRow B 9 1 (.slice va k vc) k ((pick6 (L.take i)).map hv)) := HI4.out.2.2.2.1
          have HC7 : Hid (∀ V, Keep (fun j => j = b7 ∨ B ≤ j) V4 V → Blk V b7 42 [.string su, .slice va k vc, iv r] → V.cell? ⟨g, i, none⟩ = some (.string sy)) := fun V hk hb => by
            have h1 := sv_box HT.out.1 HT.out.2.1 hb (HI4.out.2.2.1.trans hk (fun j hj _ => hj)) (by have := HT.out.2.2.1; omega)
            obtain ⟨g', c'', y', e, _, hy', hc'⟩ := (sv_name h1).2 i HIX.out.2
            cases e
            rw [HY.out.1] at hy'
            cases hy'
            rw [HY.out.2] at hc'
            exact hc'
          have HN7 : Hid (k ≤ 1000) := by have h1 := HI4.out; have h2 := HLN.out; show _ ≤ _; omega
          obtain ⟨i0, z, k0, k1, k2, k3, k4⟩ := info9'
          have HI9 : Hid (Try.prog.info? 9 = some i0 ∧ i0.zero = some z ∧ i0.size = 1 ∧ i0.bytes = 16 ∧ z.cells.size = 1) := ⟨k0, k1, k2, k3, k4⟩
          clear k0 k1 k2 k3 k4
          go_wp2_with fail
          refine sub7 HL7 HX7 HO7 HIX HC7 HN7 HI9 ?_
          intro V5 v2 nb ho5 hx5 hk5
          obtain ⟨va2, vc2, e5⟩ := own_sl ho5
          subst e5
          have HE : Hid (i + 1 ≤ ln ∧ k + 1 ≤ i + 1 ∧ Keep (fun j => j = b7 ∨ B ≤ j) V3 V5 ∧ V5.ownsRow B 9 1 (.slice va2 (k + 1) vc2) (k + 1) ((pick6 (L.take (i + 1))).map hv) ∧ Blk V5 b7 42 [.string su, .slice va2 (k + 1) vc2, iv r]) := ⟨HQ2.out, by have := HI4.out.2.1; omega, HI4.out.2.2.1.trans hk5 (fun j hj _ => hj), by rw [HST.out, if_pos h0, List.map_append, List.map_cons, List.map_nil, HY.out.2]; exact ho5, hx5⟩
          clear ho5 hx5 hk5 HI4 HX7 HO7 HC7 h0
          go_wp2
          go_roundw
          case rel => exact ⟨i + 1, k + 1, vc2, va2, by simp, HE.out⟩
          case measure =>
            have := HQ2.out
            simp only [intOf]
            omega
        · have h9 : kf < 0 := by omega
          have HE : Hid (i + 1 ≤ ln ∧ k ≤ i + 1 ∧ Keep (fun j => j = b7 ∨ B ≤ j) V3 V4 ∧ V4.ownsRow B 9 1 (.slice va (k) vc) (k) ((pick6 (L.take (i + 1))).map hv) ∧ Blk V4 b7 42 [.string su, .slice va (k) vc, iv r]) := ⟨HQ2.out, by have := HI4.out.2.1; omega, HI4.out.2.2.1, by rw [HST.out, if_neg h0, List.append_nil]; exact HI4.out.2.2.2.1, HI4.out.2.2.2.2.1⟩
          clear h0 HI4
          go_wp2
          go_roundw
          case rel => exact ⟨i + 1, k, vc, va, by simp, HE.out⟩
          case measure =>
            have := HQ2.out
            simp only [intOf]
            omega
end Go.Proofs.Ytfickhhfhdhcbaa.Oct

/- Layer 15 (people): the document's people: the two side by side: what each says. -/
namespace Go.Proofs.Ytfickhhfhdhcbaa.Oct
open Go.RowKit
set_option linter.unusedSimpArgs false
set_option linter.unusedVariables false


/-- what holds of the lists of people that stand in memory -/
structure Nd (M : Pm) : Prop where
  un : M.users.Nodup
  on : (M.orgs.map (·.name)).Nodup
  rn : ∀ o ∈ M.orgs, (o.roles.map (·.1)).Nodup
  tn : ∀ o ∈ M.orgs, (o.teams.map (·.name)).Nodup
  ok : ∀ o ∈ M.orgs, OgOk M.users o
theorem PAt.nd {w : World} {p : Nat} {M : Pm} (h : PAt w p M) : Nd M := by
  refine ⟨?_, ?_, fun o ho => h.rnodup ho, fun o ho => ?_, h.ok⟩
  · have := h.us.nodup
    rwa [show (unit M.users).map (·.1) = M.users by unfold unit; rw [List.map_map]; exact List.map_id _] at this
  · have := h.os.nodup
    rwa [orgsKv_keys] at this
  · have := (h.oteams ho).nodup
    rwa [teamsKv_keys] at this
/-- what a fact says, in the program's people -/
def rGet (l : List (Hs × Int)) (u : Hs) : Option Int := (l.find? (fun r => r.1 == u)).map (·.2)
def oV (o : Og) (t u : Hs) : Option Int := if t = [] then rGet o.roles u else match teamOf o.teams t with
  | none => none
  | some tm => if u = [] ∨ u ∈ tm.mem then some 0 else none
def fV (M : Pm) (x t u : Hs) : Option Int := match M.org x with
  | none => none
  | some o => oV o t u
/-- the two people say the same -/
structure Rel (M : Pm) (R : Rp) : Prop where
  U : R.U = sortK M.users
  O : R.O = orgsL M
  nd : R.F.Nodup
  f : ∀ g : Fc, g ∈ R.F ↔ fV M g.o g.t g.u = some g.r
  nu : [] ∉ M.users
  nt : ∀ o ∈ M.orgs, ∀ t ∈ o.teams, t.name ≠ []
theorem sortK_le (l : List Hs) : (sortK l).Pairwise (fun x y => x ≤ y) := by
  have := List.pairwise_mergeSort (le := fun x y : Hs => decide (x ≤ y)) (fun a b c h1 h2 => by
    simp only [decide_eq_true_eq] at h1 h2 ⊢
    exact List.le_trans h1 h2) (fun a b => by
    simp only [Bool.or_eq_true, decide_eq_true_eq]
    exact List.le_total a b) l
  exact this.imp (fun h => by simpa using h)
theorem sortK_rise {l : List Hs} (h : l.Nodup) : Rise (sortK l) := by
  have h2 : (sortK l).Nodup := (List.mergeSort_perm l _).nodup_iff.2 h
  have h3 := sortK_le l
  unfold Rise
  have h4 := List.Pairwise.and h3 h2
  refine h4.imp ?_
  rintro a b ⟨h5, h6⟩
  rcases lt_or a b with e | e | e
  · exact e
  · exact absurd e h6
  · exact absurd e h5
theorem fold_mem (g : Fc → Hs) : ∀ (F : List Fc) (l : List Hs) (x : Hs), x ∈ F.foldl (fun l f => withL (g f) l) l ↔ x ∈ l ∨ ∃ f ∈ F, g f = x
  | [], l, x => by simp
  | f :: F, l, x => by
    rw [List.foldl_cons, fold_mem g F (withL (g f) l) x, mem_with]
    constructor
    · rintro ((e | h) | ⟨f', h1, h2⟩)
      · exact .inr ⟨f, by simp, e.symm⟩
      · exact .inl h
      · exact .inr ⟨f', by simp [h1], h2⟩
    · rintro (h | ⟨f', h1, h2⟩)
      · exact .inl (.inr h)
      · rcases List.mem_cons.1 h1 with rfl | h3
        · exact .inl (.inl h2.symm)
        · exact .inr ⟨f', h3, h2⟩
theorem fold_rise (g : Fc → Hs) : ∀ (F : List Fc) (l : List Hs), Rise l → Rise (F.foldl (fun l f => withL (g f) l) l)
  | [], l, h => h
  | f :: F, l, h => fold_rise g F _ (rise_with _ h)
theorem memF_mem {F : List Fc} {x y : Hs} : y ∈ memF F x ↔ ∃ f ∈ F, f.o = x ∧ f.t = [] ∧ f.u = y := by
  unfold memF
  rw [fold_mem (fun f => f.u)]
  constructor
  · rintro (h | ⟨f, h1, h2⟩)
    · cases h
    · have h3 := List.mem_filter.1 h1
      have h4 : f.o = x ∧ f.t = [] := by simpa using h3.2
      exact ⟨f, h3.1, h4.1, h4.2, h2⟩
  · rintro ⟨f, h1, h2, h3, h4⟩
    exact .inr ⟨f, List.mem_filter.2 ⟨h1, by simp [h2, h3]⟩, h4⟩
theorem teaF_mem {F : List Fc} {x y : Hs} : y ∈ teaF F x ↔ ∃ f ∈ F, f.o = x ∧ f.t = y ∧ f.t ≠ [] ∧ f.u = [] := by
  unfold teaF
  rw [fold_mem (fun f => f.t)]
  constructor
  · rintro (h | ⟨f, h1, h2⟩)
    · cases h
    · have h3 := List.mem_filter.1 h1
      have h4 : (f.o = x ∧ f.t ≠ []) ∧ f.u = [] := by simpa using h3.2
      exact ⟨f, h3.1, h4.1.1, h2, h4.1.2, h4.2⟩
  · rintro ⟨f, h1, h2, h3, h4, h5⟩
    exact .inr ⟨f, List.mem_filter.2 ⟨h1, by simp [h2, h4, h5]⟩, h3⟩
theorem memF_rise (F : List Fc) (x : Hs) : Rise (memF F x) := fold_rise (fun f => f.u) _ [] List.Pairwise.nil
theorem teaF_rise (F : List Fc) (x : Hs) : Rise (teaF F x) := fold_rise (fun f => f.t) _ [] List.Pairwise.nil
theorem rGet_none {l : List (Hs × Int)} {u : Hs} : rGet l u = none ↔ u ∉ l.map (·.1) := by
  unfold rGet
  rw [Option.map_eq_none_iff, List.find?_eq_none]
  constructor
  · intro h hm
    obtain ⟨y, hy, e⟩ := List.mem_map.1 hm
    exact h y hy (by simpa using e)
  · intro h y hy e
    exact h (List.mem_map.2 ⟨y, hy, by simpa using e⟩)
theorem rGet_some {l : List (Hs × Int)} {u : Hs} {r : Int} (hnd : (l.map (·.1)).Nodup) : rGet l u = some r ↔ (u, r) ∈ l := by
  constructor
  · intro h
    unfold rGet at h
    obtain ⟨y, h1, h2⟩ := Option.map_eq_some_iff.1 h
    have h3 := List.mem_of_find?_eq_some h1
    have h4 : y.1 = u := by simpa using List.find?_some h1
    rw [← h4, ← h2]
    exact h3
  · intro h
    have h1 := roleOf_mem hnd h
    cases hg : rGet l u with
    | none => exact absurd (List.mem_map.2 ⟨_, h, rfl⟩) (rGet_none.1 hg)
    | some r' =>
      have h2 : roleOf l u = r' := by show (rGet l u).getD 0 = r'; rw [hg]; rfl
      rw [← h2]
      exact congrArg some h1
section
variable {M : Pm} {R : Rp}
theorem Rel.key (h : Rel M R) {g g' : Fc} (h1 : g ∈ R.F) (h2 : g' ∈ R.F) (ho : g.o = g'.o) (ht : g.t = g'.t) (hu : g.u = g'.u) : g = g' := by
  have e1 := (h.f g).1 h1
  have e2 := (h.f g').1 h2
  rw [ho, ht, hu, e2] at e1
  obtain ⟨a, b, c, d⟩ := g
  obtain ⟨a', b', c', d'⟩ := g'
  simp only at ho ht hu e1
  subst ho ht hu
  injection e1 with e1
  rw [e1]
theorem Rel.fct_none (h : Rel M R) {x t u : Hs} (hv : fV M x t u = none) : fct R.F x t u = -1 := by
  rcases fct_cases R.F x t u with ⟨e, _⟩ | ⟨k, f, _, hk, ⟨h1, h2, h3⟩, _⟩
  · exact e
  · have := (h.f f).1 (List.mem_of_getElem? hk)
    rw [h1, h2, h3, hv] at this
    cases this
theorem Rel.fct_some (h : Rel M R) {x t u : Hs} {r : Int} (hv : fV M x t u = some r) : ∃ k : Nat, fct R.F x t u = k ∧ R.F[k]? = some ⟨x, t, u, r⟩ := by
  rcases fct_cases R.F x t u with ⟨_, hn⟩ | ⟨k, f, e, hk, ⟨h1, h2, h3⟩, _⟩
  · exact absurd ⟨rfl, rfl, rfl⟩ (hn ⟨x, t, u, r⟩ ((h.f _).2 hv))
  · refine ⟨k, e, ?_⟩
    rw [hk]
    exact congrArg some (h.key (List.mem_of_getElem? hk) ((h.f _).2 hv) h1 h2 h3)
theorem Rel.fct_iff (h : Rel M R) {x t u : Hs} : fct R.F x t u < 0 ↔ fV M x t u = none := by
  cases hv : fV M x t u with
  | none => rw [h.fct_none hv]; simp
  | some r =>
    obtain ⟨k, e, _⟩ := h.fct_some hv
    rw [e]
    simp
theorem Nd.noname (hn : Nd M) (h : Rel M R) {o : Og} (ho : o ∈ M.orgs) : [] ∉ o.roles.map (·.1) := by
  intro e
  obtain ⟨r, hr, e2⟩ := List.mem_map.1 e
  have := ((hn.ok o ho).roles r hr).1
  rw [e2] at this
  exact h.nu this
theorem Rel.role (h : Rel M R) (hn : Nd M) (x u : Hs) : roleF R.F x u = subR M x u := by
  unfold roleF
  have hs : fV M x [] u = (match M.org x with | none => none | some o => rGet o.roles u) := by
    unfold fV oV
    cases M.org x <;> simp
  have hr : subR M x u = (fV M x [] u).getD 0 := by
    rw [hs]
    unfold subR
    cases M.org x <;> rfl
  by_cases hu : u = []
  · rw [if_pos hu, hr, hs]
    cases ho : M.org x with
    | none => rfl
    | some o =>
      show 0 = (rGet o.roles u).getD 0
      rw [hu, rGet_none.2 (hn.noname h (org_in ho).1)]
      rfl
  · rw [if_neg hu, hr]
    cases hv : fV M x [] u with
    | none => rw [h.fct_none hv]; simp
    | some r =>
      obtain ⟨k, e, hk⟩ := h.fct_some hv
      rw [e, if_neg (by omega), Int.toNat_natCast, hk]
      rfl
theorem Rel.members (h : Rel M R) (hn : Nd M) (x : Hs) : memF R.F x = membersL M x := by
  unfold membersL
  cases ho : M.org x with
  | none =>
    refine List.eq_nil_iff_forall_not_mem.2 fun y hy => ?_
    obtain ⟨f, h1, h2, h3, h4⟩ := memF_mem.1 hy
    have := (h.f f).1 h1
    unfold fV at this
    rw [h2, ho] at this
    cases this
  | some o =>
    refine rise_eq (memF_rise _ _) (sortK_rise (hn.rn o (org_in ho).1)) fun y => ?_
    rw [memF_mem, sortK_mem]
    constructor
    · rintro ⟨f, h1, h2, h3, h4⟩
      have := (h.f f).1 h1
      unfold fV oV at this
      rw [h2, ho, h3] at this
      simp only [if_true] at this
      have h5 := (rGet_some (hn.rn o (org_in ho).1)).1 this
      exact List.mem_map.2 ⟨_, h5, h4⟩
    · intro hy
      obtain ⟨r, hr, e⟩ := List.mem_map.1 hy
      refine ⟨⟨x, [], y, r.2⟩, (h.f _).2 ?_, rfl, rfl, rfl⟩
      unfold fV oV
      rw [ho]
      simp only [if_true]
      exact (rGet_some (hn.rn o (org_in ho).1)).2 (by rw [← e]; exact hr)
theorem Rel.teams (h : Rel M R) (hn : Nd M) (x : Hs) : teaF R.F x = teamsL M x := by
  unfold teamsL
  cases ho : M.org x with
  | none =>
    refine List.eq_nil_iff_forall_not_mem.2 fun y hy => ?_
    obtain ⟨f, h1, h2, _⟩ := teaF_mem.1 hy
    have := (h.f f).1 h1
    unfold fV at this
    rw [h2, ho] at this
    cases this
  | some o =>
    refine rise_eq (teaF_rise _ _) (sortK_rise (hn.tn o (org_in ho).1)) fun y => ?_
    rw [teaF_mem, sortK_mem]
    constructor
    · rintro ⟨f, h1, h2, h3, h4, h5⟩
      have := (h.f f).1 h1
      unfold fV oV at this
      rw [h2, ho] at this
      simp only [if_neg h4] at this
      cases htm : teamOf o.teams f.t with
      | none => rw [htm] at this; cases this
      | some tm =>
        rw [← h3]
        have h6 : tm.name = f.t := by simpa using List.find?_some htm
        exact List.mem_map.2 ⟨tm, List.mem_of_find?_eq_some htm, h6⟩
    · intro hy
      obtain ⟨tm, htm, hin⟩ := teamOf_some hy
      have hne : y ≠ [] := by
        have h6 : tm.name = y := by simpa using List.find?_some htm
        rw [← h6]
        exact h.nt o (org_in ho).1 tm hin
      refine ⟨⟨x, y, [], 0⟩, (h.f _).2 ?_, rfl, rfl, hne, rfl⟩
      unfold fV oV
      rw [ho]
      simp only [if_neg hne, htm]
      simp
theorem Rel.sub (h : Rel M R) (hn : Nd M) (x u : Hs) : subF R.F x u = subT M x u := by
  unfold subF subT
  rw [h.teams hn x]
  unfold teamsL
  cases ho : M.org x with
  | none => simp
  | some o =>
    have hin := (org_in ho).1
    show (if u = [] then [] else (sortK (o.teams.map (·.name))).filter _) = teamsOf o.teams u
    unfold teamsOf
    by_cases hu : u = []
    · rw [if_pos hu]
      refine (List.filter_eq_nil_iff.2 fun t ht => ?_).symm
      unfold inTeam
      cases htm : teamOf o.teams t with
      | none => simp
      | some tm =>
        simp only [decide_eq_true_eq]
        intro hm
        rw [hu] at hm
        exact hn.noname h hin ((hn.ok o hin).mem tm (List.mem_of_find?_eq_some htm) _ hm)
    · rw [if_neg hu]
      refine List.filter_congr fun t ht => ?_
      obtain ⟨tm, htm, hti⟩ := teamOf_some (sortK_mem.1 ht)
      have hne : t ≠ [] := by
        have h6 : tm.name = t := by simpa using List.find?_some htm
        rw [← h6]
        exact h.nt o hin tm hti
      have e1 : fV M x t u = if u ∈ tm.mem then some 0 else none := by
        unfold fV oV
        rw [ho]
        simp [hne, htm, hu]
      have e2 : inTeam o.teams u t = decide (u ∈ tm.mem) := by unfold inTeam; rw [htm]
      rw [e2]
      by_cases hm : u ∈ tm.mem
      · rw [if_pos hm] at e1
        obtain ⟨k, e, _⟩ := h.fct_some e1
        rw [e]
        simp [hm]
      · rw [if_neg hm] at e1
        rw [h.fct_none e1]
        simp [hm]
theorem Rel.own (h : Rel M R) (hn : Nd M) {x : Hs} {o : Og} (ho : M.org x = some o) : ownF R.F x = owners o.roles := by
  have hin := (org_in ho).1
  unfold ownF
  rw [h.members hn x]
  unfold membersL
  rw [ho]
  show (sortK (o.roles.map (·.1))).countP _ = _
  unfold sortK
  rw [(List.mergeSort_perm (o.roles.map (·.1)) _).countP_eq, List.countP_map]
  unfold owners
  refine List.countP_congr fun r hr => ?_
  have : roleF R.F x r.1 = r.2 := by
    rw [h.role hn]
    unfold subR
    rw [ho]
    exact roleOf_mem (hn.rn o hin) hr
  simp [this]
theorem Rel.last (h : Rel M R) (hn : Nd M) {x : Hs} {o : Og} (ho : M.org x = some o) (u : Hs) : lastF R.F x u = lastOwner o.roles u := by
  unfold lastF lastOwner
  rw [h.own hn ho, h.role hn]
  unfold subR
  rw [ho]
end
end Go.Proofs.Ytfickhhfhdhcbaa.Oct

/- Layer 15 (people): the document's people: the two side by side: the facts, changed. -/
namespace Go.Proofs.Ytfickhhfhdhcbaa.Oct
open Go.RowKit
set_option linter.unusedSimpArgs false
set_option linter.unusedVariables false


def FRel (F : List Fc) (v : Hs → Hs → Hs → Option Int) : Prop := F.Nodup ∧ ∀ g : Fc, g ∈ F ↔ v g.o g.t g.u = some g.r
theorem Fc.ext' {f g : Fc} (h1 : f.o = g.o) (h2 : f.t = g.t) (h3 : f.u = g.u) (h4 : f.r = g.r) : f = g := by
  obtain ⟨a, b, c, d⟩ := f
  obtain ⟨a', b', c', d'⟩ := g
  simp only at h1 h2 h3 h4
  subst h1 h2 h3 h4
  rfl
section
variable {F : List Fc} {v v' : Hs → Hs → Hs → Option Int} {x t u : Hs} {r : Int}
theorem FRel.add (h : FRel F v) (hn : v x t u = none) (hv : ∀ a b c, v' a b c = if a = x ∧ b = t ∧ c = u then some r else v a b c) : FRel (F ++ [⟨x, t, u, r⟩]) v' := by
  refine ⟨?_, fun g => ?_⟩
  · rw [List.nodup_append]
    refine ⟨h.1, by simp, fun a ha b hb e => ?_⟩
    simp at hb
    subst hb
    subst e
    have := (h.2 _).1 ha
    simp only [hn] at this
    cases this
  · rw [List.mem_append, List.mem_singleton, hv, h.2]
    by_cases e : g.o = x ∧ g.t = t ∧ g.u = u
    · rw [if_pos e]
      constructor
      · rintro (h1 | h1)
        · rw [e.1, e.2.1, e.2.2, hn] at h1; cases h1
        · rw [h1]
      · intro h1
        injection h1 with h1
        exact .inr (Fc.ext' e.1 e.2.1 e.2.2 h1.symm)
    · rw [if_neg e]
      constructor
      · rintro (h1 | h1)
        · exact h1
        · exact absurd ⟨by rw [h1], by rw [h1], by rw [h1]⟩ e
      · exact fun h1 => .inl h1
theorem FRel.del (h : FRel F v) {k : Nat} (hk : F[k]? = some ⟨x, t, u, r⟩) (hv : ∀ a b c, v' a b c = if a = x ∧ b = t ∧ c = u then none else v a b c) : FRel (F.eraseIdx k) v' := by
  have hm : ∀ g, g ∈ F.eraseIdx k ↔ g ∈ F ∧ g ≠ ⟨x, t, u, r⟩ := by
    intro g
    rw [List.mem_eraseIdx_iff_getElem?]
    constructor
    · rintro ⟨i, hi, e⟩
      refine ⟨List.mem_of_getElem? e, fun e2 => hi ?_⟩
      rw [e2] at e
      obtain ⟨l1, e1⟩ := List.getElem?_eq_some_iff.1 e
      obtain ⟨l2, e3⟩ := List.getElem?_eq_some_iff.1 hk
      have hp := List.pairwise_iff_getElem.1 h.1
      rcases Nat.lt_trichotomy i k with h5 | h5 | h5
      · exact absurd (e1.trans e3.symm) (hp i k l1 l2 h5)
      · exact h5
      · exact absurd (e3.trans e1.symm) (hp k i l2 l1 h5)
    · rintro ⟨h1, h2⟩
      obtain ⟨i, hi⟩ := List.mem_iff_getElem?.1 h1
      refine ⟨i, fun e => ?_, hi⟩
      rw [e, hk] at hi
      injection hi with hi
      exact h2 hi.symm
  have h0 := (h.2 ⟨x, t, u, r⟩).1 (List.mem_of_getElem? hk)
  refine ⟨h.1.sublist (List.eraseIdx_sublist _ _), fun g => ?_⟩
  rw [hm, hv, h.2]
  by_cases e : g.o = x ∧ g.t = t ∧ g.u = u
  · rw [if_pos e]
    constructor
    · rintro ⟨h1, h2⟩
      rw [e.1, e.2.1, e.2.2, h0] at h1
      injection h1 with h1
      exact absurd (Fc.ext' e.1 e.2.1 e.2.2 h1.symm) h2
    · intro h1; cases h1
  · rw [if_neg e]
    exact ⟨fun h1 => h1.1, fun h1 => ⟨h1, fun e2 => e ⟨by rw [e2], by rw [e2], by rw [e2]⟩⟩⟩
theorem FRel.filt (h : FRel F v) (hv : ∀ a b c, v' a b c = if a = x ∧ c = u then none else v a b c) : FRel (F.filter (fun f => f.o != x || f.u != u)) v' := by
  refine ⟨h.1.sublist List.filter_sublist, fun g => ?_⟩
  rw [List.mem_filter, hv, h.2]
  by_cases e : g.o = x ∧ g.u = u
  · rw [if_pos e]
    simp [e.1, e.2]
  · rw [if_neg e]
    constructor
    · exact fun h1 => h1.1
    · intro h1
      refine ⟨h1, ?_⟩
      by_cases e1 : g.o = x
      · have : g.u ≠ u := fun e2 => e ⟨e1, e2⟩
        simp [this]
      · simp [e1]
theorem FRel.put (h : FRel F v) (hv : ∀ a b c, v' a b c = if a = x ∧ b = [] ∧ c = u then some r else v a b c) : FRel (joF F x u ++ [⟨x, [], u, r⟩]) v' := by
  unfold joF
  rcases fct_cases F x [] u with ⟨e, hn⟩ | ⟨k, f, e, hk, ⟨h1, h2, h3⟩, _⟩
  · rw [if_pos (by rw [e]; omega)]
    refine h.add ?_ hv
    cases h4 : v x [] u with
    | none => rfl
    | some r' => exact absurd ⟨rfl, rfl, rfl⟩ (hn ⟨x, [], u, r'⟩ ((h.2 _).2 h4))
  · rw [if_neg (by rw [e]; omega), e, Int.toNat_natCast]
    have hf : f = ⟨x, [], u, f.r⟩ := Fc.ext' h1 h2 h3 rfl
    rw [hf] at hk
    have := h.del (v' := fun a b c => if a = x ∧ b = [] ∧ c = u then none else v a b c) hk (fun _ _ _ => rfl)
    refine this.add (by simp) (fun a b c => ?_)
    rw [hv]
    by_cases e2 : a = x ∧ b = [] ∧ c = u
    · rw [if_pos e2, if_pos e2]
    · rw [if_neg e2, if_neg e2, if_neg e2]
end
theorem Rel.fr {M : Pm} {R : Rp} (h : Rel M R) : FRel R.F (fV M) := ⟨h.nd, h.f⟩
/-- one organisation is another one -/
theorem OneIs.get {M M' : Pm} {x : Hs} {f : Og → Og → Prop} (h : OneIs M x f M') (hn : Nd M) (hf : ∀ o o', f o o' → o'.name = o.name) : ∃ o o', M.org x = some o ∧ f o o' ∧ (∀ a b c, fV M' a b c = if a = x then oV o' b c else fV M a b c) ∧ M'.users = M.users ∧ orgsL M' = orgsL M ∧ o ∈ M.orgs ∧ ∀ q ∈ M'.orgs, q = o' ∨ q ∈ M.orgs := by
  have hoth := fun y (hy : y ≠ x) => h.org hy hf
  obtain ⟨A, o, B, o', h1, h2, h3, rfl⟩ := h
  have hnm : o.name = x := (org_in h1).2
  have hnm' : o'.name = x := by rw [hf o o' h3, hnm]
  have hA : A.find? (fun o => o.name == x) = none := by
    rw [List.find?_eq_none]
    intro q hq e
    have hnd := hn.on
    rw [h2, List.map_append, List.map_cons, List.nodup_append] at hnd
    exact hnd.2.2 q.name (List.mem_map.2 ⟨q, hq, rfl⟩) o.name (by simp) (by rw [hnm]; simpa using e)
  have hx : ({ M with orgs := A ++ o' :: B } : Pm).org x = some o' := by
    unfold Pm.org
    rw [List.find?_append, hA, List.find?_cons, show (o'.name == x) = true by simpa using hnm']
    rfl
  refine ⟨o, o', h1, h3, fun a b c => ?_, rfl, ?_, by rw [h2]; simp, fun q hq => ?_⟩
  · by_cases e : a = x
    · rw [if_pos e, e]
      unfold fV
      rw [hx]
    · rw [if_neg e]
      unfold fV
      rw [hoth a e]
  · unfold orgsL
    congr 1
    rw [h2]
    simp [hf o o' h3]
  · have hq : q ∈ A ++ o' :: B := hq
    rw [h2]
    simp at hq ⊢
    rcases hq with hq | hq | hq
    · exact .inr (.inl hq)
    · exact .inl hq
    · exact .inr (.inr (.inr hq))
theorem fV_org {M : Pm} {x : Hs} {o : Og} (h : M.org x = some o) (b c : Hs) : fV M x b c = oV o b c := by unfold fV; rw [h]
/-- a team is another one -/
theorem TeamIs.get {o o' : Og} {t : Hs} {f : Tm → Tm → Prop} (h : TeamIs t f o o') (hn : (o.teams.map (·.name)).Nodup) (hf : ∀ a b, f a b → b.name = a.name) : ∃ tm tm', teamOf o.teams t = some tm ∧ tm ∈ o.teams ∧ tm.name = t ∧ f tm tm' ∧ o'.roles = o.roles ∧ (∀ s, teamOf o'.teams s = if s = t then some tm' else teamOf o.teams s) ∧ ∀ q ∈ o'.teams, q.name ∈ o.teams.map (·.name) := by
  obtain ⟨S, tm, T, tm', h1, h2, h3, rfl⟩ := h
  have hnm : tm.name = t := by simpa using List.find?_some h1
  have hnm' : tm'.name = t := by rw [hf tm tm' h3, hnm]
  refine ⟨tm, tm', h1, by rw [h2]; simp, hnm, h3, rfl, fun s => ?_, fun q hq => ?_⟩
  · by_cases e : s = t
    · subst e
      rw [if_pos rfl]
      have hA : S.find? (fun o => o.name == s) = none := by
        rw [List.find?_eq_none]
        intro q hq e
        rw [h2, List.map_append, List.map_cons, List.nodup_append] at hn
        exact hn.2.2 q.name (List.mem_map.2 ⟨q, hq, rfl⟩) tm.name (by simp) (by rw [hnm]; simpa using e)
      show (S ++ tm' :: T).find? _ = _
      rw [List.find?_append, hA, List.find?_cons, show (tm'.name == s) = true by simpa using hnm']
      rfl
    · rw [if_neg e]
      show (S ++ tm' :: T).find? _ = o.teams.find? _
      rw [h2, List.find?_append, List.find?_append, List.find?_cons, List.find?_cons, show (tm'.name == s) = false by rw [hnm']; simpa using fun e2 => e e2.symm, show (tm.name == s) = false by rw [hnm]; simpa using fun e2 => e e2.symm]
  · have hq : q ∈ S ++ tm' :: T := hq
    rw [h2]
    simp at hq ⊢
    rcases hq with hq | hq | hq
    · exact .inl ⟨q, hq, rfl⟩
    · exact .inr (.inl (by rw [hq, hnm', hnm]))
    · exact .inr (.inr ⟨q, hq, rfl⟩)
theorem rGet_put {l : List (Hs × Int)} {u : Hs} {r : Int} (c : Hs) : rGet (rput l u r) c = if c = u then some r else rGet l c := by
  unfold rput
  by_cases hi : inRoles l u = true
  · rw [if_pos hi]
    have hm : u ∈ l.map (·.1) := by unfold inRoles at hi; simpa using hi
    clear hi
    induction l with
    | nil => cases hm
    | cons y l ih =>
      unfold rGet at ih ⊢
      rw [List.map_cons, List.find?_cons, List.find?_cons]
      by_cases e : y.1 = u
      · rw [if_pos e]
        by_cases e2 : c = u
        · subst e2; simp
        · have e3 : ((u, r).1 == c) = false := by simpa using fun e => e2 e.symm
          have e4 : (y.1 == c) = false := by rw [e]; exact e3
          rw [e3, e4, if_neg e2]
          by_cases hm2 : u ∈ l.map (·.1)
          · rw [ih hm2, if_neg e2]
          · congr 1
            have : l.map (fun y => if y.1 = u then (u, r) else y) = l := by
              conv => rhs; rw [← List.map_id l]
              refine List.map_congr_left fun z hz => ?_
              rw [if_neg (fun e5 => hm2 (List.mem_map.2 ⟨z, hz, e5⟩))]
              rfl
            rw [this]
      · rw [if_neg e]
        have hm2 : u ∈ l.map (·.1) := by
          rcases List.mem_cons.1 hm with h | h
          · exact absurd h.symm e
          · exact h
        by_cases e2 : y.1 = c
        · have e4 : (y.1 == c) = true := by simpa using e2
          rw [e4, if_neg (fun e5 => e (e2.trans e5))]
        · have e4 : (y.1 == c) = false := by simpa using e2
          rw [e4]
          exact ih hm2
  · rw [if_neg hi]
    have hm : u ∉ l.map (·.1) := by unfold inRoles at hi; simpa using hi
    have hg := rGet_none.2 hm
    unfold rGet at hg ⊢
    rw [List.find?_append]
    by_cases e2 : c = u
    · subst e2
      rw [if_pos rfl, Option.map_eq_none_iff.1 hg]
      simp
    · rw [if_neg e2]
      have e3 : ((u, r).1 == c) = false := by simpa using fun e => e2 e.symm
      rw [List.find?_cons, e3]
      simp
theorem rGet_del {l : List (Hs × Int)} {u : Hs} (c : Hs) : rGet (rdel l u) c = if c = u then none else rGet l c := by
  unfold rdel rGet
  rw [List.find?_filter]
  by_cases e : c = u
  · rw [if_pos e, Option.map_eq_none_iff, List.find?_eq_none]
    intro y hy
    simp
    intro h1 h2
    exact h1 (by rw [h2, e])
  · rw [if_neg e]
    congr 1
    congr 1
    funext y
    by_cases e2 : y.1 = c
    · simp [e2, e]
    · simp [e2]
theorem teamOf_map (l : List Tm) (u t : Hs) : teamOf (l.map (tout u)) t = (teamOf l t).map (tout u) := by
  unfold teamOf
  rw [List.find?_map]
  rfl
end Go.Proofs.Ytfickhhfhdhcbaa.Oct

/- Layer 15 (people): the document's people: the two side by side: each call. -/
namespace Go.Proofs.Ytfickhhfhdhcbaa.Oct
open Go.RowKit
set_option linter.unusedSimpArgs false
set_option linter.unusedVariables false


theorem name_ne {x : Hs} (h : isName x = true) : x ≠ [] := by
  rintro rfl
  revert h
  decide
theorem teamOf_none {l : List Tm} {t : Hs} : teamOf l t = none ↔ t ∉ l.map (·.name) := by
  unfold teamOf
  rw [List.find?_eq_none]
  constructor
  · intro h hm
    obtain ⟨y, hy, e⟩ := List.mem_map.1 hm
    exact h y hy (by simpa using e)
  · intro h y hy e
    exact h (List.mem_map.2 ⟨y, hy, by simpa using e⟩)
section
variable {M M' : Pm} {R : Rp}
theorem Rel.memU (h : Rel M R) {u : Hs} : u ∈ R.U ↔ u ∈ M.users := by rw [h.U]; exact sortK_mem
theorem Rel.memO (h : Rel M R) {x : Hs} : x ∈ R.O ↔ (M.org x).isSome = true := by
  rw [h.O]
  unfold orgsL Pm.org
  rw [sortK_mem, List.find?_isSome]
  constructor
  · intro hm
    obtain ⟨o, ho, e⟩ := List.mem_map.1 hm
    exact ⟨o, ho, by simpa using e⟩
  · rintro ⟨o, ho, e⟩
    exact List.mem_map.2 ⟨o, ho, by simpa using e⟩
theorem Rel.memT (h : Rel M R) (hn : Nd M) {x : Hs} {o : Og} (ho : M.org x = some o) {t : Hs} : t ∈ teaF R.F x ↔ t ∈ o.teams.map (·.name) := by
  rw [h.teams hn]
  unfold teamsL
  rw [ho]
  exact sortK_mem
theorem Rel.lenT (h : Rel M R) (hn : Nd M) {x : Hs} {o : Og} (ho : M.org x = some o) : (teaF R.F x).length = o.teams.length := by
  rw [h.teams hn]
  unfold teamsL
  rw [ho]
  show (sortK _).length = _
  rw [sortK_length, List.length_map]
theorem role_iff (hn : Nd M) {x : Hs} {o : Og} (ho : M.org x = some o) {u : Hs} : subR M x u = 0 ↔ inRoles o.roles u = false := by
  have hin := (org_in ho).1
  unfold subR
  rw [ho]
  show roleOf o.roles u = 0 ↔ _
  unfold inRoles
  constructor
  · intro h
    refine decide_eq_false fun hm => ?_
    obtain ⟨y, hy, e⟩ := List.mem_map.1 hm
    rw [← e, roleOf_mem (hn.rn o hin) hy] at h
    rcases ((hn.ok o hin).roles y hy).2 with h2 | h2 <;> omega
  · intro h
    have h2 : u ∉ o.roles.map (·.1) := by simpa using h
    show (rGet o.roles u).getD 0 = 0
    rw [rGet_none.2 h2]
    rfl
/-- AddUser -/
theorem Rel.addU (h : Rel M R) (hn : Nd M) (u : Hs) : (rAddU R u).2 = (M.addUser u).1 ∧ Rel (M.addUser u).2 (rAddU R u).1 := by
  unfold rAddU Pm.addUser begins
  by_cases h1 : isName u = true
  · rw [if_neg (by rw [h1]; simp)]
    by_cases h2 : u ∈ M.users
    · rw [if_pos (h.memU.2 h2)]
      simp only [h1, h2]
      exact ⟨rfl, h⟩
    · rw [if_neg (fun e => h2 (h.memU.1 e))]
      have hl : R.U.length = M.users.length := by rw [h.U, sortK_length]
      by_cases h3 : 64 ≤ M.users.length
      · rw [if_pos (by rw [hl]; exact h3)]
        simp only [h1, h2, h3]
        exact ⟨rfl, h⟩
      · rw [if_neg (by rw [hl]; exact h3)]
        simp only [h1, h2, h3]
        refine ⟨rfl, ?_, h.O, h.nd, h.f, ?_, h.nt⟩
        · show withL u R.U = sortK (addK M.users u)
          unfold addK
          rw [if_neg h2]
          refine rise_eq (rise_with _ (by rw [h.U]; exact sortK_rise hn.un)) (sortK_rise ?_) fun y => ?_
          · rw [List.nodup_append]
            exact ⟨hn.un, by simp, fun a ha b hb e => h2 (by simp at hb; rw [← hb, ← e]; exact ha)⟩
          · rw [mem_with, sortK_mem, h.memU]
            simp [or_comm]
        · show [] ∉ addK M.users u
          unfold addK
          rw [if_neg h2]
          simp
          exact ⟨h.nu, fun e => name_ne h1 e⟩
  · have h1' : isName u = false := by simpa using h1
    rw [if_pos h1']
    simp only [h1']
    exact ⟨rfl, h⟩
/-- AddOrg -/
theorem Rel.addO (h : Rel M R) (hn : Nd M) (x u : Hs) : (rAddO R x u).2 = M.addOrgE x u ∧ (M.addOrgE x u ≠ 0 → (rAddO R x u).1 = R) ∧ (M.addOrgE x u = 0 → ∀ b, Rel { M with orgs := M.orgs ++ [newOg x u b] } (rAddO R x u).1) := by
  unfold rAddO Pm.addOrgE begins
  by_cases h1 : isName x = true
  · rw [if_neg (by rw [h1]; simp)]
    by_cases h2 : (M.org x).isSome = true
    · rw [if_pos (h.memO.2 h2)]
      simp [h1, h2]
    · have h2' : (M.org x).isSome = false := by simpa using h2
      have h20 : M.org x = none := by simpa using h2
      rw [if_neg (fun e => h2 (h.memO.1 e))]
      by_cases h3 : u ∈ M.users
      · rw [if_neg (fun e => e (h.memU.2 h3))]
        have hl : R.O.length = M.orgs.length := by rw [h.O]; unfold orgsL; rw [sortK_length, List.length_map]
        by_cases h4 : 8 ≤ M.orgs.length
        · rw [if_pos (by rw [hl]; exact h4)]
          simp [h1, h2', h3, h4]
        · rw [if_neg (by rw [hl]; exact h4)]
          refine ⟨by simp [h1, h2', h3, h4], fun e => absurd (by simp [h1, h2', h3, h4]) e, fun _ b => ?_⟩
          have hxn : x ∉ M.orgs.map (·.name) := by
            intro e
            have := h.memO.1 (by rw [h.O]; exact sortK_mem.2 e)
            exact h2 this
          have hv : ∀ a t c, fV { M with orgs := M.orgs ++ [newOg x u b] } a t c = if a = x ∧ t = [] ∧ c = u then some 2 else fV M a t c := by
            intro a t c
            unfold fV
            by_cases e : a = x
            · subst e
              have e1 : ({ M with orgs := M.orgs ++ [newOg a u b] } : Pm).org a = some (newOg a u b) := by
                unfold Pm.org
                rw [List.find?_append, show M.orgs.find? (fun o => o.name == a) = none from h20]
                simp [newOg]
              rw [e1, h20]
              show oV (newOg a u b) t c = _
              unfold oV newOg
              by_cases e2 : t = []
              · by_cases e3 : c = u
                · subst e2 e3; simp [rGet]
                · have e3' : ¬ u = c := fun e => e3 e.symm
                  simp [e2, e3, e3', rGet]
              · simp [e2, teamOf]
            · rw [if_neg (fun e2 => e e2.1)]
              have e1 : ({ M with orgs := M.orgs ++ [newOg x u b] } : Pm).org a = M.org a := by
                unfold Pm.org
                have e2 : ((newOg x u b).name == a) = false := by
                  show (x == a) = false
                  simpa using fun e2 => e e2.symm
                rw [List.find?_append, List.find?_cons, e2]
                simp
              rw [e1]
          have hf := h.fr.add (x := x) (t := []) (u := u) (r := 2) (by unfold fV; rw [h20]) hv
          refine ⟨h.U, ?_, hf.1, hf.2, h.nu, ?_⟩
          · show withL x R.O = sortK ((M.orgs ++ [newOg x u b]).map (·.name))
            refine rise_eq (rise_with _ (by rw [h.O]; exact sortK_rise hn.on)) (sortK_rise ?_) fun y => ?_
            · rw [List.map_append, List.nodup_append]
              exact ⟨hn.on, by simp, fun a ha c hc e => hxn (by simp [newOg] at hc; rw [← hc, ← e]; exact ha)⟩
            · rw [mem_with, sortK_mem, h.O, List.map_append, List.mem_append]
              unfold orgsL
              rw [sortK_mem]
              simp [newOg, or_comm]
          · intro o ho t ht
            have ho : o ∈ M.orgs ++ [newOg x u b] := ho
            rcases List.mem_append.1 ho with h5 | h5
            · exact h.nt o h5 t ht
            · simp at h5
              subst h5
              cases ht
      · rw [if_pos (fun e => h3 (h.memU.1 e))]
        simp [h1, h2', h3]
  · have h1' : isName x = false := by simpa using h1
    rw [if_pos h1']
    simp [h1']
/-- Join -/
theorem Rel.join (h : Rel M R) (hn : Nd M) (x u : Hs) (r : Int) : (rJoin R x u r).2 = M.joinE x u r ∧ (M.joinE x u r ≠ 0 → (rJoin R x u r).1 = R) ∧ (M.joinE x u r = 0 → ∀ M', OneIs M x (fun o o' => o' = { o with roles := rput o.roles u r }) M' → Rel M' (rJoin R x u r).1) := by
  unfold rJoin Pm.joinE
  cases ho : M.org x with
  | none =>
    rw [if_pos (fun e => by have := h.memO.1 e; rw [ho] at this; cases this)]
    simp
  | some o =>
    rw [if_neg (fun e => e (h.memO.2 (by rw [ho]; rfl)))]
    by_cases h3 : u ∈ M.users
    · rw [if_neg (fun e => e (h.memU.2 h3))]
      by_cases h4 : r ≠ 1 ∧ r ≠ 2
      · rw [if_pos h4]
        simp [h3, h4]
      · rw [if_neg h4, h.last hn ho]
        by_cases h5 : lastOwner o.roles u = true ∧ r = 1
        · rw [if_pos h5]
          simp only [not_true, if_false, h3, h4, if_pos (And.intro h5.2 h5.1)]
          simp
        · rw [if_neg h5]
          have h6 : ¬ (r = 1 ∧ lastOwner o.roles u = true) := fun e => h5 ⟨e.2, e.1⟩
          simp only [not_true, if_false, h3, h4, if_neg h6]
          refine ⟨by simp, by simp, fun _ M' hM => ?_⟩
          obtain ⟨o1, o', e1, rfl, hv, hu, hO, hin, hq⟩ := hM.get hn (fun a b e => by rw [e])
          rw [ho] at e1
          cases e1
          have hf := h.fr.put (x := x) (u := u) (r := r) (v' := fV M') (fun a b c => by
            rw [hv]
            by_cases e : a = x
            · subst e
              rw [if_pos rfl, fV_org ho]
              unfold oV
              by_cases e2 : b = []
              · rw [if_pos e2, if_pos e2]
                show rGet (rput o.roles u r) c = _
                rw [rGet_put]
                simp [e2]
              · rw [if_neg e2, if_neg e2, if_neg (fun e3 => e2 e3.2.1)]
            · rw [if_neg e, if_neg (fun e3 => e e3.1)])
          refine ⟨by rw [hu]; exact h.U, by rw [hO]; exact h.O, hf.1, hf.2, by rw [hu]; exact h.nu, fun q hqi t ht => ?_⟩
          rcases hq q hqi with rfl | hq
          · exact h.nt o hin t ht
          · exact h.nt q hq t ht
    · rw [if_pos (fun e => h3 (h.memU.1 e))]
      simp [h3]
/-- Leave -/
theorem Rel.leave (h : Rel M R) (hn : Nd M) (x u : Hs) : (rLeave R x u).2 = M.leaveE x u ∧ (M.leaveE x u ≠ 0 → (rLeave R x u).1 = R) ∧ (M.leaveE x u = 0 → ∀ M', OneIs M x (fun o o' => o' = o.out u) M' → Rel M' (rLeave R x u).1) := by
  unfold rLeave Pm.leaveE
  rw [h.role hn]
  cases ho : M.org x with
  | none =>
    rw [if_pos (by unfold subR; rw [ho])]
    simp
  | some o =>
    by_cases h3 : inRoles o.roles u = true
    · rw [if_neg (fun e => by rw [(role_iff hn ho).1 e] at h3; cases h3), h.last hn ho]
      by_cases h5 : lastOwner o.roles u = true
      · simp [h3, h5]
      · have h5' : lastOwner o.roles u = false := by simpa using h5
        simp only [h3, h5', if_true]
        refine ⟨by simp, fun e => absurd (by simp) e, fun _ M' hM => ?_⟩
        have hune : u ≠ [] := fun e => hn.noname h (org_in ho).1 (by unfold inRoles at h3; rw [← e]; simpa using h3)
        obtain ⟨o1, o', e1, rfl, hv, hu, hO, hin, hq⟩ := hM.get hn (fun a b e => by rw [e]; rfl)
        rw [ho] at e1
        cases e1
        have hf := h.fr.filt (x := x) (u := u) (v' := fV M') (fun a b c => by
          rw [hv]
          by_cases e : a = x
          · subst e
            rw [if_pos rfl, fV_org ho]
            unfold oV Og.out
            by_cases e2 : b = []
            · simp only [if_pos e2]
              rw [rGet_del]
              simp
            · simp only [if_neg e2]
              rw [teamOf_map]
              cases htm : teamOf o.teams b with
              | none => simp
              | some tm =>
                by_cases e3 : c = u
                · subst e3
                  simp [tout, kout, hune]
                · simp [tout, kout, e3]
          · rw [if_neg e, if_neg (fun e3 => e e3.1)])
        refine ⟨by rw [hu]; exact h.U, by rw [hO]; exact h.O, hf.1, hf.2, by rw [hu]; exact h.nu, fun q hqi t ht => ?_⟩
        rcases hq q hqi with rfl | hq
        · obtain ⟨t', ht', rfl⟩ := List.mem_map.1 (show t ∈ o.teams.map (tout u) from ht)
          exact h.nt o hin t' ht'
        · exact h.nt q hq t ht
    · have h3' : inRoles o.roles u = false := by simpa using h3
      rw [if_pos ((role_iff hn ho).2 h3')]
      simp [h3']
/-- AddTeam -/
theorem Rel.team (h : Rel M R) (hn : Nd M) (x t : Hs) : (rTeam R x t).2 = M.teamE x t ∧ (M.teamE x t ≠ 0 → (rTeam R x t).1 = R) ∧ (M.teamE x t = 0 → ∀ M', OneIs M x (fun o o' => ∃ nb, o' = { o with teams := o.teams ++ [Tm.mk t nb []] }) M' → Rel M' (rTeam R x t).1) := by
  unfold rTeam Pm.teamE
  cases ho : M.org x with
  | none =>
    rw [if_pos (fun e => by have := h.memO.1 e; rw [ho] at this; cases this)]
    simp
  | some o =>
    rw [if_neg (fun e => e (h.memO.2 (by rw [ho]; rfl)))]
    show _ = teamE o.teams t ∧ (teamE o.teams t ≠ 0 → _) ∧ (teamE o.teams t = 0 → _)
    unfold teamE begins
    by_cases h1 : isName t = true
    · rw [if_neg (by rw [h1]; simp)]
      by_cases h2 : t ∈ o.teams.map (·.name)
      · have h2' : isTeam o.teams t = true := by unfold isTeam; simpa using h2
        rw [if_pos ((h.memT hn ho).2 h2)]
        simp [h1, h2']
      · have h2' : isTeam o.teams t = false := by unfold isTeam; simpa using h2
        rw [if_neg (fun e => h2 ((h.memT hn ho).1 e)), h.lenT hn ho]
        by_cases h4 : 8 ≤ o.teams.length
        · rw [if_pos h4]
          simp [h1, h2', h4]
        · rw [if_neg h4]
          refine ⟨by simp [h1, h2', h4], fun e => absurd (by simp [h1, h2', h4]) e, fun _ M' hM => ?_⟩
          obtain ⟨o1, o', e1, ⟨nb, rfl⟩, hv, hu, hO, hin, hq⟩ := hM.get hn (fun a b e => by obtain ⟨_, e⟩ := e; rw [e])
          rw [ho] at e1
          cases e1
          have htn := name_ne h1
          have h20 := teamOf_none.2 h2
          have hf := h.fr.add (x := x) (t := t) (u := []) (r := 0) (v' := fV M') (by rw [fV_org ho]; unfold oV; rw [if_neg htn, h20]) (fun a b c => by
            rw [hv]
            by_cases e : a = x
            · subst e
              rw [if_pos rfl, fV_org ho]
              unfold oV
              by_cases e2 : b = []
              · rw [if_pos e2, if_pos e2, if_neg (fun e3 => htn (e3.2.1.symm.trans e2))]
              · rw [if_neg e2, if_neg e2]
                by_cases e3 : b = t
                · subst e3
                  have e4 : teamOf (o.teams ++ [Tm.mk b nb []]) b = some (Tm.mk b nb []) := by
                    unfold teamOf at h20 ⊢
                    rw [List.find?_append, h20]
                    simp
                  simp only [e4, h20]
                  simp
                · have e4 : teamOf (o.teams ++ [Tm.mk t nb []]) b = teamOf o.teams b := by
                    unfold teamOf
                    rw [List.find?_append, List.find?_cons, show ((Tm.mk t nb []).name == b) = false by show (t == b) = false; simpa using fun e5 => e3 e5.symm]
                    simp
                  simp only [e4]
                  rw [if_neg (fun e5 => e3 e5.2.1)]
            · rw [if_neg e, if_neg (fun e3 => e e3.1)])
          refine ⟨by rw [hu]; exact h.U, by rw [hO]; exact h.O, hf.1, hf.2, by rw [hu]; exact h.nu, fun q hqi s hs => ?_⟩
          rcases hq q hqi with rfl | hq
          · have hs : s ∈ o.teams ++ [Tm.mk t nb []] := hs
            rcases List.mem_append.1 hs with h5 | h5
            · exact h.nt o hin s h5
            · simp at h5
              subst h5
              exact htn
          · exact h.nt q hq s hs
    · have h1' : isName t = false := by simpa using h1
      rw [if_pos h1']
      simp [h1']
/-- Put -/
theorem Rel.put (h : Rel M R) (hn : Nd M) (x t u : Hs) : (rPut R x t u).2 = M.putE x t u ∧ (M.putE x t u ≠ 0 → (rPut R x t u).1 = R) ∧ (M.putE x t u = 0 → ∀ M', OneIs M x (TeamIs t fun b b' => b' = { b with mem := addK b.mem u }) M' → Rel M' (rPut R x t u).1) := by
  unfold rPut Pm.putE
  rw [h.role hn]
  cases ho : M.org x with
  | none =>
    rw [if_pos (fun e => by rw [h.teams hn] at e; unfold teamsL at e; rw [ho] at e; cases e)]
    simp
  | some o =>
    dsimp only
    cases htm : teamOf o.teams t with
    | none =>
      rw [if_pos (fun e => teamOf_none.1 htm ((h.memT hn ho).1 e))]
      simp
    | some tm =>
      have htin := List.mem_of_find?_eq_some htm
      have htnm : tm.name = t := by simpa using List.find?_some htm
      have htn : t ≠ [] := by rw [← htnm]; exact h.nt o (org_in ho).1 tm htin
      rw [if_neg (fun e => e ((h.memT hn ho).2 (List.mem_map.2 ⟨tm, htin, htnm⟩)))]
      by_cases h3 : inRoles o.roles u = true
      · rw [if_neg (fun e => by rw [(role_iff hn ho).1 e] at h3; cases h3)]
        have hune : u ≠ [] := fun e => hn.noname h (org_in ho).1 (by unfold inRoles at h3; rw [← e]; simpa using h3)
        have hfv : fV M x t u = if u ∈ tm.mem then some 0 else none := by
          rw [fV_org ho]
          unfold oV
          simp [htn, htm, hune]
        by_cases h4 : u ∈ tm.mem
        · rw [if_pos h4] at hfv
          obtain ⟨k, e, _⟩ := h.fct_some hfv
          rw [if_pos (by rw [e]; omega)]
          simp [h3, h4]
        · rw [if_neg h4] at hfv
          rw [if_neg (by rw [h.fct_none hfv]; omega)]
          refine ⟨by simp [h3, h4], fun e => absurd (by simp [h3, h4]) e, fun _ M' hM => ?_⟩
          obtain ⟨o1, o', e1, hti, hv, hu, hO, hin, hq⟩ := hM.get hn (fun a b e => by obtain ⟨_, _, _, _, _, _, _, e⟩ := e; rw [e])
          rw [ho] at e1
          cases e1
          obtain ⟨tm1, tm', g1, g2, g3, rfl, g5, g6, g7⟩ := hti.get (hn.tn o hin) (fun a b e => by rw [e])
          rw [htm] at g1
          cases g1
          have hf := h.fr.add (x := x) (t := t) (u := u) (r := 0) (v' := fV M') hfv (fun a b c => by
            rw [hv]
            by_cases e : a = x
            · subst e
              rw [if_pos rfl, fV_org ho]
              unfold oV
              by_cases e2 : b = []
              · rw [if_pos e2, if_pos e2, g5, if_neg (fun e3 => htn (e3.2.1.symm.trans e2))]
              · rw [if_neg e2, if_neg e2, g6]
                by_cases e3 : b = t
                · subst e3
                  rw [if_pos rfl, htm]
                  by_cases e4 : c = u
                  · subst e4
                    simp [addK, h4]
                  · simp [addK, h4, e4]
                · rw [if_neg e3, if_neg (fun e5 => e3 e5.2.1)]
            · rw [if_neg e, if_neg (fun e3 => e e3.1)])
          refine ⟨by rw [hu]; exact h.U, by rw [hO]; exact h.O, hf.1, hf.2, by rw [hu]; exact h.nu, fun q hqi s hs => ?_⟩
          rcases hq q hqi with rfl | hq
          · obtain ⟨s', hs', e⟩ := List.mem_map.1 (g7 s hs)
            rw [← e]
            exact h.nt o hin s' hs'
          · exact h.nt q hq s hs
      · have h3' : inRoles o.roles u = false := by simpa using h3
        rw [if_pos ((role_iff hn ho).2 h3')]
        simp [h3']
/-- Out -/
theorem Rel.out (h : Rel M R) (hn : Nd M) (x t u : Hs) : (rOut R x t u).2 = M.outE x t u ∧ (M.outE x t u ≠ 0 → (rOut R x t u).1 = R) ∧ (M.outE x t u = 0 → ∀ M', OneIs M x (TeamIs t fun b b' => b' = tout u b) M' → Rel M' (rOut R x t u).1) := by
  have hno : fV M x t u = none → rOut R x t u = (R, 111) := fun e => by
    unfold rOut
    rw [if_pos (h.fct_iff.2 e)]
    split
    · rfl
    · split <;> rfl
  unfold Pm.outE
  cases ho : M.org x with
  | none =>
    rw [hno (by unfold fV; rw [ho])]
    simp
  | some o =>
    show _ = Oct.outE o.teams t u ∧ (Oct.outE o.teams t u ≠ 0 → _) ∧ (Oct.outE o.teams t u = 0 → _)
    unfold Oct.outE
    cases htm : teamOf o.teams t with
    | none =>
      by_cases ht : t = []
      · unfold rOut
        rw [if_pos ht]
        simp
      · rw [hno (by rw [fV_org ho]; unfold oV; rw [if_neg ht, htm])]
        simp
    | some tm =>
      have htin := List.mem_of_find?_eq_some htm
      have htnm : tm.name = t := by simpa using List.find?_some htm
      have htn : t ≠ [] := by rw [← htnm]; exact h.nt o (org_in ho).1 tm htin
      by_cases h4 : u ∈ tm.mem
      · have hune : u ≠ [] := fun e => hn.noname h (org_in ho).1 ((hn.ok o (org_in ho).1).mem tm htin _ (by rw [← e]; exact h4))
        have hfv : fV M x t u = some 0 := by
          rw [fV_org ho]
          unfold oV
          simp [htn, htm, h4]
        obtain ⟨k, e, hk⟩ := h.fct_some hfv
        unfold rOut
        rw [if_neg htn, if_neg hune, if_neg (by rw [e]; omega), e, Int.toNat_natCast]
        refine ⟨by simp [h4], fun e => absurd (by simp [h4]) e, fun _ M' hM => ?_⟩
        obtain ⟨o1, o', e1, hti, hv, hu, hO, hin, hq⟩ := hM.get hn (fun a b e => by obtain ⟨_, _, _, _, _, _, _, e⟩ := e; rw [e])
        rw [ho] at e1
        cases e1
        obtain ⟨tm1, tm', g1, g2, g3, rfl, g5, g6, g7⟩ := hti.get (hn.tn o hin) (fun a b e => by rw [e]; rfl)
        rw [htm] at g1
        cases g1
        have hf := h.fr.del (v' := fV M') hk (fun a b c => by
          rw [hv]
          by_cases e : a = x
          · subst e
            rw [if_pos rfl, fV_org ho]
            unfold oV
            by_cases e2 : b = []
            · rw [if_pos e2, if_pos e2, g5, if_neg (fun e3 => htn (e3.2.1.symm.trans e2))]
            · rw [if_neg e2, if_neg e2, g6]
              by_cases e3 : b = t
              · subst e3
                rw [if_pos rfl, htm]
                by_cases e4 : c = u
                · subst e4
                  simp [tout, kout, hune]
                · simp [tout, kout, e4]
              · rw [if_neg e3, if_neg (fun e5 => e3 e5.2.1)]
          · rw [if_neg e, if_neg (fun e3 => e e3.1)])
        refine ⟨by rw [hu]; exact h.U, by rw [hO]; exact h.O, hf.1, hf.2, by rw [hu]; exact h.nu, fun q hqi s hs => ?_⟩
        rcases hq q hqi with rfl | hq
        · obtain ⟨s', hs', e⟩ := List.mem_map.1 (g7 s hs)
          rw [← e]
          exact h.nt o hin s' hs'
        · exact h.nt q hq s hs
      · by_cases hune : u = []
        · unfold rOut
          rw [if_neg htn, if_pos hune]
          simp [h4]
        · rw [hno (by rw [fV_org ho]; unfold oV; simp [htn, htm, h4, hune])]
          simp [h4]
/-- every call: the same answer, and the two still say the same -/
theorem Rel.step (h : Rel M R) (hn : Nd M) (a : Av) (hd : Did M a M') : (rModel R a).2 = doE M a ∧ Rel M' (rModel R a).1 := by
  have key : ∀ (E : Int) (q : Rp × Int) (P : Prop), (q.2 = E ∧ (E ≠ 0 → q.1 = R) ∧ (E = 0 → P → Rel M' q.1)) → ((E ≠ 0 ∧ M' = M) ∨ (E = 0 ∧ P)) → q.2 = E ∧ Rel M' q.1 := by
    rintro E q P ⟨h1, h2, h3⟩ (⟨h4, rfl⟩ | ⟨h4, h5⟩)
    · exact ⟨h1, by rw [h2 h4]; exact h⟩
    · exact ⟨h1, h3 h4 h5⟩
  unfold Did doE DidK at hd
  unfold rModel doE
  by_cases k0 : a.k = 0
  · simp only [if_pos k0] at hd ⊢
    have h1 := h.addU hn a.u
    refine ⟨h1.1, ?_⟩
    rcases hd with ⟨h4, rfl⟩ | ⟨h4, rfl⟩
    · have : (M'.addUser a.u).2 = M' := by
        revert h4
        unfold Pm.addUser
        split
        · exact fun _ => rfl
        · split
          · exact fun _ => rfl
          · exact fun e => absurd rfl e
      rw [this] at h1
      exact h1.2
    · have : (M.addUser a.u).2 = { M with users := addK M.users a.u } := by
        revert h4
        unfold Pm.addUser
        split
        · exact fun e => absurd e (by assumption)
        · split
          · exact fun e => absurd e (by simp)
          · exact fun _ => rfl
      rw [← this]
      exact h1.2
  · simp only [if_neg k0] at hd ⊢
    by_cases k1 : a.k = 1
    · simp only [if_pos k1] at hd ⊢
      have h1 := h.addO hn a.x a.u
      exact key _ _ _ ⟨h1.1, h1.2.1, fun e ⟨b, hb⟩ => by rw [hb]; exact h1.2.2 e b⟩ hd
    · simp only [if_neg k1] at hd ⊢
      by_cases k2 : a.k = 2
      · simp only [if_pos k2] at hd ⊢
        have h1 := h.join hn a.x a.u a.r
        exact key _ _ _ ⟨h1.1, h1.2.1, fun e hb => h1.2.2 e M' hb⟩ hd
      · simp only [if_neg k2] at hd ⊢
        by_cases k3 : a.k = 3
        · simp only [if_pos k3] at hd ⊢
          have h1 := h.leave hn a.x a.u
          exact key _ _ _ ⟨h1.1, h1.2.1, fun e hb => h1.2.2 e M' hb⟩ hd
        · simp only [if_neg k3] at hd ⊢
          by_cases k4 : a.k = 4
          · simp only [if_pos k4] at hd ⊢
            have h1 := h.team hn a.x a.t
            exact key _ _ _ ⟨h1.1, h1.2.1, fun e hb => h1.2.2 e M' hb⟩ hd
          · simp only [if_neg k4] at hd ⊢
            by_cases k5 : a.k = 5
            · simp only [if_pos k5] at hd ⊢
              have h1 := h.put hn a.x a.t a.u
              exact key _ _ _ ⟨h1.1, h1.2.1, fun e hb => h1.2.2 e M' hb⟩ hd
            · simp only [if_neg k5] at hd ⊢
              have h1 := h.out hn a.x a.t a.u
              exact key _ _ _ ⟨h1.1, h1.2.1, fun e hb => h1.2.2 e M' hb⟩ hd
theorem rel_new (b : Nat) : Rel (Pm0 b) ⟨[], [], []⟩ := by
  refine ⟨by simp [Pm0, sortK], by simp [Pm0, orgsL, sortK], by simp, fun g => ?_, by simp [Pm0], by simp [Pm0]⟩
  simp [fV, Pm.org, Pm0]
end
end Go.Proofs.Ytfickhhfhdhcbaa.Oct

/- Layer 15 (people): the document's people: PeoplePlays: few, rows told by both. -/
namespace Go.Proofs.Ytfickhhfhdhcbaa.Oct
open Go.RowKit
set_option linter.unusedSimpArgs false
set_option linter.unusedVariables false

set_option maxRecDepth 100000 in
set_option maxHeartbeats 1000000 in
theorem few_is2 (l : List Av) (a : Option Addr) (n cp : Nat) (w : World) (hl : ArgA w a n cp l) : Calls Try.prog 8 #[.slice a n cp] w fun e w' => ∃ r, e = .returned (.bool r) ∧ Below w.heap.size w w' ∧ (r = true → n ≤ 200) := by
  have hz32 := zero32
  have HL : Hid (ArgA w a n cp l) := hl
  have qn : (n : Int) ≤ 2199023255552 := by have := hl.2.1; omega
  clear hl
  go_enter Try.func8, Try.ntmps8
  go_wp2
  go_loopw [8, 3] (fun u v W => ∃ (i : Nat) (k : Int), u = iv i ∧ v = iv k ∧ Hid (i ≤ n ∧ 0 ≤ k ∧ k ≤ 200 ∧ Below w.heap.size w W ∧ (i : Int) ≤ k)) (fun u _ _ => n - (intOf u).toNat)
  case atStart => exact ⟨0, 0, rfl, rfl, Nat.zero_le _, by omega, by omega, Below.refl _ _, by omega⟩
  case round =>
    obtain ⟨i, k, rfl, rfl, HI⟩ := hrel
    by_cases hi : i = n
    · have q1 : (n : Int) ≤ (i : Int) := by omega
      clear hi
      go_wp2
      go_ret
      exact ⟨_, rfl, HI.out.2.2.2.1, fun _ => by have := HI.out; omega⟩
    · have HQ : Hid (i < n) := by have := HI.out.1; show _ < _; omega
      have q1 : (i : Int) < (n : Int) := by have := HQ.out; omega
      have q2 : i < n := HQ.out
      obtain ⟨ab, off, ha, hbl, hc⟩ := HL.out.2.2.2 (by omega)
      subst ha
      obtain ⟨x, hx⟩ : ∃ x, l[i]? = some x := ⟨_, List.getElem?_eq_getElem (by rw [HL.out.1]; exact q2)⟩
      have hr : wr.rangeAt ab (off + i * 5) x.cells := rangeAt_same (hc i x hx) (HI.out.2.2.2.1.block ab hbl)
      have HR : Hid (wr.rangeAt ab (off + i * 5) x.cells) := hr
      have hok := HL.out.2.2.1 x (List.mem_of_getElem? hx)
      clear hi hc hx hbl hr
      go_wp2_with (with_reducible change wpList _ _ _ ({ dst := some 11, op := _, type := _, pos := _, after := _, guard := _ } :: _) _ _; refine Hid.out ?_)
      show wpList _ _ _ _ _ _
      refine wpList_load_want rfl 32 (.tmp 10) rfl ab (off + i * 5) rfl x.cells _ HR.out Try.underlying32 rfl size32 ?_
      simp only [Act.put, List.setIfInBounds_toArray, List.set_cons_zero, List.set_cons_succ]
      obtain ⟨g5, hg5⟩ : ∃ g, wr.heap.size = g := ⟨_, rfl⟩
      go_wp2_with (with_reducible change wpList _ _ _ ({ dst := none, op := Op.store 32 _ _, type := _, pos := _, after := _, guard := _ } :: _) _ _; refine Hid.out ?_)
      show wpList _ _ _ _ _ _
      refine wpList_store_blk rfl 32 (.tmp 5) (.tmp 11) rfl g5 0 32 [iv 0, .string ⟨#[]⟩, .string ⟨#[]⟩, .string ⟨#[]⟩, iv 0] x.cells rfl rfl (by rw [← hg5]; exact Blk.new wr _ _) (by simp [Av.cells]) size32 (Av.one x) ?_
      intro V1 hb5' hg6
      have hV : Below wr.heap.size wr V1 := (below_al wr _).grown hg6.out (below_al wr _).size (fun j hj => by cases hj; omega)
      have HV : Hid (Below w.heap.size w V1) := below_tr HI.out.2.2.2.1 hV
      obtain ⟨sx, hsx⟩ : ∃ s : ByteArray, (⟨x.x.toArray⟩ : ByteArray) = s := ⟨_, rfl⟩
      obtain ⟨st, hst⟩ : ∃ s : ByteArray, (⟨x.t.toArray⟩ : ByteArray) = s := ⟨_, rfl⟩
      obtain ⟨su, hsu⟩ : ∃ s : ByteArray, (⟨x.u.toArray⟩ : ByteArray) = s := ⟨_, rfl⟩
      have c1 : V1.cell? ⟨g5, 1, none⟩ = some (.string sx) := by rw [← hsx]; exact hb5'.out.cell rfl
      have c2 : V1.cell? ⟨g5, 2, none⟩ = some (.string st) := by rw [← hst]; exact hb5'.out.cell rfl
      have c3 : V1.cell? ⟨g5, 3, none⟩ = some (.string su) := by rw [← hsu]; exact hb5'.out.cell rfl
      have z1 : (sx.size : Int) ≤ 140737488355328 := by rw [← hsx]; have := hok.1; simp [ByteArray.size]; omega
      have z2 : (st.size : Int) ≤ 140737488355328 := by rw [← hst]; have := hok.2.1; simp [ByteArray.size]; omega
      have z3 : (su.size : Int) ≤ 140737488355328 := by rw [← hsu]; have := hok.2.2; simp [ByteArray.size]; omega
      obtain ⟨n1, hn1⟩ : ∃ n, sx.size = n := ⟨_, rfl⟩
      obtain ⟨n2, hn2⟩ : ∃ n, st.size = n := ⟨_, rfl⟩
      obtain ⟨n3, hn3⟩ : ∃ n, su.size = n := ⟨_, rfl⟩
      have q4 : (0 : Int) ≤ k := HI.out.2.1
      have q5 : k ≤ 200 := HI.out.2.2.1
      clear hb5' hg6 hV hg5 HR hok hsx hst hsu
      obtain ⟨m, hm⟩ : ∃ m : Int, ((n1 : Int) + n2 + n3) / 100 = m := ⟨_, rfl⟩
      rw [hn1] at z1
      rw [hn2] at z2
      rw [hn3] at z3
      have q6 : (0 : Int) ≤ m := by omega
      have q7 : m ≤ 4222124650660 := by omega
      by_cases hk : 200 < k + (1 + m)
      · go_wp2
        go_ret
        exact ⟨_, rfl, HV.out, fun e => by cases e⟩
      · have HK : Hid (0 ≤ k + (1 + m) ∧ k + (1 + m) ≤ 200 ∧ ((i + 1 : Nat) : Int) ≤ k + (1 + m)) := ⟨by omega, by omega, by have := HI.out.2.2.2.2; omega⟩
        go_wp2
        go_roundw
        case rel => exact ⟨i + 1, k + (1 + m), by simp, rfl, HQ.out, HK.out.1, HK.out.2.1, HV.out, HK.out.2.2⟩
        case measure =>
          have := HQ.out
          simp only [intOf]
          omega

theorem texts2 {w : World} {a b : Option Addr} {n m c d : Nat} {l : List Hs} (ha : StrAt w a n l) (hb : StrAt w b m l) (hn : n ≤ 1000000) : Calls Try.prog 13 #[.slice a n c, .slice b m d] w fun e w' => e = .returned (.bool true) ∧ Below w.heap.size w w' := by
  have e : m = n := by rw [← hb.1, ← ha.1]
  subst e
  exact texts_same ha hb hn
theorem same2 {w : World} {a b : Option Addr} {n m c d : Nat} {l : List Hs} (ha : StrAt w a n l) (hb : StrAt w b m l) (hn : n ≤ 1000000) (u : Hs) (r : Int) : Calls Try.prog 20 #[.agg #[hv u, .slice a n c, iv r], .agg #[hv u, .slice b m d, iv r]] w fun e w' => e = .returned (.bool true) ∧ Below w.heap.size w w' := by
  have e : m = n := by rw [← hb.1, ← ha.1]
  subst e
  exact same_same ha hb hn u r
theorem sv_str {w : World} {a : Option Addr} {n c : Nat} {l : List Hs} (h : SV w (.slice a n c) n 1 (l.map hv)) : StrAt w a n l := by
  obtain ⟨a', c', e, h1, h2, h3, h4, h5⟩ := h
  cases e
  have hl : l.length = n := by simpa using h3
  refine ⟨hl, fun hp => ?_⟩
  rcases h5 with ⟨_, rfl⟩ | ⟨g, rfl, hg, hc⟩
  · omega
  · exact ⟨g, rfl, hg, fun i x hx => hc i _ (by simp [hx])⟩
/-- people's blocks hold no row of names or facts -/
def headM (c : Cont) : Prop := match c with
  | .cells _ L => ∃ b r, L = .map b :: r
  | .kv _ => True
theorem hp_heads (M : Pm) (p : Nat) : ∀ x ∈ M.hp p, headM x.2 := by
  intro x hx
  simp only [Pm.hp, List.mem_cons, List.mem_flatMap] at hx
  rcases hx with rfl | rfl | rfl | ⟨o, ho, hx⟩
  · exact ⟨_, _, rfl⟩
  · trivial
  · trivial
  · simp only [Og.hp, List.mem_cons, List.mem_map] at hx
    rcases hx with rfl | rfl | rfl | ⟨t, ht, rfl⟩
    · exact ⟨_, _, rfl⟩
    · trivial
    · trivial
    · trivial
theorem bl_cell {w : World} {p : Nat} {M : Pm} (h : PAt w p M) {g : Nat} (hg : g ∈ M.bl p) {u : Value} (hu : w.cell? ⟨g, 0, none⟩ = some u) : ∃ b, u = .map b := by
  obtain ⟨x, hx, rfl⟩ := List.mem_map.1 hg
  have h1 := hp_heads M p x hx
  have h2 := h.hp.all x hx
  obtain ⟨g, c⟩ := x
  cases c with
  | cells t L =>
    obtain ⟨b, r, rfl⟩ := h1
    have h3 : w.cell? ⟨g, 0, none⟩ = some (.map b) := Blk.cell h2 rfl
    rw [h3] at hu
    injection hu with hu
    exact ⟨b, hu.symm⟩
  | kv l =>
    obtain ⟨es, hm, _⟩ := (h2 : MP w g l)
    exfalso
    obtain ⟨clock, hh, _⟩ := hm
    have hh : w.heap[g]? = some (.map (es.map Ent.me).toArray clock) := hh
    have hcell : w.cell? ⟨g, 0, none⟩ = none := by unfold World.cell?; simp [hh]
    have hu : w.cell? ⟨g, 0, none⟩ = some u := hu
    rw [hcell] at hu
    cases hu
theorem sv_far {V W : World} {v : Value} {n sz p : Nat} {cs : List Value} {M : Pm} (h : SV V v n sz cs) (h0 : ∀ u, cs[0]? = some u → ∀ b, u ≠ .map b) (hp : PAt V p M) (hk : Keep (fun k => k ∈ M.bl p) V W) : SV W v n sz cs := by
  obtain ⟨a', c', rfl, h1, h2, h3, h4, h5⟩ := h
  refine ⟨a', c', rfl, h1, h2, h3, h4, ?_⟩
  rcases h5 with h5 | ⟨g, rfl, hl, hc⟩
  · exact .inl h5
  · refine .inr ⟨g, rfl, Nat.lt_of_lt_of_le hl hk.size, fun j u hu => ?_⟩
    have hlen : 0 < cs.length := by have := (List.getElem?_eq_some_iff.1 hu).1; omega
    have h6 : cs[0]? = some cs[0] := List.getElem?_eq_getElem hlen
    have hn : ¬ g ∈ M.bl p := fun e => by
      obtain ⟨b, hb⟩ := bl_cell hp e (hc 0 _ h6)
      exact h0 _ h6 b hb
    exact (World.cell?_of_block (a := ⟨g, j, none⟩) (hk.block g hl hn)).trans (hc j u hu)
theorem hv_headm {l : List Hs} (u : Value) (h : (l.map hv)[0]? = some u) (b : Option Nat) : u ≠ .map b := by
  cases l with
  | nil => simp at h
  | cons x l => simp at h; subst h; unfold hv; exact fun e => by cases e
theorem fc_headm {l : List Fc} (u : Value) (h : (fcC l)[0]? = some u) (b : Option Nat) : u ≠ .map b := by
  cases l with
  | nil => simp [fcC] at h
  | cons x l => simp [fcC, Fc.cells] at h; subst h; unfold hv; exact fun e => by cases e
theorem rp_far {V W : World} {uv ov fv : Value} {R : Rp} {p : Nat} {M : Pm} (h : RPt V uv ov fv R) (hp : PAt V p M) (hk : Keep (fun k => k ∈ M.bl p) V W) : RPt W uv ov fv R := ⟨sv_far h.u hv_headm hp hk, sv_far h.o hv_headm hp hk, sv_far h.f fc_headm hp hk, h.nu, h.no, h.nf⟩
/-- how the facts grow -/
theorem model_len (R : Rp) (a : Av) : (rModel R a).1.F.length ≤ R.F.length + 1 := by
  have hj : (joF R.F a.x a.u).length ≤ R.F.length := by
    unfold joF
    split
    · exact Nat.le_refl _
    · exact List.length_eraseIdx_le _ _
  have he := List.length_eraseIdx_le R.F (fct R.F a.x a.t a.u).toNat
  have hf : (R.F.filter (fun f => f.o != a.x || f.u != a.u)).length ≤ R.F.length := List.length_filter_le _ _
  unfold rModel rAddU rAddO rJoin rLeave rTeam rPut rOut
  repeat' split
  all_goals first
    | (simp only [List.length_append, List.length_cons, List.length_nil]; omega)
    | (show _ ≤ _; omega)
    | omega
end Go.Proofs.Ytfickhhfhdhcbaa.Oct
