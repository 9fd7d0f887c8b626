/-
  Layer 22 (fields): the reference's Unescape.
-/
import Derived.Test.YtlbcpbibcfolkaaDoorRea
namespace Go.Proofs.YtlbcpbibcfolkaaDoor.Oct
open Go.RowKit
set_option linter.unusedSimpArgs false
set_option linter.unusedVariables false

theorem run_bsb (x : Int) (W : World) : (Instr.buildSlice 51 1 #[(0, bv x)]).run Tryd.prog W = .ok (.slice (some ⟨W.heap.size, 0, none⟩) 1 1) (W.alloc (.cells #[bv x] 5)) := by kernel_rfl
theorem step_bsb {o : Oper} {ops : Array Oper} {a : Act} {w : World} {K : Act → World → Prop} {Q : Exit → Act → World → Prop} {E : Prop} (hw : Region.wanted o (yielded ops a.tmps) = true) (x : Operand) (hop : o.op = .buildSlice 51 1 #[(0, x)]) (c : Int) (hx : a.eval x = bv c)
    (hk : K (a.put o.dst (.slice (some ⟨w.heap.size, 0, none⟩) 1 1)) (w.alloc (.cells #[bv c] 5))) : if Region.wanted o (yielded ops a.tmps) = true then Oper.wp Tryd.prog o a w K Q else E := by
  rw [if_pos hw]
  have h := run_bsb c w
  unfold Oper.wp execOp
  simp only [hop, Sem.run_bind, Sem.run_pure, Result.andThen_ok, List.map_toArray, List.map_cons, List.map_nil, hx, h]
  exact hk
set_option maxRecDepth 100000 in
set_option maxHeartbeats 4000000 in
theorem ru9 {Q : Exit → Act → World → Prop} {x1 x2 x3 x4 x7 x8 x9 x10 x11 x12 x13 x14 x15 x16 x17 x18 x19 x20 x21 x22 x23 x24 x25 x26 x27 x28 x29 x30 x31 x32 x33 x34 x35 x36 x37 x38 x39 x40 x41 x42 x43 x44 x45 x46 x47 x48 x49 x50 x51 x52 x53 x54 x55 x56 x57 x58 x59 x60 x61 x62 x63 x64 x65 x66 x67 x68 x69 x70 x71 x72 : Value} {ds : List Deferred} {A : World} {w0 : World} {v : Value} {o : List UInt8} {i0 : TypeInfo} {k p1 p2 : Nat} {s : BA} {a b r : UInt8} {da db M S : Int}
    (HB : Hid (Below w0.heap.size w0 A)) (HO : Hid (Own 5 w0.heap.size A v o)) (HN : Hid (o.length + 1 ≤ 140737488355328)) (HI5 : Hid (Tryd.prog.info? 5 = some i0 ∧ i0.zero = some (.int .u8 0) ∧ i0.size = 1 ∧ i0.bytes = 1)) (HA : Hid (IntKind.i64.wrap ((k : Int) + 1) = (p1 : Int) ∧ IntKind.i64.wrap ((k : Int) + 2) = (p2 : Int) ∧ s.data.toList[p1]? = some a ∧ s.data.toList[p2]? = some b ∧ IntKind.i64.wrap (16 * da) = M ∧ IntKind.i64.wrap (M + db) = S ∧ IntKind.u8.wrap S = (r.toNat : Int))) (HD1 : Hid (∀ V, Calls Tryd.prog 25 #[bv (a.toNat : Int)] V fun e V2 => e = .returned (iv da) ∧ V = V2)) (HD2 : Hid (∀ V, Calls Tryd.prog 25 #[bv (b.toNat : Int)] V fun e V2 => e = .returned (iv db) ∧ V = V2))
    (hQ : ∀ V1 q v1, Own 5 w0.heap.size V1 v1 (o ++ [r]) → Below w0.heap.size w0 V1 → Q .normal { tmps := #[.string s, x1, x2, x3, x4, v1, iv (k : Int), x7, x8, x9, x10, x11, x12, x13, x14, x15, x16, x17, x18, x19, x20, x21, x22, x23, x24, x25, x26, x27, x28, x29, x30, x31, x32, x33, x34, x35, x36, x37, x38, x39, x40, v, .string s, iv (k : Int), iv (p1 : Int), bv (a.toNat : Int), iv da, iv M, .string s, iv (k : Int), iv (p2 : Int), bv (b.toNat : Int), iv db, iv S, bv (r.toNat : Int), .slice (some ⟨q, 0, none⟩) 1 1, v1, x57, x58, x59, x60, x61, x62, x63, x64, x65, x66, x67, x68, x69, x70, x71, x72], defers := ds } V1) :
    (Code.region 9 #[{ dst := some 41, op := Op.move (Operand.tmp 5), type := 51, pos := "ref.go:60", after := #[], guard := none }, { dst := some 42, op := Op.move (Operand.tmp 0), type := 9, pos := "ref.go:60", after := #[], guard := none }, { dst := some 43, op := Op.move (Operand.tmp 6), type := 3, pos := "ref.go:60", after := #[], guard := none }, { dst := some 44, op := Op.binOp BinOp.add 3 (Operand.tmp 43) (Operand.const (Value.int IntKind.i64 1)) 3, type := 3, pos := "ref.go:60", after := #[{ on := 2, ground := Ground.data }], guard := none }, { dst := some 45, op := Op.index 9 (Operand.tmp 42) (Operand.tmp 44), type := 5, pos := "ref.go:60", after := #[{ on := 1, ground := Ground.data }, { on := 3, ground := Ground.data }], guard := none }, { dst := some 46, op := Op.call { callee := Callee.value (Operand.func 25), args := #[Operand.tmp 45], argTypes := #[5] }, type := 3, pos := "ref.go:60", after := #[{ on := 4, ground := Ground.data }], guard := none }, { dst := some 47, op := Op.binOp BinOp.mul 3 (Operand.const (Value.int IntKind.i64 16)) (Operand.tmp 46) 3, type := 3, pos := "ref.go:60", after := #[{ on := 5, ground := Ground.data }], guard := none }, { dst := some 48, op := Op.move (Operand.tmp 0), type := 9, pos := "ref.go:60", after := #[], guard := none }, { dst := some 49, op := Op.move (Operand.tmp 6), type := 3, pos := "ref.go:60", after := #[], guard := none }, { dst := some 50, op := Op.binOp BinOp.add 3 (Operand.tmp 49) (Operand.const (Value.int IntKind.i64 2)) 3, type := 3, pos := "ref.go:60", after := #[{ on := 8, ground := Ground.data }], guard := none }, { dst := some 51, op := Op.index 9 (Operand.tmp 48) (Operand.tmp 50), type := 5, pos := "ref.go:60", after := #[{ on := 7, ground := Ground.data }, { on := 9, ground := Ground.data }], guard := none }, { dst := some 52, op := Op.call { callee := Callee.value (Operand.func 25), args := #[Operand.tmp 51], argTypes := #[5] }, type := 3, pos := "ref.go:60", after := #[{ on := 10, ground := Ground.data }, { on := 5, ground := Ground.chain }], guard := none }, { dst := some 53, op := Op.binOp BinOp.add 3 (Operand.tmp 47) (Operand.tmp 52) 3, type := 3, pos := "ref.go:60", after := #[{ on := 6, ground := Ground.data }, { on := 11, ground := Ground.data }], guard := none }, { dst := some 54, op := Op.convert 3 5 (Operand.tmp 53), type := 5, pos := "ref.go:60", after := #[{ on := 12, ground := Ground.data }], guard := none }, { dst := some 55, op := Op.buildSlice 51 1 #[(0, Operand.tmp 54)], type := 51, pos := "ref.go:60", after := #[{ on := 13, ground := Ground.data }], guard := none }, { dst := some 56, op := Op.call { callee := Callee.builtin Builtin.append, args := #[Operand.tmp 41, Operand.tmp 55], argTypes := #[51, 51] }, type := 51, pos := "ref.go:60", after := #[{ on := 0, ground := Ground.data }, { on := 14, ground := Ground.data }, { on := 11, ground := Ground.chain }], guard := none }, { dst := some 5, op := Op.assign (Operand.tmp 56), type := 51, pos := "ref.go:60", after := #[{ on := 15, ground := Ground.data }, { on := 15, ground := Ground.chain }, { on := 0, ground := Ground.phase }, { on := 1, ground := Ground.phase }, { on := 2, ground := Ground.phase }, { on := 3, ground := Ground.phase }, { on := 4, ground := Ground.phase }, { on := 5, ground := Ground.phase }, { on := 6, ground := Ground.phase }, { on := 7, ground := Ground.phase }, { on := 8, ground := Ground.phase }, { on := 9, ground := Ground.phase }, { on := 10, ground := Ground.phase }, { on := 11, ground := Ground.phase }, { on := 12, ground := Ground.phase }, { on := 13, ground := Ground.phase }, { on := 14, ground := Ground.phase }, { on := 15, ground := Ground.phase }], guard := none }] true).wp Tryd.prog Q { tmps := #[.string s, x1, x2, x3, x4, v, iv (k : Int), x7, x8, x9, x10, x11, x12, x13, x14, x15, x16, x17, x18, x19, x20, x21, x22, x23, x24, x25, x26, x27, x28, x29, x30, x31, x32, x33, x34, x35, x36, x37, x38, x39, x40, x41, x42, x43, x44, x45, x46, x47, x48, x49, x50, x51, x52, x53, x54, x55, x56, x57, x58, x59, x60, x61, x62, x63, x64, x65, x66, x67, x68, x69, x70, x71, x72], defers := ds } A := by
  refine Code.wp_mono (Q := fun x a' w' => match x with | .normal => Q .normal a' w' | _ => False) (by intro x a' w' h; cases x <;> first | exact h | exact h.elim) ?_
  refine wp_region_held (S := fun V => Below w0.heap.size w0 V) (by kernel_rfl) ?_
  have hS0 : Hid (Below w0.heap.size w0 A.drew) := HB.out.trans ((below_drew0 A).mono HB.out.size)
  change wpAnyH Tryd.prog .any _ _ (fun V => Below w0.heap.size w0 V) 17 (Array.replicate 17 false) _ A.drew
  obtain ⟨V0, hV0⟩ : ∃ V0, A.drew = V0 := ⟨_, rfl⟩
  rw [hV0]
  rw [hV0] at hS0
  have hO0 : Hid (Own 5 w0.heap.size V0 v o) := by rw [← hV0]; exact HO.out
  clear hV0
  refine wpAnyH_take (i := 0) (oi := { dst := some 41, op := Op.move (Operand.tmp 5), type := 51, pos := "ref.go:60", after := #[], guard := none }) (v := v) rfl (by kernel_rfl) (by kernel_rfl) (by kernel_rfl) (fun _ _ _ h => h.elim) (Or.inl ⟨by rfl, ?y1⟩) hS0.out ?_
  case y1 =>
    intro V hV
    go_simp
  simp only [Act.put, List.setIfInBounds_toArray, List.set_cons_zero, List.set_cons_succ]
  refine wpAnyH_take (i := 1) (oi := { dst := some 42, op := Op.move (Operand.tmp 0), type := 9, pos := "ref.go:60", after := #[], guard := none }) (v := .string s) rfl (by kernel_rfl) (by kernel_rfl) (by kernel_rfl) (fun _ _ _ h => h.elim) (Or.inl ⟨by rfl, ?y2⟩) hS0.out ?_
  case y2 =>
    intro V hV
    go_simp
  simp only [Act.put, List.setIfInBounds_toArray, List.set_cons_zero, List.set_cons_succ]
  refine wpAnyH_take (i := 2) (oi := { dst := some 43, op := Op.move (Operand.tmp 6), type := 3, pos := "ref.go:60", after := #[], guard := none }) (v := iv (k : Int)) rfl (by kernel_rfl) (by kernel_rfl) (by kernel_rfl) (fun _ _ _ h => h.elim) (Or.inl ⟨by rfl, ?y3⟩) hS0.out ?_
  case y3 =>
    intro V hV
    go_simp
  simp only [Act.put, List.setIfInBounds_toArray, List.set_cons_zero, List.set_cons_succ]
  refine wpAnyH_take (i := 3) (oi := { dst := some 44, op := Op.binOp BinOp.add 3 (Operand.tmp 43) (Operand.const (Value.int IntKind.i64 1)) 3, type := 3, pos := "ref.go:60", after := #[{ on := 2, ground := Ground.data }], guard := none }) (v := iv (p1 : Int)) rfl (by kernel_rfl) (by kernel_rfl) (by kernel_rfl) (fun _ _ _ h => h.elim) (Or.inl ⟨by rfl, ?y4⟩) hS0.out ?_
  case y4 =>
    intro V hV
    have h1 := HA.out.1
    go_simp
  simp only [Act.put, List.setIfInBounds_toArray, List.set_cons_zero, List.set_cons_succ]
  refine wpAnyH_take (i := 4) (oi := { dst := some 45, op := Op.index 9 (Operand.tmp 42) (Operand.tmp 44), type := 5, pos := "ref.go:60", after := #[{ on := 1, ground := Ground.data }, { on := 3, ground := Ground.data }], guard := none }) (v := bv (a.toNat : Int)) rfl (by kernel_rfl) (by kernel_rfl) (by kernel_rfl) (fun _ _ _ h => h.elim) (Or.inl ⟨by rfl, ?y5⟩) hS0.out ?_
  case y5 =>
    intro V hV
    exact yl_idx V _ _ s p1 a rfl rfl rfl HA.out.2.2.1
  simp only [Act.put, List.setIfInBounds_toArray, List.set_cons_zero, List.set_cons_succ]
  refine wpAnyH_take (i := 7) (oi := { dst := some 48, op := Op.move (Operand.tmp 0), type := 9, pos := "ref.go:60", after := #[], guard := none }) (v := .string s) rfl (by kernel_rfl) (by kernel_rfl) (by kernel_rfl) (fun _ _ _ h => h.elim) (Or.inl ⟨by rfl, ?y6⟩) hS0.out ?_
  case y6 =>
    intro V hV
    go_simp
  simp only [Act.put, List.setIfInBounds_toArray, List.set_cons_zero, List.set_cons_succ]
  refine wpAnyH_take (i := 8) (oi := { dst := some 49, op := Op.move (Operand.tmp 6), type := 3, pos := "ref.go:60", after := #[], guard := none }) (v := iv (k : Int)) rfl (by kernel_rfl) (by kernel_rfl) (by kernel_rfl) (fun _ _ _ h => h.elim) (Or.inl ⟨by rfl, ?y7⟩) hS0.out ?_
  case y7 =>
    intro V hV
    go_simp
  simp only [Act.put, List.setIfInBounds_toArray, List.set_cons_zero, List.set_cons_succ]
  refine wpAnyH_take (i := 9) (oi := { dst := some 50, op := Op.binOp BinOp.add 3 (Operand.tmp 49) (Operand.const (Value.int IntKind.i64 2)) 3, type := 3, pos := "ref.go:60", after := #[{ on := 8, ground := Ground.data }], guard := none }) (v := iv (p2 : Int)) rfl (by kernel_rfl) (by kernel_rfl) (by kernel_rfl) (fun _ _ _ h => h.elim) (Or.inl ⟨by rfl, ?y8⟩) hS0.out ?_
  case y8 =>
    intro V hV
    have h1 := HA.out.2.1
    go_simp
  simp only [Act.put, List.setIfInBounds_toArray, List.set_cons_zero, List.set_cons_succ]
  refine wpAnyH_take (i := 10) (oi := { dst := some 51, op := Op.index 9 (Operand.tmp 48) (Operand.tmp 50), type := 5, pos := "ref.go:60", after := #[{ on := 7, ground := Ground.data }, { on := 9, ground := Ground.data }], guard := none }) (v := bv (b.toNat : Int)) rfl (by kernel_rfl) (by kernel_rfl) (by kernel_rfl) (fun _ _ _ h => h.elim) (Or.inl ⟨by rfl, ?y9⟩) hS0.out ?_
  case y9 =>
    intro V hV
    exact yl_idx V _ _ s p2 b rfl rfl rfl HA.out.2.2.2.1
  simp only [Act.put, List.setIfInBounds_toArray, List.set_cons_zero, List.set_cons_succ]
  refine wpAnyH_ready (rs := [5]) (by kernel_rfl) (by simp) (AllReadyH.cons (i := 5) (o := { dst := some 46, op := Op.call { callee := Callee.value (Operand.func 25), args := #[Operand.tmp 45], argTypes := #[5] }, type := 3, pos := "ref.go:60", after := #[{ on := 4, ground := Ground.data }], guard := none }) rfl ?_ AllReadyH.nil)
  · intro K1 hK1
    rw [if_pos (by rfl)]
    have HC1 := HD1.out V0
    go_wp2_with fail
    refine HC1.mono ?_
    rintro e V1 ⟨rfl, rfl⟩
    dsimp only
    clear HC1
    refine hK1.out _ _ hS0.out ?_
    clear hK1
    intro _
    try simp only [Act.put, List.setIfInBounds_toArray, List.set_cons_zero, List.set_cons_succ]
    refine wpAnyH_take (i := 6) (oi := { dst := some 47, op := Op.binOp BinOp.mul 3 (Operand.const (Value.int IntKind.i64 16)) (Operand.tmp 46) 3, type := 3, pos := "ref.go:60", after := #[{ on := 5, ground := Ground.data }], guard := none }) (v := iv M) rfl (by kernel_rfl) (by kernel_rfl) (by kernel_rfl) (fun _ _ _ h => h.elim) (Or.inl ⟨by rfl, ?y10⟩) hS0.out ?_
    case y10 =>
      intro V hV
      have h1 := HA.out.2.2.2.2.1
      go_simp
    simp only [Act.put, List.setIfInBounds_toArray, List.set_cons_zero, List.set_cons_succ]
    refine wpAnyH_ready (rs := [11]) (by kernel_rfl) (by simp) (AllReadyH.cons (i := 11) (o := { dst := some 52, op := Op.call { callee := Callee.value (Operand.func 25), args := #[Operand.tmp 51], argTypes := #[5] }, type := 3, pos := "ref.go:60", after := #[{ on := 10, ground := Ground.data }, { on := 5, ground := Ground.chain }], guard := none }) rfl ?_ AllReadyH.nil)
    · intro K1 hK1
      rw [if_pos (by rfl)]
      have HC2 := HD2.out V0
      go_wp2_with fail
      refine HC2.mono ?_
      rintro e V2 ⟨rfl, rfl⟩
      dsimp only
      clear HC2
      refine hK1.out _ _ hS0.out ?_
      clear hK1
      intro _
      try simp only [Act.put, List.setIfInBounds_toArray, List.set_cons_zero, List.set_cons_succ]
      refine wpAnyH_take (i := 12) (oi := { dst := some 53, op := Op.binOp BinOp.add 3 (Operand.tmp 47) (Operand.tmp 52) 3, type := 3, pos := "ref.go:60", after := #[{ on := 6, ground := Ground.data }, { on := 11, ground := Ground.data }], guard := none }) (v := iv S) rfl (by kernel_rfl) (by kernel_rfl) (by kernel_rfl) (fun _ _ _ h => h.elim) (Or.inl ⟨by rfl, ?y11⟩) hS0.out ?_
      case y11 =>
        intro V hV
        have h1 := HA.out.2.2.2.2.2.1
        go_simp
      simp only [Act.put, List.setIfInBounds_toArray, List.set_cons_zero, List.set_cons_succ]
      refine wpAnyH_take (i := 13) (oi := { dst := some 54, op := Op.convert 3 5 (Operand.tmp 53), type := 5, pos := "ref.go:60", after := #[{ on := 12, ground := Ground.data }], guard := none }) (v := bv (r.toNat : Int)) rfl (by kernel_rfl) (by kernel_rfl) (by kernel_rfl) (fun _ _ _ h => h.elim) (Or.inl ⟨by rfl, ?y12⟩) hS0.out ?_
      case y12 =>
        intro V hV
        have h1 := HA.out.2.2.2.2.2.2
        go_simp
      simp only [Act.put, List.setIfInBounds_toArray, List.set_cons_zero, List.set_cons_succ]
      refine wpAnyH_ready (rs := [14]) (by kernel_rfl) (by simp) (AllReadyH.cons (i := 14) (o := { dst := some 55, op := Op.buildSlice 51 1 #[(0, Operand.tmp 54)], type := 51, pos := "ref.go:60", after := #[{ on := 13, ground := Ground.data }], guard := none }) rfl ?_ AllReadyH.nil)
      · intro K1 hK1
        refine step_bsb (by rfl) (.tmp 54) rfl (r.toNat : Int) rfl ?_
        obtain ⟨V3, hv3⟩ : ∃ V, V0.alloc (.cells #[bv (r.toNat : Int)] 5) = V := ⟨_, rfl⟩
        obtain ⟨q3, hq3⟩ : ∃ m, V0.heap.size = m := ⟨_, rfl⟩
        have hS3 : Hid (Below w0.heap.size w0 V3) := by rw [← hv3]; exact hS0.out.alloc hS0.out.size _
        have hO3 : Hid (Own 5 w0.heap.size V3 v o) := by rw [← hv3]; exact Own.below hO0.out (below_al _ _) (Nat.le_refl _)
        have hI3 : Hid (In V3 (some ⟨q3, 0, none⟩) 1 1 [r]) := by rw [← hv3, ← hq3]; exact in_new V0 5 [r] (by simp)
        rw [hv3, hq3]
        clear hv3 hq3
        refine hK1.out _ _ hS3.out ?_
        clear hK1
        intro _
        try simp only [Act.put, List.setIfInBounds_toArray, List.set_cons_zero, List.set_cons_succ]
        refine wpAnyH_ready (rs := [15]) (by kernel_rfl) (by simp) (AllReadyH.cons (i := 15) (o := { dst := some 56, op := Op.call { callee := Callee.builtin Builtin.append, args := #[Operand.tmp 41, Operand.tmp 55], argTypes := #[51, 51] }, type := 51, pos := "ref.go:60", after := #[{ on := 0, ground := Ground.data }, { on := 14, ground := Ground.data }, { on := 11, ground := Ground.chain }], guard := none }) rfl ?_ AllReadyH.nil)
        · intro K1 hK1
          refine step_append_in _ (by rfl) (.tmp 41) (.tmp 55) 51 rfl w0.heap.size 5 i0 Tryd.underlying51 HI5.out.1 HI5.out.2.1 HI5.out.2.2.1 HI5.out.2.2.2 v o o.length rfl rfl hO3.out (some ⟨q3, 0, none⟩) 1 1 [r] rfl hI3.out HN.out hS3.out.size ?_
          intro v1 V4 ho4 hg4
          have hS4 : Hid (Below w0.heap.size w0 V4) := Below.grown hS3.out hg4 hS3.out.size (fun j hj => own_lt hO3.out hj)
          have hO4 : Hid (Own 5 w0.heap.size V4 v1 (o ++ [r])) := ho4
          clear ho4 hg4
          refine hK1.out _ _ hS4.out ?_
          clear hK1
          intro _
          try simp only [Act.put, List.setIfInBounds_toArray, List.set_cons_zero, List.set_cons_succ]
          refine wpAnyH_take (i := 16) (oi := { dst := some 5, op := Op.assign (Operand.tmp 56), type := 51, pos := "ref.go:60", after := #[{ on := 15, ground := Ground.data }, { on := 15, ground := Ground.chain }, { on := 0, ground := Ground.phase }, { on := 1, ground := Ground.phase }, { on := 2, ground := Ground.phase }, { on := 3, ground := Ground.phase }, { on := 4, ground := Ground.phase }, { on := 5, ground := Ground.phase }, { on := 6, ground := Ground.phase }, { on := 7, ground := Ground.phase }, { on := 8, ground := Ground.phase }, { on := 9, ground := Ground.phase }, { on := 10, ground := Ground.phase }, { on := 11, ground := Ground.phase }, { on := 12, ground := Ground.phase }, { on := 13, ground := Ground.phase }, { on := 14, ground := Ground.phase }, { on := 15, ground := Ground.phase }], guard := none }) (v := v1) rfl (by kernel_rfl) (by kernel_rfl) (by kernel_rfl) (fun _ _ _ h => h.elim) (Or.inl ⟨by rfl, ?y13⟩) hS4.out ?_
          case y13 =>
            intro V hV
            go_simp
          simp only [Act.put, List.setIfInBounds_toArray, List.set_cons_zero, List.set_cons_succ]
          refine wpAnyH_done (by kernel_rfl) ?_ _
          exact hQ V4 q3 v1 hO4.out hS4.out
#print axioms ru9
def runA (l : List UInt8) : Value := if (upTo [] l).2.2 = 0 then .tuple #[.string ⟨(upTo [] l).1.toArray⟩, iv 0, iv 0] else .tuple #[.string e0, iv ((upTo [] l).2.1 : Int), iv (upTo [] l).2.2]
structure VI (w : World) (L : List UInt8) (v : Value) (q : Nat) (o : List UInt8) (wr : World) : Prop where
  own : Own 5 w.heap.size wr v o
  bel : Below w.heap.size w wr
  len : o.length ≤ q
  le : q ≤ L.length
  e1 : (upTo [] L).1 = o ++ (upTo [] (L.drop q)).1
  e2 : (upTo [] L).2.1 = q + (upTo [] (L.drop q)).2.1
  e3 : (upTo [] L).2.2 = (upTo [] (L.drop q)).2.2
theorem VI.bad {w wr : World} {L o t : List UInt8} {v : Value} {q : Nat} {c : UInt8} (h : VI w L v q o wr) (hd : L.drop q = c :: t) {er : Int} (ho : oneE (c :: t) = .inl er) : runA L = .tuple #[.string e0, iv (q : Int), iv er] := by
  have e := upTo_bad (st := []) (by rfl) ho
  rw [← hd] at e
  have h2 := h.e2
  have h3 := h.e3
  rw [e] at h2 h3
  unfold runA
  rw [h3, if_neg (one_er ho (by simp)), h2]
  rfl
theorem VI.fin {w wr : World} {L o : List UInt8} {v : Value} {q : Nat} (h : VI w L v q o wr) (hq : L.length ≤ q) : runA L = .tuple #[.string ⟨o.toArray⟩, iv 0, iv 0] := by
  have e : L.drop q = [] := List.drop_eq_nil_iff.2 hq
  have h1 := h.e1
  have h3 := h.e3
  rw [e, upTo_nil] at h1 h3
  unfold runA
  rw [h3, if_pos rfl, h1, List.append_nil]
theorem VI.step {w wr wr' : World} {L o t : List UInt8} {v v' : Value} {q : Nat} {c : UInt8} (h : VI w L v q o wr) (hd : L.drop q = c :: t) {b : UInt8} {n : Nat} (ho : oneE (c :: t) = .inr (b, n)) (hw : Own 5 w.heap.size wr' v' (o ++ [b])) (hb : Below w.heap.size w wr') : VI w L v' (q + n) (o ++ [b]) wr' := by
  have e := upTo_step (st := []) (by rfl) ho
  have hn := one_len ho
  rw [← hd] at e hn
  rw [List.drop_drop] at e
  rw [List.length_drop] at hn
  have h1 := h.e1
  have h2 := h.e2
  have h3 := h.e3
  rw [e] at h1 h2 h3
  refine ⟨hw, hb, ?_, ?_, ?_, ?_, ?_⟩
  · have := h.len; simp; omega
  · have := h.le; omega
  · rw [h1]; simp
  · rw [h2]; simp only; omega
  · exact h3
theorem dg_neg (c : UInt8) (h : ¬ 0 ≤ dg c) : dg c = -1 ∧ dg c < 0 := by
  have : dg c = -1 := by
    unfold dg dgtI at *
    split at h
    · omega
    · rw [if_neg (by assumption)]
      split at h
      · omega
      · rw [if_neg (by assumption)]
        split at h
        · omega
        · rw [if_neg (by assumption)]
  omega
theorem dg_le (c : UInt8) : dg c ≤ 15 := by
  unfold dg dgtI
  split
  · omega
  · split
    · omega
    · split <;> omega
theorem rdig (c : UInt8) (w : World) : Calls Tryd.prog 25 #[bv (c.toNat : Int)] w fun e w' => e = .returned (iv (dg c)) ∧ w = w' := rdigit_is _ (by omega) (by have := c.toNat_lt; omega) w _ rfl
theorem drop_two {L : List UInt8} {q : Nat} {c : UInt8} {t : List UInt8} (hd : L.drop q = c :: t) : t[0]? = L[q + 1]? ∧ t[1]? = L[q + 2]? := by
  have h1 : L.drop (q + 1) = t := (drop_at hd).2
  rw [← h1, List.getElem?_drop, List.getElem?_drop]
  exact ⟨rfl, rfl⟩
set_option maxRecDepth 100000 in
set_option maxHeartbeats 4000000 in
theorem runesc_is (s : BA) (hs : s.size ≤ 20000000) (w : World) (R : Value) (hR : runA s.data.toList = R) : Calls Tryd.prog 10 #[.string s] w fun e w' => e = .returned R ∧ Below w.heap.size w w' := by
  obtain ⟨i0, hi, hz0, hz1, hz2⟩ := info5
  have HI5 : Hid (Tryd.prog.info? 5 = some i0 ∧ i0.zero = some (.int .u8 0) ∧ i0.size = 1 ∧ i0.bytes = 1) := ⟨hi, hz0, hz1, hz2⟩
  obtain ⟨n, hn⟩ : ∃ n, s.size = n := ⟨_, rfl⟩
  have qn : (s.size : Int) = (n : Int) := by omega
  have qn2 : (n : Int) ≤ 20000000 := by omega
  obtain ⟨L, hL⟩ : ∃ L, s.data.toList = L := ⟨_, rfl⟩
  have HL : Hid (s.data.toList = L ∧ L.length = n ∧ n ≤ 20000000) := ⟨hL, by rw [← hL, ← hn]; rfl, by omega⟩
  have HRR : Hid (runA L = R) := by rw [← hL]; exact hR
  clear hs hL hn hR hi hz0 hz1 hz2
  go_enter Tryd.func10, Tryd.ntmps10
  go_wp2_with fail
  go_loopw [6, 5] (fun i v wr => ∃ (q : Nat) (x : Value) (o : List UInt8), i = .int .i64 q ∧ x = v ∧ Hid (VI w L x q o wr)) (fun i _ _ => n - (intOf i).toNat)
  case atStart => exact ⟨0, _, [], rfl, rfl, ⟨rfl, .inl ⟨rfl, rfl⟩⟩, Below.refl _ _, Nat.le_refl _, Nat.zero_le _, rfl, (Nat.zero_add _).symm, rfl⟩
  case round =>
    obtain ⟨q, v, o, rfl, rfl, HV⟩ := hrel
    by_cases hlt : q = n
    · subst hlt
      have HR : Hid (R = .tuple #[.string ⟨o.toArray⟩, iv 0, iv 0]) := HRR.out.symm.trans (HV.out.fin (by rw [HL.out.2.1]; exact Nat.le_refl _))
      obtain ⟨ah, ch, rfl, hinh, -⟩ := own_in HV.out.own (by have := HV.out.len; have := HL.out.2; omega)
      have hcv := string_in Tryd.underlying51 Tryd.underlying5 Tryd.underlying9 hinh
      clear hinh
      generalize o.length = K at *
      generalize (⟨o.toArray⟩ : BA) = S at *
      go_wp2
      go_ret3
      exact ⟨by rw [HR.out]; rfl, HV.out.bel⟩
    have hle : q ≤ n := by have := HV.out.le; rw [HL.out.2.1] at this; exact this
    have q1 : (q : Int) < (n : Int) := by omega
    have HT : Hid (q < n) := by show q < n; omega
    have HNL : Hid (o.length + 1 ≤ 140737488355328) := by show o.length + 1 ≤ _; have := HV.out.len; have := HL.out.2; omega
    obtain ⟨c, t, hd⟩ : ∃ c t, L.drop q = c :: t := by
      cases e : L.drop q with
      | nil => have := drop_nil e; rw [HL.out.2.1] at this; have := HT.out; omega
      | cons c t => exact ⟨c, t, rfl⟩
    have HD : Hid (L.drop q = c :: t) := hd
    have HCI : Hid (s.data.toList[q]? = some c) := by rw [HL.out.1]; exact (drop_at hd).1
    have h12 := drop_two hd
    clear hlt hle hd
    by_cases h37 : c = 37
    · subst h37
      by_cases hsh : n ≤ q + 2
      · have q2 : (n : Int) ≤ (q : Int) + 2 := by omega
        have ho : oneE (37 :: t) = .inl 220 := by
          have h2 : t[1]? = none := by rw [h12.2]; exact List.getElem?_eq_none (by rw [HL.out.2.1]; omega)
          match t, h2 with
          | [], _ => rfl
          | [_], _ => rfl
          | _ :: _ :: _, h2 => simp at h2
        have HR : Hid (R = .tuple #[.string e0, iv (q : Int), iv 220]) := HRR.out.symm.trans (HV.out.bad HD.out ho)
        clear ho h12 hsh
        go_wp2_with (with_reducible change wpList _ _ _ ({ dst := some 16, op := _, type := _, pos := _, after := _, guard := _ } :: _) _ _; refine Hid.out ?_)
        show wpList _ _ _ _ _ _
        refine wpList_idx rfl (.tmp 14) (.tmp 15) rfl s q 37 rfl rfl HCI.out ?_
        go_wp2
        go_ret3
        exact ⟨by rw [HR.out]; rfl, HV.out.bel⟩
      have q2 : (q : Int) + 2 < (n : Int) := by omega
      obtain ⟨a, ha⟩ : ∃ a, L[q + 1]? = some a := ⟨_, List.getElem?_eq_getElem (by rw [HL.out.2.1]; omega)⟩
      obtain ⟨b, hb⟩ : ∃ b, L[q + 2]? = some b := ⟨_, List.getElem?_eq_getElem (by rw [HL.out.2.1]; omega)⟩
      have HAB : Hid (s.data.toList[q + 1]? = some a ∧ s.data.toList[q + 2]? = some b) := by rw [HL.out.1]; exact ⟨ha, hb⟩
      obtain ⟨u, rfl⟩ : ∃ u, t = a :: b :: u := by
        rw [ha, hb] at h12
        match t, h12 with
        | [], h => simp at h
        | [_], h => simp at h
        | x :: y :: u, h => simp at h; exact ⟨u, by rw [h.1, h.2]⟩
      have hix1 : ∀ W, (Instr.index 9 (.string s) (iv ((q : Int) + 1))).run Tryd.prog W = .ok (bv (a.toNat : Int)) W := fun W => run_idx s (q + 1) a HAB.out.1 W
      have hix2 : ∀ W, (Instr.index 9 (.string s) (iv ((q : Int) + 2))).run Tryd.prog W = .ok (bv (b.toNat : Int)) W := fun W => run_idx s (q + 2) b HAB.out.2 W
      clear h12 hsh ha hb
      obtain ⟨da, hda⟩ : ∃ d, dg a = d := ⟨_, rfl⟩
      obtain ⟨db, hdb⟩ : ∃ d, dg b = d := ⟨_, rfl⟩
      have CA : Hid (∀ V, Calls Tryd.prog 25 #[bv (a.toNat : Int)] V fun e V2 => e = .returned (iv da) ∧ V = V2) := fun V => by rw [← hda]; exact rdig a V
      have CB : Hid (∀ V, Calls Tryd.prog 25 #[bv (b.toNat : Int)] V fun e V2 => e = .returned (iv db) ∧ V = V2) := fun V => by rw [← hdb]; exact rdig b V
      by_cases hna : 0 ≤ dg a
      · by_cases hnb : 0 ≤ dg b
        · have ho : oneE (37 :: a :: b :: u) = .inr (hx a b, 3) := by unfold oneE; dsimp only; rw [if_pos rfl, if_pos ⟨hna, hnb⟩]
          have HOne : Hid (oneE (37 :: a :: b :: u) = .inr (hx a b, 3)) := ho
          have la := dg_le a
          have lb := dg_le b
          have hr : ((hx a b).toNat : Int) = 16 * da + db := by
            unfold hx
            rw [UInt8.toNat_ofNat', hda, hdb]
            omega
          have HA : Hid (IntKind.i64.wrap ((q : Int) + 1) = ((q + 1 : Nat) : Int) ∧ IntKind.i64.wrap ((q : Int) + 2) = ((q + 2 : Nat) : Int) ∧ s.data.toList[q + 1]? = some a ∧ s.data.toList[q + 2]? = some b ∧ IntKind.i64.wrap (16 * da) = 16 * da ∧ IntKind.i64.wrap (16 * da + db) = 16 * da + db ∧ IntKind.u8.wrap (16 * da + db) = ((hx a b).toNat : Int)) :=
            ⟨by rw [IntKind.wrap_i64]; omega, by rw [IntKind.wrap_i64]; omega, HAB.out.1, HAB.out.2, by rw [IntKind.wrap_i64]; omega, by rw [IntKind.wrap_i64]; omega, by rw [hr, IntKind.wrap_u8]; omega⟩
          have qa : 0 ≤ da := by omega
          have qb : 0 ≤ db := by omega
          have HT3 : Hid (q + 2 < n) := by show q + 2 < n; omega
          clear ho hda hdb hna hnb la lb hr
          go_wp2_with (with_reducible change wpList _ _ _ ({ dst := some 16, op := _, type := _, pos := _, after := _, guard := _ } :: _) _ _; refine Hid.out ?_)
          show wpList _ _ _ _ _ _
          refine wpList_idx rfl (.tmp 14) (.tmp 15) rfl s q 37 rfl rfl HCI.out ?_
          go_wp2_with fail
          refine (CA.out wr).mono ?_
          rintro e W ⟨rfl, rfl⟩
          go_wp2_with fail
          refine (CB.out wr).mono ?_
          rintro e W ⟨rfl, rfl⟩
          go_wp2_with fail
          refine ru9 HV.out.bel HV.out.own HNL.out HI5.out HA.out CA.out CB.out ?_
          intro V1 g5 v5 ho5 hb5
          have HF : Hid (VI w L v5 (q + 3) (o ++ [hx a b]) V1) := HV.out.step HD.out HOne.out ho5 hb5
          clear ho5 hb5 hix1 hix2
          go_wp2
          go_roundw
          case rel => exact ⟨q + 3, _, o ++ [hx a b], by congr 1, rfl, HF.out⟩
          case measure => show n - (q + 3) < n - q; have := HT3.out; omega
        · have hn2 := dg_neg b hnb
          have ho : oneE (37 :: a :: b :: u) = .inl 220 := by unfold oneE; dsimp only; rw [if_pos rfl, if_neg (fun h => hnb h.2)]
          have HR : Hid (R = .tuple #[.string e0, iv (q : Int), iv 220]) := HRR.out.symm.trans (HV.out.bad HD.out ho)
          have qa : 0 ≤ da := by omega
          have qb : db < 0 := by omega
          clear ho hda hdb hna hnb hn2
          go_wp2_with (with_reducible change wpList _ _ _ ({ dst := some 16, op := _, type := _, pos := _, after := _, guard := _ } :: _) _ _; refine Hid.out ?_)
          show wpList _ _ _ _ _ _
          refine wpList_idx rfl (.tmp 14) (.tmp 15) rfl s q 37 rfl rfl HCI.out ?_
          go_wp2_with fail
          refine (CA.out wr).mono ?_
          rintro e W ⟨rfl, rfl⟩
          go_wp2_with fail
          refine (CB.out wr).mono ?_
          rintro e W ⟨rfl, rfl⟩
          go_wp2
          go_ret3
          exact ⟨by rw [HR.out]; rfl, HV.out.bel⟩
      · have hn2 := dg_neg a hna
        have ho : oneE (37 :: a :: b :: u) = .inl 220 := by unfold oneE; dsimp only; rw [if_pos rfl, if_neg (fun h => hna h.1)]
        have HR : Hid (R = .tuple #[.string e0, iv (q : Int), iv 220]) := HRR.out.symm.trans (HV.out.bad HD.out ho)
        have qa : da < 0 := by omega
        clear ho hda hdb hna hn2
        go_wp2_with (with_reducible change wpList _ _ _ ({ dst := some 16, op := _, type := _, pos := _, after := _, guard := _ } :: _) _ _; refine Hid.out ?_)
        show wpList _ _ _ _ _ _
        refine wpList_idx rfl (.tmp 14) (.tmp 15) rfl s q 37 rfl rfl HCI.out ?_
        go_wp2_with fail
        refine (CA.out wr).mono ?_
        rintro e W ⟨rfl, rfl⟩
        go_wp2
        go_ret3
        exact ⟨by rw [HR.out]; rfl, HV.out.bel⟩
    by_cases h43 : c = 43
    · subst h43
      have HOne : Hid (oneE (43 :: t) = .inr (32, 1)) := rfl
      clear h12 h37
      obtain ⟨W4, hW4⟩ : ∃ W4, wr.alloc (.cells #[bv 32] 5) = W4 := ⟨_, rfl⟩
      have hb4 : Below wr.heap.size wr W4 := by rw [← hW4]; exact below_al _ _
      have HH : Hid (W4.ownsRow w.heap.size 5 1 v o.length (U o) ∧ In W4 (some ⟨wr.heap.size, 0, none⟩) 1 1 [32] ∧ w.heap.size ≤ W4.heap.size ∧ Below w.heap.size w W4) := ⟨HV.out.own.below hb4 (Nat.le_refl _), by rw [← hW4]; exact in_new wr 5 [32] (by simp), Nat.le_trans HV.out.bel.size hb4.size, below_tr HV.out.bel hb4⟩
      clear hb4
      go_wp2_with (with_reducible change wpList _ _ _ ({ dst := some 16, op := _, type := _, pos := _, after := _, guard := _ } :: _) _ _; refine Hid.out ?_)
      show wpList _ _ _ _ _ _
      refine wpList_idx rfl (.tmp 14) (.tmp 15) rfl s q 43 rfl rfl HCI.out ?_
      go_wp2_with (with_reducible change wpList _ _ _ ({ dst := some 63, op := _, type := _, pos := _, after := _, guard := _ } :: _) _ _; refine Hid.out ?_)
      show wpList _ _ _ _ _ _
      refine wpList_append_in _ rfl (.tmp 61) (.tmp 62) 51 rfl w.heap.size 5 i0 Tryd.underlying51 HI5.out.1 HI5.out.2.1 HI5.out.2.2.1 HI5.out.2.2.2 v o o.length rfl rfl HH.out.1 (some ⟨wr.heap.size, 0, none⟩) 1 1 [32] rfl HH.out.2.1 HNL.out HH.out.2.2.1 ?_
      intro v5 W5 ho5 hg5
      have HF : Hid (VI w L v5 (q + 1) (o ++ [32]) W5) := HV.out.step HD.out HOne.out ho5 (HH.out.2.2.2.grown hg5 HH.out.2.2.1 (fun j hj => own_lt HH.out.1 hj))
      clear ho5 hg5
      go_wp2
      go_roundw
      case rel => exact ⟨q + 1, _, o ++ [32], rfl, rfl, HF.out⟩
      case measure => show n - (q + 1) < n - q; have := HT.out; omega
    have n37 : ((c.toNat : Int) == 37) = false := by rw [beq_eq_false_iff_ne]; exact fun h => h37 (UInt8.toNat_inj.1 (by show c.toNat = 37; omega))
    have n43 : ((c.toNat : Int) == 43) = false := by rw [beq_eq_false_iff_ne]; exact fun h => h43 (UInt8.toNat_inj.1 (by show c.toNat = 43; omega))
    by_cases hp : plainI (c.toNat : Int) = true
    · have HOne : Hid (oneE (c :: t) = .inr (c, 1)) := by show oneE (c :: t) = _; unfold oneE; dsimp only; rw [if_neg h37, if_neg h43, if_pos hp]
      have HP : Hid (plainI (c.toNat : Int) = true) := hp
      clear h12 h37 h43 hp
      obtain ⟨W4, hW4⟩ : ∃ W4, wr.alloc (.cells #[bv (c.toNat : Int)] 5) = W4 := ⟨_, rfl⟩
      have hb4 : Below wr.heap.size wr W4 := by rw [← hW4]; exact below_al _ _
      have HH : Hid (W4.ownsRow w.heap.size 5 1 v o.length (U o) ∧ In W4 (some ⟨wr.heap.size, 0, none⟩) 1 1 [c] ∧ w.heap.size ≤ W4.heap.size ∧ Below w.heap.size w W4) := ⟨HV.out.own.below hb4 (Nat.le_refl _), by rw [← hW4]; exact in_new wr 5 [c] (by simp), Nat.le_trans HV.out.bel.size hb4.size, below_tr HV.out.bel hb4⟩
      clear hb4
      go_wp2_with (with_reducible change wpList _ _ _ ({ dst := some 16, op := _, type := _, pos := _, after := _, guard := _ } :: _) _ _; refine Hid.out ?_)
      show wpList _ _ _ _ _ _
      refine wpList_idx rfl (.tmp 14) (.tmp 15) rfl s q c rfl rfl HCI.out ?_
      go_wp2_with fail
      refine (rplain_is (c.toNat : Int) wr true HP.out).mono ?_
      rintro e W ⟨rfl, rfl⟩
      go_wp2_with (with_reducible change wpList _ _ _ ({ dst := some 69, op := _, type := _, pos := _, after := _, guard := _ } :: _) _ _; refine Hid.out ?_)
      show wpList _ _ _ _ _ _
      refine wpList_append_in _ rfl (.tmp 66) (.tmp 68) 51 rfl w.heap.size 5 i0 Tryd.underlying51 HI5.out.1 HI5.out.2.1 HI5.out.2.2.1 HI5.out.2.2.2 v o o.length rfl rfl HH.out.1 (some ⟨wr.heap.size, 0, none⟩) 1 1 [c] rfl HH.out.2.1 HNL.out HH.out.2.2.1 ?_
      intro v5 W5 ho5 hg5
      have HF : Hid (VI w L v5 (q + 1) (o ++ [c]) W5) := HV.out.step HD.out HOne.out ho5 (HH.out.2.2.2.grown hg5 HH.out.2.2.1 (fun j hj => own_lt HH.out.1 hj))
      clear ho5 hg5
      go_wp2
      go_roundw
      case rel => exact ⟨q + 1, _, o ++ [c], rfl, rfl, HF.out⟩
      case measure => show n - (q + 1) < n - q; have := HT.out; omega
    have ho : oneE (c :: t) = .inl 221 := by unfold oneE; dsimp only; rw [if_neg h37, if_neg h43, if_neg hp]
    have HR : Hid (R = .tuple #[.string e0, iv (q : Int), iv 221]) := HRR.out.symm.trans (HV.out.bad HD.out ho)
    have HP : Hid (plainI (c.toNat : Int) = false) := by simpa [Hid] using hp
    clear ho h12 h37 h43 hp
    go_wp2_with (with_reducible change wpList _ _ _ ({ dst := some 16, op := _, type := _, pos := _, after := _, guard := _ } :: _) _ _; refine Hid.out ?_)
    show wpList _ _ _ _ _ _
    refine wpList_idx rfl (.tmp 14) (.tmp 15) rfl s q c rfl rfl HCI.out ?_
    go_wp2_with fail
    refine (rplain_is (c.toNat : Int) wr false HP.out).mono ?_
    rintro e W ⟨rfl, rfl⟩
    go_wp2
    go_ret3
    exact ⟨by rw [HR.out]; rfl, HV.out.bel⟩
#print axioms runesc_is
end Go.Proofs.YtlbcpbibcfolkaaDoor.Oct
