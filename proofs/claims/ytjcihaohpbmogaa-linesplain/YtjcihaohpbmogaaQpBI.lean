/-
  Layer 11 (lines): lives: an addition.
-/
import Derived.Test.YtjcihaohpbmogaaQpAN
/- Layer 11 (lines): lives: an addition. -/
namespace Go.Proofs.Ytjcihaohpbmogaa.Oct
open Go.RowKit
set_option maxRecDepth 100000
set_option linter.unusedSimpArgs false
set_option linter.unusedVariables false
set_option linter.unusedSectionVars false

theorem step_bs9 {ops : Array Oper} {op : Oper} {a : Act} {w : World} {K : Act → World → Prop} {Q : Exit → Act → World → Prop} {E : Prop} (hw : Region.wanted op (yielded ops a.tmps) = true) (x : Operand) (hop : op.op = .buildSlice 36 1 #[(0, x)]) (s : BA) (hx : a.eval x = .string s)
    (hk : K (a.put op.dst (.slice (some ⟨w.heap.size, 0, none⟩) 1 1)) (w.alloc (.cells [Value.string s].toArray 9))) : if Region.wanted op (yielded ops a.tmps) = true then Oper.wp Try.prog op a w K Q else E := by
  rw [if_pos hw]
  unfold Oper.wp execOp
  simp only [hop, List.map_toArray, List.map_cons, List.map_nil, hx, Sem.run_bind, Sem.run_pure, Result.andThen_ok, bs9]
  exact hk
theorem TsR.one (w : World) (s : BA) : TsR (w.alloc (.cells [Value.string s].toArray 9)) (some ⟨w.heap.size, 0, none⟩) 1 [s] := by
  have hb := Blk.new w [Value.string s].toArray 9
  refine ⟨rfl, fun _ => ⟨_, _, rfl, by simp, fun i x hi => ?_⟩⟩
  cases i with
  | zero =>
    simp at hi
    subst hi
    exact hb.cell rfl
  | succ i => simp at hi
set_option maxRecDepth 100000 in
set_option maxHeartbeats 4000000 in
theorem lv3 {Q : Exit → Act → World → Prop} {x0 x4 x5 x6 x7 x8 x9 x10 x11 x12 x13 x14 x15 x16 x17 x18 x19 x20 x21 x22 x23 x24 x25 x26 x27 x28 x29 x30 x31 x32 x33 x34 x35 x36 x37 x38 x39 x40 x41 x42 x43 x44 x45 x46 x47 x48 x49 x50 x51 x52 x53 x54 x55 x56 x57 x58 x59 x60 x61 x62 x63 x64 x65 x66 x67 x68 x69 x70 : Value} {ds : List Deferred} {A : World} {p d2 d3 : Nat} {G : Gm} {x : Vx} {XC : List Value} {CT : List Value} {CB : List Value} {s : BA} {PS : List PL} 
    (HG : Hid (GAt A p G)) (HV : Hid (Vk x)) (HXC : Hid (x.cells = XC))  (HL2 : Hid (d2 < A.heap.size ∧ ¬ d2 ∈ G.bl p)) (HR2 : Hid (A.rangeAt d2 0 CT)) (HI2 : Hid ((Try.prog.info? 34).map (·.size) = some CT.length)) (HL3 : Hid (d3 < A.heap.size ∧ ¬ d3 ∈ G.bl p)) (HR3 : Hid (A.rangeAt d3 0 CB)) (HI3 : Hid ((Try.prog.info? 34).map (·.size) = some CB.length)) (HIDX : Hid (∀ W, Calls Try.prog 29 #[iv 5] W fun e w' => e = .returned (.agg XC.toArray) ∧ Below W.heap.size W w')) (HS : Hid (Value.string { data := #[97] } = .string s)) (HADD : Hid (∀ V r1 r2, GAt V p G → VsR V (some ⟨r1, 0, none⟩) 1 [x] → TsR V (some ⟨r2, 0, none⟩) 1 [s] → Calls Try.prog 22 #[.pointer (some ⟨p, 0, none⟩), .agg CT.toArray, .agg CB.toArray, .slice (some ⟨r1, 0, none⟩) 1 1, .slice (some ⟨r2, 0, none⟩) 1 1] V fun e w' => e = .returned (iv 0) ∧ ∃ G', GAfter V p G G' w' ∧ G'.ps = PS))
    (hQ : ∀ V3 r1 r2 G', Keep (fun k => k ∈ G.bl p) A V3 → (GAt V3 p G' ∧ G'.ps = PS ∧ ∀ k ∈ G'.bl p, k ∈ G.bl p ∨ A.heap.size ≤ k) → Q .normal { tmps := #[x0, .pointer (some ⟨p, 0, none⟩), .pointer (some ⟨d2, 0, none⟩), .pointer (some ⟨d3, 0, none⟩), iv 0, x5, x6, x7, x8, x9, x10, .pointer (some ⟨p, 0, none⟩), .agg CT.toArray, .agg CB.toArray, .agg XC.toArray, .slice (some ⟨r1, 0, none⟩) 1 1, .slice (some ⟨r2, 0, none⟩) 1 1, iv 0, x18, x19, x20, x21, x22, x23, x24, x25, x26, x27, x28, x29, x30, x31, x32, x33, x34, x35, x36, x37, x38, x39, x40, x41, x42, x43, x44, x45, x46, x47, x48, x49, x50, x51, x52, x53, x54, x55, x56, x57, x58, x59, x60, x61, x62, x63, x64, x65, x66, x67, x68, x69, x70], defers := ds } V3) :
    (Code.region 3 #[{ dst := some 11, op := Op.move (Operand.tmp 1), type := 25, pos := "law.go:18", after := #[], guard := none }, { dst := some 12, op := Op.load 34 (Operand.tmp 2), type := 34, pos := "law.go:18", after := #[], guard := none }, { dst := some 13, op := Op.load 34 (Operand.tmp 3), type := 34, pos := "law.go:18", after := #[], guard := none }, { dst := some 14, op := Op.call { callee := Callee.value (Operand.func 29), args := #[Operand.const (Value.int IntKind.i64 5)], argTypes := #[3] }, type := 34, pos := "law.go:18", after := #[], guard := none }, { dst := some 15, op := Op.buildSlice 35 1 #[(0, Operand.tmp 14)], type := 35, pos := "law.go:18", after := #[{ on := 3, ground := Ground.data }], guard := none }, { dst := some 16, op := Op.buildSlice 36 1 #[(0, Operand.const (Value.string { data := #[97] }))], type := 36, pos := "law.go:18", after := #[], guard := none }, { dst := some 17, op := Op.call { callee := Callee.value (Operand.func 22), args := #[Operand.tmp 11, Operand.tmp 12, Operand.tmp 13, Operand.tmp 15, Operand.tmp 16], argTypes := #[25, 34, 34, 35, 36] }, type := 40, pos := "law.go:18", after := #[{ on := 0, ground := Ground.data }, { on := 1, ground := Ground.data }, { on := 2, ground := Ground.data }, { on := 4, ground := Ground.data }, { on := 5, ground := Ground.data }, { on := 3, ground := Ground.chain }], guard := none }, { dst := some 4, op := Op.assign (Operand.tmp 17), type := 40, pos := "law.go:18", after := #[{ on := 6, ground := Ground.data }, { on := 6, ground := Ground.chain }, { on := 0, ground := Ground.phase }, { on := 1, ground := Ground.phase }, { on := 2, ground := Ground.phase }, { on := 3, ground := Ground.phase }, { on := 4, ground := Ground.phase }, { on := 5, ground := Ground.phase }, { on := 6, ground := Ground.phase }], guard := none }] true).wp Try.prog Q { tmps := #[x0, .pointer (some ⟨p, 0, none⟩), .pointer (some ⟨d2, 0, none⟩), .pointer (some ⟨d3, 0, none⟩), x4, x5, x6, x7, x8, x9, x10, x11, x12, x13, x14, x15, x16, x17, x18, x19, x20, x21, x22, x23, x24, x25, x26, x27, x28, x29, x30, x31, x32, x33, x34, x35, x36, x37, x38, x39, x40, x41, x42, x43, x44, x45, x46, x47, x48, x49, x50, x51, x52, x53, x54, x55, x56, x57, x58, x59, x60, x61, x62, x63, x64, x65, x66, x67, x68, x69, x70], defers := ds } A := by
  refine Code.wp_mono (Q := fun x a' w' => match x with | .normal => Q .normal a' w' | _ => False) (by intro x a' w' h; cases x <;> first | exact h | exact h.elim) ?_
  refine wp_region_held (S := fun V => Keep (fun k => k ∈ G.bl p) A V) (by kernel_rfl) ?_
  have hS0 : Hid (Keep (fun k => k ∈ G.bl p) A A.drew) := (Keep.refl _ A).drew
  change wpAnyH Try.prog .any _ _ (fun V => Keep (fun k => k ∈ G.bl p) A V) 8 (Array.replicate 8 false) _ A.drew
  obtain ⟨V0, hV0⟩ : ∃ V0, A.drew = V0 := ⟨_, rfl⟩
  rw [hV0]
  rw [hV0] at hS0
  have hX0 : Hid (GAt V0 p G) := by
    show GAt V0 p G
    rw [← hV0]
    exact HG.out.below (below_drew0 A)
  clear hV0
  refine wpAnyH_take (i := 0) (oi := { dst := some 11, op := Op.move (Operand.tmp 1), type := 25, pos := "law.go:18", after := #[], guard := none }) (v := .pointer (some ⟨p, 0, none⟩)) rfl (by kernel_rfl) (by kernel_rfl) (by kernel_rfl) (fun _ _ _ h => h.elim) (Or.inl ⟨by rfl, ?y1⟩) hS0.out ?_
  case y1 =>
    intro V hV
    go_simp
  simp only [Act.put, List.setIfInBounds_toArray, List.set_cons_zero, List.set_cons_succ]
  refine wpAnyH_take (i := 1) (oi := { dst := some 12, op := Op.load 34 (Operand.tmp 2), type := 34, pos := "law.go:18", after := #[], guard := none }) (v := .agg CT.toArray) rfl (by kernel_rfl) (by kernel_rfl) (by kernel_rfl) (fun _ _ _ h => h.elim) (yieldsIf_load_mid (by rfl) _ _ rfl _ _ rfl (CT) _ (fun V hV => rangeAt_same (HR2.out) ((show Keep (fun k => k ∈ G.bl p) A V from hV).block _ (HL2.out.1) (HL2.out.2))) Try.underlying34 rfl (HI2.out)) hS0.out ?_
  simp only [Act.put, List.setIfInBounds_toArray, List.set_cons_zero, List.set_cons_succ]
  refine wpAnyH_take (i := 2) (oi := { dst := some 13, op := Op.load 34 (Operand.tmp 3), type := 34, pos := "law.go:18", after := #[], guard := none }) (v := .agg CB.toArray) rfl (by kernel_rfl) (by kernel_rfl) (by kernel_rfl) (fun _ _ _ h => h.elim) (yieldsIf_load_mid (by rfl) _ _ rfl _ _ rfl (CB) _ (fun V hV => rangeAt_same (HR3.out) ((show Keep (fun k => k ∈ G.bl p) A V from hV).block _ (HL3.out.1) (HL3.out.2))) Try.underlying34 rfl (HI3.out)) hS0.out ?_
  simp only [Act.put, List.setIfInBounds_toArray, List.set_cons_zero, List.set_cons_succ]
  refine wpAnyH_ready (rs := [3, 5]) (by kernel_rfl) (by simp) (AllReadyH.cons (i := 3) (o := { dst := some 14, op := Op.call { callee := Callee.value (Operand.func 29), args := #[Operand.const (Value.int IntKind.i64 5)], argTypes := #[3] }, type := 34, pos := "law.go:18", after := #[], guard := none }) rfl ?_ (AllReadyH.cons (i := 5) (o := { dst := some 16, op := Op.buildSlice 36 1 #[(0, Operand.const (Value.string { data := #[97] }))], type := 36, pos := "law.go:18", after := #[], guard := none }) rfl ?_ AllReadyH.nil))
  · intro K1 hK1
    rw [if_pos (by rfl)]
    have HC1 := HIDX.out V0
    go_wp2_with fail
    refine HC1.mono ?_
    rintro e V1 ⟨rfl, hb1⟩
    dsimp only
    clear HC1
    have hS1 : Hid (Keep (fun k => k ∈ G.bl p) A V1) := (hS0.out).trans (Keep.below (S := fun _ => False) hb1) (fun _ h _ => h.elim)
    have hX1 : Hid (GAt V1 p G ∧ True) := ⟨(hX0.out).below hb1, trivial⟩
    clear hb1
    refine hK1.out _ _ hS1.out ?_
    clear hK1
    intro _
    try simp only [Act.put, List.setIfInBounds_toArray, List.set_cons_zero, List.set_cons_succ]
    refine wpAnyH_ready (rs := [4, 5]) (by kernel_rfl) (by simp) (AllReadyH.cons (i := 4) (o := { dst := some 15, op := Op.buildSlice 35 1 #[(0, Operand.tmp 14)], type := 35, pos := "law.go:18", after := #[{ on := 3, ground := Ground.data }], guard := none }) rfl ?_ (AllReadyH.cons (i := 5) (o := { dst := some 16, op := Op.buildSlice 36 1 #[(0, Operand.const (Value.string { data := #[97] }))], type := 36, pos := "law.go:18", after := #[], guard := none }) rfl ?_ AllReadyH.nil))
    · intro K1 hK1
      refine step_bs1 (by rfl) _ rfl x HV.out.1 (by rw [HXC.out]; rfl) ?_
      obtain ⟨V2, hv2⟩ : ∃ V, V1.alloc (.cells x.cells.toArray 34) = V := ⟨_, rfl⟩
      obtain ⟨r1, hr2⟩ : ∃ m, V1.heap.size = m := ⟨_, rfl⟩
      have hb2 : Below V1.heap.size V1 V2 := by rw [← hv2]; exact below_al _ _
      have hS2 : Hid (Keep (fun k => k ∈ G.bl p) A V2) := (hS1.out).trans (Keep.below (S := fun _ => False) hb2) (fun _ h _ => h.elim)
      have hX2 : Hid (GAt V2 p G ∧ True) := ⟨(hX1.out.1).below hb2, trivial⟩
      have hR2 : Hid (VsR V2 (some ⟨r1, 0, none⟩) 1 [x]) := by
        show VsR _ _ _ _
        rw [← hv2, ← hr2]
        exact VsR.one _ _ HV.out
      rw [hv2, hr2]
      clear hv2 hr2 hb2
      refine hK1.out _ _ hS2.out ?_
      clear hK1
      intro _
      try simp only [Act.put, List.setIfInBounds_toArray, List.set_cons_zero, List.set_cons_succ]
      refine wpAnyH_ready (rs := [5]) (by kernel_rfl) (by simp) (AllReadyH.cons (i := 5) (o := { dst := some 16, op := Op.buildSlice 36 1 #[(0, Operand.const (Value.string { data := #[97] }))], type := 36, pos := "law.go:18", after := #[], guard := none }) rfl ?_ AllReadyH.nil)
      · intro K1 hK1
        refine step_bs9 (by rfl) _ rfl s HS.out ?_
        obtain ⟨V3, hv3⟩ : ∃ V, V2.alloc (.cells [Value.string s].toArray 9) = V := ⟨_, rfl⟩
        obtain ⟨r2, hr3⟩ : ∃ m, V2.heap.size = m := ⟨_, rfl⟩
        have hb3 : Below V2.heap.size V2 V3 := by rw [← hv3]; exact below_al _ _
        have hS3 : Hid (Keep (fun k => k ∈ G.bl p) A V3) := (hS2.out).trans (Keep.below (S := fun _ => False) hb3) (fun _ h _ => h.elim)
        have hX3 : Hid (GAt V3 p G ∧ VsR V3 (some ⟨r1, 0, none⟩) 1 [x] ∧ True) := ⟨(hX2.out.1).below hb3, (hR2.out).below hb3, trivial⟩
        have hR3 : Hid (TsR V3 (some ⟨r2, 0, none⟩) 1 [s]) := by
          show TsR _ _ _ _
          rw [← hv3, ← hr3]
          exact TsR.one _ _
        rw [hv3, hr3]
        clear hv3 hr3 hb3
        refine hK1.out _ _ hS3.out ?_
        clear hK1
        intro _
        try simp only [Act.put, List.setIfInBounds_toArray, List.set_cons_zero, List.set_cons_succ]
        refine wpAnyH_ready (rs := [6]) (by kernel_rfl) (by simp) (AllReadyH.cons (i := 6) (o := { dst := some 17, op := Op.call { callee := Callee.value (Operand.func 22), args := #[Operand.tmp 11, Operand.tmp 12, Operand.tmp 13, Operand.tmp 15, Operand.tmp 16], argTypes := #[25, 34, 34, 35, 36] }, type := 40, pos := "law.go:18", after := #[{ on := 0, ground := Ground.data }, { on := 1, ground := Ground.data }, { on := 2, ground := Ground.data }, { on := 4, ground := Ground.data }, { on := 5, ground := Ground.data }, { on := 3, ground := Ground.chain }], guard := none }) rfl ?_ AllReadyH.nil)
        · intro K1 hK1
          rw [if_pos (by rfl)]
          have HC4 := HADD.out V3 r1 r2 (hX3.out.1) (hX3.out.2.1) (hR3.out)
          go_wp2_with fail
          refine HC4.mono ?_
          rintro e V4 ⟨rfl, G', hga4, hps4⟩
          dsimp only
          clear HC4
          have hS4 : Hid (Keep (fun k => k ∈ G.bl p) A V4) := (hS3.out).trans hga4.2.2 (fun _ h _ => h)
          have hX4 : Hid (GAt V4 p G' ∧ G'.ps = PS ∧ ∀ k ∈ G'.bl p, k ∈ G.bl p ∨ A.heap.size ≤ k) := ⟨hga4.1, hps4, fun k hk => (hga4.2.1 k hk).imp id (fun h => Nat.le_trans (hS3.out).size h)⟩
          clear hga4 hps4
          refine hK1.out _ _ hS4.out ?_
          clear hK1
          intro _
          try simp only [Act.put, List.setIfInBounds_toArray, List.set_cons_zero, List.set_cons_succ]
          refine wpAnyH_take (i := 7) (oi := { dst := some 4, op := Op.assign (Operand.tmp 17), type := 40, pos := "law.go:18", after := #[{ on := 6, ground := Ground.data }, { on := 6, ground := Ground.chain }, { on := 0, ground := Ground.phase }, { on := 1, ground := Ground.phase }, { on := 2, ground := Ground.phase }, { on := 3, ground := Ground.phase }, { on := 4, ground := Ground.phase }, { on := 5, ground := Ground.phase }, { on := 6, ground := Ground.phase }], guard := none }) (v := iv 0) rfl (by kernel_rfl) (by kernel_rfl) (by kernel_rfl) (fun _ _ _ h => h.elim) (Or.inl ⟨by rfl, ?y2⟩) hS4.out ?_
          case y2 =>
            intro V hV
            go_simp
          simp only [Act.put, List.setIfInBounds_toArray, List.set_cons_zero, List.set_cons_succ]
          refine wpAnyH_done (by kernel_rfl) ?_ _
          exact hQ V4 r1 r2 G' hS4.out hX4.out
    · intro K1 hK1
      refine step_bs9 (by rfl) _ rfl s HS.out ?_
      obtain ⟨V2, hv2⟩ : ∃ V, V1.alloc (.cells [Value.string s].toArray 9) = V := ⟨_, rfl⟩
      obtain ⟨r2, hr2⟩ : ∃ m, V1.heap.size = m := ⟨_, rfl⟩
      have hb2 : Below V1.heap.size V1 V2 := by rw [← hv2]; exact below_al _ _
      have hS2 : Hid (Keep (fun k => k ∈ G.bl p) A V2) := (hS1.out).trans (Keep.below (S := fun _ => False) hb2) (fun _ h _ => h.elim)
      have hX2 : Hid (GAt V2 p G ∧ True) := ⟨(hX1.out.1).below hb2, trivial⟩
      have hR2 : Hid (TsR V2 (some ⟨r2, 0, none⟩) 1 [s]) := by
        show TsR _ _ _ _
        rw [← hv2, ← hr2]
        exact TsR.one _ _
      rw [hv2, hr2]
      clear hv2 hr2 hb2
      refine hK1.out _ _ hS2.out ?_
      clear hK1
      intro _
      try simp only [Act.put, List.setIfInBounds_toArray, List.set_cons_zero, List.set_cons_succ]
      refine wpAnyH_ready (rs := [4]) (by kernel_rfl) (by simp) (AllReadyH.cons (i := 4) (o := { dst := some 15, op := Op.buildSlice 35 1 #[(0, Operand.tmp 14)], type := 35, pos := "law.go:18", after := #[{ on := 3, ground := Ground.data }], guard := none }) rfl ?_ AllReadyH.nil)
      · intro K1 hK1
        refine step_bs1 (by rfl) _ rfl x HV.out.1 (by rw [HXC.out]; rfl) ?_
        obtain ⟨V3, hv3⟩ : ∃ V, V2.alloc (.cells x.cells.toArray 34) = V := ⟨_, rfl⟩
        obtain ⟨r1, hr3⟩ : ∃ m, V2.heap.size = m := ⟨_, rfl⟩
        have hb3 : Below V2.heap.size V2 V3 := by rw [← hv3]; exact below_al _ _
        have hS3 : Hid (Keep (fun k => k ∈ G.bl p) A V3) := (hS2.out).trans (Keep.below (S := fun _ => False) hb3) (fun _ h _ => h.elim)
        have hX3 : Hid (GAt V3 p G ∧ TsR V3 (some ⟨r2, 0, none⟩) 1 [s] ∧ True) := ⟨(hX2.out.1).below hb3, (hR2.out).below hb3, trivial⟩
        have hR3 : Hid (VsR V3 (some ⟨r1, 0, none⟩) 1 [x]) := by
          show VsR _ _ _ _
          rw [← hv3, ← hr3]
          exact VsR.one _ _ HV.out
        rw [hv3, hr3]
        clear hv3 hr3 hb3
        refine hK1.out _ _ hS3.out ?_
        clear hK1
        intro _
        try simp only [Act.put, List.setIfInBounds_toArray, List.set_cons_zero, List.set_cons_succ]
        refine wpAnyH_ready (rs := [6]) (by kernel_rfl) (by simp) (AllReadyH.cons (i := 6) (o := { dst := some 17, op := Op.call { callee := Callee.value (Operand.func 22), args := #[Operand.tmp 11, Operand.tmp 12, Operand.tmp 13, Operand.tmp 15, Operand.tmp 16], argTypes := #[25, 34, 34, 35, 36] }, type := 40, pos := "law.go:18", after := #[{ on := 0, ground := Ground.data }, { on := 1, ground := Ground.data }, { on := 2, ground := Ground.data }, { on := 4, ground := Ground.data }, { on := 5, ground := Ground.data }, { on := 3, ground := Ground.chain }], guard := none }) rfl ?_ AllReadyH.nil)
        · intro K1 hK1
          rw [if_pos (by rfl)]
          have HC4 := HADD.out V3 r1 r2 (hX3.out.1) (hR3.out) (hX3.out.2.1)
          go_wp2_with fail
          refine HC4.mono ?_
          rintro e V4 ⟨rfl, G', hga4, hps4⟩
          dsimp only
          clear HC4
          have hS4 : Hid (Keep (fun k => k ∈ G.bl p) A V4) := (hS3.out).trans hga4.2.2 (fun _ h _ => h)
          have hX4 : Hid (GAt V4 p G' ∧ G'.ps = PS ∧ ∀ k ∈ G'.bl p, k ∈ G.bl p ∨ A.heap.size ≤ k) := ⟨hga4.1, hps4, fun k hk => (hga4.2.1 k hk).imp id (fun h => Nat.le_trans (hS3.out).size h)⟩
          clear hga4 hps4
          refine hK1.out _ _ hS4.out ?_
          clear hK1
          intro _
          try simp only [Act.put, List.setIfInBounds_toArray, List.set_cons_zero, List.set_cons_succ]
          refine wpAnyH_take (i := 7) (oi := { dst := some 4, op := Op.assign (Operand.tmp 17), type := 40, pos := "law.go:18", after := #[{ on := 6, ground := Ground.data }, { on := 6, ground := Ground.chain }, { on := 0, ground := Ground.phase }, { on := 1, ground := Ground.phase }, { on := 2, ground := Ground.phase }, { on := 3, ground := Ground.phase }, { on := 4, ground := Ground.phase }, { on := 5, ground := Ground.phase }, { on := 6, ground := Ground.phase }], guard := none }) (v := iv 0) rfl (by kernel_rfl) (by kernel_rfl) (by kernel_rfl) (fun _ _ _ h => h.elim) (Or.inl ⟨by rfl, ?y3⟩) hS4.out ?_
          case y3 =>
            intro V hV
            go_simp
          simp only [Act.put, List.setIfInBounds_toArray, List.set_cons_zero, List.set_cons_succ]
          refine wpAnyH_done (by kernel_rfl) ?_ _
          exact hQ V4 r1 r2 G' hS4.out hX4.out
  · intro K1 hK1
    refine step_bs9 (by rfl) _ rfl s HS.out ?_
    obtain ⟨V1, hv1⟩ : ∃ V, V0.alloc (.cells [Value.string s].toArray 9) = V := ⟨_, rfl⟩
    obtain ⟨r2, hr1⟩ : ∃ m, V0.heap.size = m := ⟨_, rfl⟩
    have hb1 : Below V0.heap.size V0 V1 := by rw [← hv1]; exact below_al _ _
    have hS1 : Hid (Keep (fun k => k ∈ G.bl p) A V1) := (hS0.out).trans (Keep.below (S := fun _ => False) hb1) (fun _ h _ => h.elim)
    have hX1 : Hid (GAt V1 p G ∧ True) := ⟨(hX0.out).below hb1, trivial⟩
    have hR1 : Hid (TsR V1 (some ⟨r2, 0, none⟩) 1 [s]) := by
      show TsR _ _ _ _
      rw [← hv1, ← hr1]
      exact TsR.one _ _
    rw [hv1, hr1]
    clear hv1 hr1 hb1
    refine hK1.out _ _ hS1.out ?_
    clear hK1
    intro _
    try simp only [Act.put, List.setIfInBounds_toArray, List.set_cons_zero, List.set_cons_succ]
    refine wpAnyH_ready (rs := [3]) (by kernel_rfl) (by simp) (AllReadyH.cons (i := 3) (o := { dst := some 14, op := Op.call { callee := Callee.value (Operand.func 29), args := #[Operand.const (Value.int IntKind.i64 5)], argTypes := #[3] }, type := 34, pos := "law.go:18", after := #[], guard := none }) rfl ?_ AllReadyH.nil)
    · intro K1 hK1
      rw [if_pos (by rfl)]
      have HC2 := HIDX.out V1
      go_wp2_with fail
      refine HC2.mono ?_
      rintro e V2 ⟨rfl, hb2⟩
      dsimp only
      clear HC2
      have hS2 : Hid (Keep (fun k => k ∈ G.bl p) A V2) := (hS1.out).trans (Keep.below (S := fun _ => False) hb2) (fun _ h _ => h.elim)
      have hX2 : Hid (GAt V2 p G ∧ TsR V2 (some ⟨r2, 0, none⟩) 1 [s] ∧ True) := ⟨(hX1.out.1).below hb2, (hR1.out).below hb2, trivial⟩
      clear hb2
      refine hK1.out _ _ hS2.out ?_
      clear hK1
      intro _
      try simp only [Act.put, List.setIfInBounds_toArray, List.set_cons_zero, List.set_cons_succ]
      refine wpAnyH_ready (rs := [4]) (by kernel_rfl) (by simp) (AllReadyH.cons (i := 4) (o := { dst := some 15, op := Op.buildSlice 35 1 #[(0, Operand.tmp 14)], type := 35, pos := "law.go:18", after := #[{ on := 3, ground := Ground.data }], guard := none }) rfl ?_ AllReadyH.nil)
      · intro K1 hK1
        refine step_bs1 (by rfl) _ rfl x HV.out.1 (by rw [HXC.out]; rfl) ?_
        obtain ⟨V3, hv3⟩ : ∃ V, V2.alloc (.cells x.cells.toArray 34) = V := ⟨_, rfl⟩
        obtain ⟨r1, hr3⟩ : ∃ m, V2.heap.size = m := ⟨_, rfl⟩
        have hb3 : Below V2.heap.size V2 V3 := by rw [← hv3]; exact below_al _ _
        have hS3 : Hid (Keep (fun k => k ∈ G.bl p) A V3) := (hS2.out).trans (Keep.below (S := fun _ => False) hb3) (fun _ h _ => h.elim)
        have hX3 : Hid (GAt V3 p G ∧ TsR V3 (some ⟨r2, 0, none⟩) 1 [s] ∧ True) := ⟨(hX2.out.1).below hb3, (hX2.out.2.1).below hb3, trivial⟩
        have hR3 : Hid (VsR V3 (some ⟨r1, 0, none⟩) 1 [x]) := by
          show VsR _ _ _ _
          rw [← hv3, ← hr3]
          exact VsR.one _ _ HV.out
        rw [hv3, hr3]
        clear hv3 hr3 hb3
        refine hK1.out _ _ hS3.out ?_
        clear hK1
        intro _
        try simp only [Act.put, List.setIfInBounds_toArray, List.set_cons_zero, List.set_cons_succ]
        refine wpAnyH_ready (rs := [6]) (by kernel_rfl) (by simp) (AllReadyH.cons (i := 6) (o := { dst := some 17, op := Op.call { callee := Callee.value (Operand.func 22), args := #[Operand.tmp 11, Operand.tmp 12, Operand.tmp 13, Operand.tmp 15, Operand.tmp 16], argTypes := #[25, 34, 34, 35, 36] }, type := 40, pos := "law.go:18", after := #[{ on := 0, ground := Ground.data }, { on := 1, ground := Ground.data }, { on := 2, ground := Ground.data }, { on := 4, ground := Ground.data }, { on := 5, ground := Ground.data }, { on := 3, ground := Ground.chain }], guard := none }) rfl ?_ AllReadyH.nil)
        · intro K1 hK1
          rw [if_pos (by rfl)]
          have HC4 := HADD.out V3 r1 r2 (hX3.out.1) (hR3.out) (hX3.out.2.1)
          go_wp2_with fail
          refine HC4.mono ?_
          rintro e V4 ⟨rfl, G', hga4, hps4⟩
          dsimp only
          clear HC4
          have hS4 : Hid (Keep (fun k => k ∈ G.bl p) A V4) := (hS3.out).trans hga4.2.2 (fun _ h _ => h)
          have hX4 : Hid (GAt V4 p G' ∧ G'.ps = PS ∧ ∀ k ∈ G'.bl p, k ∈ G.bl p ∨ A.heap.size ≤ k) := ⟨hga4.1, hps4, fun k hk => (hga4.2.1 k hk).imp id (fun h => Nat.le_trans (hS3.out).size h)⟩
          clear hga4 hps4
          refine hK1.out _ _ hS4.out ?_
          clear hK1
          intro _
          try simp only [Act.put, List.setIfInBounds_toArray, List.set_cons_zero, List.set_cons_succ]
          refine wpAnyH_take (i := 7) (oi := { dst := some 4, op := Op.assign (Operand.tmp 17), type := 40, pos := "law.go:18", after := #[{ on := 6, ground := Ground.data }, { on := 6, ground := Ground.chain }, { on := 0, ground := Ground.phase }, { on := 1, ground := Ground.phase }, { on := 2, ground := Ground.phase }, { on := 3, ground := Ground.phase }, { on := 4, ground := Ground.phase }, { on := 5, ground := Ground.phase }, { on := 6, ground := Ground.phase }], guard := none }) (v := iv 0) rfl (by kernel_rfl) (by kernel_rfl) (by kernel_rfl) (fun _ _ _ h => h.elim) (Or.inl ⟨by rfl, ?y4⟩) hS4.out ?_
          case y4 =>
            intro V hV
            go_simp
          simp only [Act.put, List.setIfInBounds_toArray, List.set_cons_zero, List.set_cons_succ]
          refine wpAnyH_done (by kernel_rfl) ?_ _
          exact hQ V4 r1 r2 G' hS4.out hX4.out
set_option maxRecDepth 100000 in
set_option maxHeartbeats 4000000 in
theorem lv4 {Q : Exit → Act → World → Prop} {x0 x3 x4 x5 x6 x7 x8 x9 x10 x11 x12 x13 x14 x15 x16 x17 x18 x19 x20 x21 x22 x23 x24 x25 x26 x27 x28 x29 x30 x31 x32 x33 x34 x35 x36 x37 x38 x39 x40 x41 x42 x43 x44 x45 x46 x47 x48 x49 x50 x51 x52 x53 x54 x55 x56 x57 x58 x59 x60 x61 x62 x63 x64 x65 x66 x67 x68 x69 x70 : Value} {ds : List Deferred} {A : World} {p d2 : Nat} {G : Gm} {x : Vx} {XC : List Value} {CT : List Value} {CU : List Value} {s : BA} {PS : List PL} 
    (HG : Hid (GAt A p G)) (HV : Hid (Vk x)) (HXC : Hid (x.cells = XC))  (HL2 : Hid (d2 < A.heap.size ∧ ¬ d2 ∈ G.bl p)) (HR2 : Hid (A.rangeAt d2 0 CT)) (HI2 : Hid ((Try.prog.info? 34).map (·.size) = some CT.length)) (HIDU : Hid (∀ W, Calls Try.prog 29 #[iv 5] W fun e w' => e = .returned (.agg CU.toArray) ∧ Below W.heap.size W w')) (HIDX : Hid (∀ W, Calls Try.prog 29 #[iv 6] W fun e w' => e = .returned (.agg XC.toArray) ∧ Below W.heap.size W w')) (HS : Hid (Value.string { data := #[98] } = .string s)) (HADD : Hid (∀ V r1 r2, GAt V p G → VsR V (some ⟨r1, 0, none⟩) 1 [x] → TsR V (some ⟨r2, 0, none⟩) 1 [s] → Calls Try.prog 22 #[.pointer (some ⟨p, 0, none⟩), .agg CT.toArray, .agg CU.toArray, .slice (some ⟨r1, 0, none⟩) 1 1, .slice (some ⟨r2, 0, none⟩) 1 1] V fun e w' => e = .returned (iv 0) ∧ ∃ G', GAfter V p G G' w' ∧ G'.ps = PS))
    (hQ : ∀ V3 r1 r2 G', Keep (fun k => k ∈ G.bl p) A V3 → (GAt V3 p G' ∧ G'.ps = PS ∧ ∀ k ∈ G'.bl p, k ∈ G.bl p ∨ A.heap.size ≤ k) → Q .normal { tmps := #[x0, .pointer (some ⟨p, 0, none⟩), .pointer (some ⟨d2, 0, none⟩), x3, x4, iv 0, x6, x7, x8, x9, x10, x11, x12, x13, x14, x15, x16, x17, .pointer (some ⟨p, 0, none⟩), .agg CT.toArray, .agg CU.toArray, .agg XC.toArray, .slice (some ⟨r1, 0, none⟩) 1 1, .slice (some ⟨r2, 0, none⟩) 1 1, iv 0, x25, x26, x27, x28, x29, x30, x31, x32, x33, x34, x35, x36, x37, x38, x39, x40, x41, x42, x43, x44, x45, x46, x47, x48, x49, x50, x51, x52, x53, x54, x55, x56, x57, x58, x59, x60, x61, x62, x63, x64, x65, x66, x67, x68, x69, x70], defers := ds } V3) :
    (Code.region 4 #[{ dst := some 18, op := Op.move (Operand.tmp 1), type := 25, pos := "law.go:19", after := #[], guard := none }, { dst := some 19, op := Op.load 34 (Operand.tmp 2), type := 34, pos := "law.go:19", after := #[], guard := none }, { dst := some 20, op := Op.call { callee := Callee.value (Operand.func 29), args := #[Operand.const (Value.int IntKind.i64 5)], argTypes := #[3] }, type := 34, pos := "law.go:19", after := #[], guard := none }, { dst := some 21, op := Op.call { callee := Callee.value (Operand.func 29), args := #[Operand.const (Value.int IntKind.i64 6)], argTypes := #[3] }, type := 34, pos := "law.go:19", after := #[{ on := 2, ground := Ground.chain }], guard := none }, { dst := some 22, op := Op.buildSlice 35 1 #[(0, Operand.tmp 21)], type := 35, pos := "law.go:19", after := #[{ on := 3, ground := Ground.data }], guard := none }, { dst := some 23, op := Op.buildSlice 36 1 #[(0, Operand.const (Value.string { data := #[98] }))], type := 36, pos := "law.go:19", after := #[], guard := none }, { dst := some 24, op := Op.call { callee := Callee.value (Operand.func 22), args := #[Operand.tmp 18, Operand.tmp 19, Operand.tmp 20, Operand.tmp 22, Operand.tmp 23], argTypes := #[25, 34, 34, 35, 36] }, type := 40, pos := "law.go:19", after := #[{ on := 0, ground := Ground.data }, { on := 1, ground := Ground.data }, { on := 2, ground := Ground.data }, { on := 4, ground := Ground.data }, { on := 5, ground := Ground.data }, { on := 3, ground := Ground.chain }], guard := none }, { dst := some 5, op := Op.assign (Operand.tmp 24), type := 40, pos := "law.go:19", after := #[{ on := 6, ground := Ground.data }, { on := 6, ground := Ground.chain }, { on := 0, ground := Ground.phase }, { on := 1, ground := Ground.phase }, { on := 2, ground := Ground.phase }, { on := 3, ground := Ground.phase }, { on := 4, ground := Ground.phase }, { on := 5, ground := Ground.phase }, { on := 6, ground := Ground.phase }], guard := none }] true).wp Try.prog Q { tmps := #[x0, .pointer (some ⟨p, 0, none⟩), .pointer (some ⟨d2, 0, none⟩), x3, x4, x5, x6, x7, x8, x9, x10, x11, x12, x13, x14, x15, x16, x17, x18, x19, x20, x21, x22, x23, x24, x25, x26, x27, x28, x29, x30, x31, x32, x33, x34, x35, x36, x37, x38, x39, x40, x41, x42, x43, x44, x45, x46, x47, x48, x49, x50, x51, x52, x53, x54, x55, x56, x57, x58, x59, x60, x61, x62, x63, x64, x65, x66, x67, x68, x69, x70], defers := ds } A := by
  refine Code.wp_mono (Q := fun x a' w' => match x with | .normal => Q .normal a' w' | _ => False) (by intro x a' w' h; cases x <;> first | exact h | exact h.elim) ?_
  refine wp_region_held (S := fun V => Keep (fun k => k ∈ G.bl p) A V) (by kernel_rfl) ?_
  have hS0 : Hid (Keep (fun k => k ∈ G.bl p) A A.drew) := (Keep.refl _ A).drew
  change wpAnyH Try.prog .any _ _ (fun V => Keep (fun k => k ∈ G.bl p) A V) 8 (Array.replicate 8 false) _ A.drew
  obtain ⟨V0, hV0⟩ : ∃ V0, A.drew = V0 := ⟨_, rfl⟩
  rw [hV0]
  rw [hV0] at hS0
  have hX0 : Hid (GAt V0 p G) := by
    show GAt V0 p G
    rw [← hV0]
    exact HG.out.below (below_drew0 A)
  clear hV0
  refine wpAnyH_take (i := 0) (oi := { dst := some 18, op := Op.move (Operand.tmp 1), type := 25, pos := "law.go:19", after := #[], guard := none }) (v := .pointer (some ⟨p, 0, none⟩)) rfl (by kernel_rfl) (by kernel_rfl) (by kernel_rfl) (fun _ _ _ h => h.elim) (Or.inl ⟨by rfl, ?y1⟩) hS0.out ?_
  case y1 =>
    intro V hV
    go_simp
  simp only [Act.put, List.setIfInBounds_toArray, List.set_cons_zero, List.set_cons_succ]
  refine wpAnyH_take (i := 1) (oi := { dst := some 19, op := Op.load 34 (Operand.tmp 2), type := 34, pos := "law.go:19", after := #[], guard := none }) (v := .agg CT.toArray) rfl (by kernel_rfl) (by kernel_rfl) (by kernel_rfl) (fun _ _ _ h => h.elim) (yieldsIf_load_mid (by rfl) _ _ rfl _ _ rfl (CT) _ (fun V hV => rangeAt_same (HR2.out) ((show Keep (fun k => k ∈ G.bl p) A V from hV).block _ (HL2.out.1) (HL2.out.2))) Try.underlying34 rfl (HI2.out)) hS0.out ?_
  simp only [Act.put, List.setIfInBounds_toArray, List.set_cons_zero, List.set_cons_succ]
  refine wpAnyH_ready (rs := [2, 5]) (by kernel_rfl) (by simp) (AllReadyH.cons (i := 2) (o := { dst := some 20, op := Op.call { callee := Callee.value (Operand.func 29), args := #[Operand.const (Value.int IntKind.i64 5)], argTypes := #[3] }, type := 34, pos := "law.go:19", after := #[], guard := none }) rfl ?_ (AllReadyH.cons (i := 5) (o := { dst := some 23, op := Op.buildSlice 36 1 #[(0, Operand.const (Value.string { data := #[98] }))], type := 36, pos := "law.go:19", after := #[], guard := none }) rfl ?_ AllReadyH.nil))
  · intro K1 hK1
    rw [if_pos (by rfl)]
    have HC1 := HIDU.out V0
    go_wp2_with fail
    refine HC1.mono ?_
    rintro e V1 ⟨rfl, hb1⟩
    dsimp only
    clear HC1
    have hS1 : Hid (Keep (fun k => k ∈ G.bl p) A V1) := (hS0.out).trans (Keep.below (S := fun _ => False) hb1) (fun _ h _ => h.elim)
    have hX1 : Hid (GAt V1 p G ∧ True) := ⟨(hX0.out).below hb1, trivial⟩
    clear hb1
    refine hK1.out _ _ hS1.out ?_
    clear hK1
    intro _
    try simp only [Act.put, List.setIfInBounds_toArray, List.set_cons_zero, List.set_cons_succ]
    refine wpAnyH_ready (rs := [3, 5]) (by kernel_rfl) (by simp) (AllReadyH.cons (i := 3) (o := { dst := some 21, op := Op.call { callee := Callee.value (Operand.func 29), args := #[Operand.const (Value.int IntKind.i64 6)], argTypes := #[3] }, type := 34, pos := "law.go:19", after := #[{ on := 2, ground := Ground.chain }], guard := none }) rfl ?_ (AllReadyH.cons (i := 5) (o := { dst := some 23, op := Op.buildSlice 36 1 #[(0, Operand.const (Value.string { data := #[98] }))], type := 36, pos := "law.go:19", after := #[], guard := none }) rfl ?_ AllReadyH.nil))
    · intro K1 hK1
      rw [if_pos (by rfl)]
      have HC2 := HIDX.out V1
      go_wp2_with fail
      refine HC2.mono ?_
      rintro e V2 ⟨rfl, hb2⟩
      dsimp only
      clear HC2
      have hS2 : Hid (Keep (fun k => k ∈ G.bl p) A V2) := (hS1.out).trans (Keep.below (S := fun _ => False) hb2) (fun _ h _ => h.elim)
      have hX2 : Hid (GAt V2 p G ∧ True) := ⟨(hX1.out.1).below hb2, trivial⟩
      clear hb2
      refine hK1.out _ _ hS2.out ?_
      clear hK1
      intro _
      try simp only [Act.put, List.setIfInBounds_toArray, List.set_cons_zero, List.set_cons_succ]
      refine wpAnyH_ready (rs := [4, 5]) (by kernel_rfl) (by simp) (AllReadyH.cons (i := 4) (o := { dst := some 22, op := Op.buildSlice 35 1 #[(0, Operand.tmp 21)], type := 35, pos := "law.go:19", after := #[{ on := 3, ground := Ground.data }], guard := none }) rfl ?_ (AllReadyH.cons (i := 5) (o := { dst := some 23, op := Op.buildSlice 36 1 #[(0, Operand.const (Value.string { data := #[98] }))], type := 36, pos := "law.go:19", after := #[], guard := none }) rfl ?_ AllReadyH.nil))
      · intro K1 hK1
        refine step_bs1 (by rfl) _ rfl x HV.out.1 (by rw [HXC.out]; rfl) ?_
        obtain ⟨V3, hv3⟩ : ∃ V, V2.alloc (.cells x.cells.toArray 34) = V := ⟨_, rfl⟩
        obtain ⟨r1, hr3⟩ : ∃ m, V2.heap.size = m := ⟨_, rfl⟩
        have hb3 : Below V2.heap.size V2 V3 := by rw [← hv3]; exact below_al _ _
        have hS3 : Hid (Keep (fun k => k ∈ G.bl p) A V3) := (hS2.out).trans (Keep.below (S := fun _ => False) hb3) (fun _ h _ => h.elim)
        have hX3 : Hid (GAt V3 p G ∧ True) := ⟨(hX2.out.1).below hb3, trivial⟩
        have hR3 : Hid (VsR V3 (some ⟨r1, 0, none⟩) 1 [x]) := by
          show VsR _ _ _ _
          rw [← hv3, ← hr3]
          exact VsR.one _ _ HV.out
        rw [hv3, hr3]
        clear hv3 hr3 hb3
        refine hK1.out _ _ hS3.out ?_
        clear hK1
        intro _
        try simp only [Act.put, List.setIfInBounds_toArray, List.set_cons_zero, List.set_cons_succ]
        refine wpAnyH_ready (rs := [5]) (by kernel_rfl) (by simp) (AllReadyH.cons (i := 5) (o := { dst := some 23, op := Op.buildSlice 36 1 #[(0, Operand.const (Value.string { data := #[98] }))], type := 36, pos := "law.go:19", after := #[], guard := none }) rfl ?_ AllReadyH.nil)
        · intro K1 hK1
          refine step_bs9 (by rfl) _ rfl s HS.out ?_
          obtain ⟨V4, hv4⟩ : ∃ V, V3.alloc (.cells [Value.string s].toArray 9) = V := ⟨_, rfl⟩
          obtain ⟨r2, hr4⟩ : ∃ m, V3.heap.size = m := ⟨_, rfl⟩
          have hb4 : Below V3.heap.size V3 V4 := by rw [← hv4]; exact below_al _ _
          have hS4 : Hid (Keep (fun k => k ∈ G.bl p) A V4) := (hS3.out).trans (Keep.below (S := fun _ => False) hb4) (fun _ h _ => h.elim)
          have hX4 : Hid (GAt V4 p G ∧ VsR V4 (some ⟨r1, 0, none⟩) 1 [x] ∧ True) := ⟨(hX3.out.1).below hb4, (hR3.out).below hb4, trivial⟩
          have hR4 : Hid (TsR V4 (some ⟨r2, 0, none⟩) 1 [s]) := by
            show TsR _ _ _ _
            rw [← hv4, ← hr4]
            exact TsR.one _ _
          rw [hv4, hr4]
          clear hv4 hr4 hb4
          refine hK1.out _ _ hS4.out ?_
          clear hK1
          intro _
          try simp only [Act.put, List.setIfInBounds_toArray, List.set_cons_zero, List.set_cons_succ]
          refine wpAnyH_ready (rs := [6]) (by kernel_rfl) (by simp) (AllReadyH.cons (i := 6) (o := { dst := some 24, op := Op.call { callee := Callee.value (Operand.func 22), args := #[Operand.tmp 18, Operand.tmp 19, Operand.tmp 20, Operand.tmp 22, Operand.tmp 23], argTypes := #[25, 34, 34, 35, 36] }, type := 40, pos := "law.go:19", after := #[{ on := 0, ground := Ground.data }, { on := 1, ground := Ground.data }, { on := 2, ground := Ground.data }, { on := 4, ground := Ground.data }, { on := 5, ground := Ground.data }, { on := 3, ground := Ground.chain }], guard := none }) rfl ?_ AllReadyH.nil)
          · intro K1 hK1
            rw [if_pos (by rfl)]
            have HC5 := HADD.out V4 r1 r2 (hX4.out.1) (hX4.out.2.1) (hR4.out)
            go_wp2_with fail
            refine HC5.mono ?_
            rintro e V5 ⟨rfl, G', hga5, hps5⟩
            dsimp only
            clear HC5
            have hS5 : Hid (Keep (fun k => k ∈ G.bl p) A V5) := (hS4.out).trans hga5.2.2 (fun _ h _ => h)
            have hX5 : Hid (GAt V5 p G' ∧ G'.ps = PS ∧ ∀ k ∈ G'.bl p, k ∈ G.bl p ∨ A.heap.size ≤ k) := ⟨hga5.1, hps5, fun k hk => (hga5.2.1 k hk).imp id (fun h => Nat.le_trans (hS4.out).size h)⟩
            clear hga5 hps5
            refine hK1.out _ _ hS5.out ?_
            clear hK1
            intro _
            try simp only [Act.put, List.setIfInBounds_toArray, List.set_cons_zero, List.set_cons_succ]
            refine wpAnyH_take (i := 7) (oi := { dst := some 5, op := Op.assign (Operand.tmp 24), type := 40, pos := "law.go:19", after := #[{ on := 6, ground := Ground.data }, { on := 6, ground := Ground.chain }, { on := 0, ground := Ground.phase }, { on := 1, ground := Ground.phase }, { on := 2, ground := Ground.phase }, { on := 3, ground := Ground.phase }, { on := 4, ground := Ground.phase }, { on := 5, ground := Ground.phase }, { on := 6, ground := Ground.phase }], guard := none }) (v := iv 0) rfl (by kernel_rfl) (by kernel_rfl) (by kernel_rfl) (fun _ _ _ h => h.elim) (Or.inl ⟨by rfl, ?y2⟩) hS5.out ?_
            case y2 =>
              intro V hV
              go_simp
            simp only [Act.put, List.setIfInBounds_toArray, List.set_cons_zero, List.set_cons_succ]
            refine wpAnyH_done (by kernel_rfl) ?_ _
            exact hQ V5 r1 r2 G' hS5.out hX5.out
      · intro K1 hK1
        refine step_bs9 (by rfl) _ rfl s HS.out ?_
        obtain ⟨V3, hv3⟩ : ∃ V, V2.alloc (.cells [Value.string s].toArray 9) = V := ⟨_, rfl⟩
        obtain ⟨r2, hr3⟩ : ∃ m, V2.heap.size = m := ⟨_, rfl⟩
        have hb3 : Below V2.heap.size V2 V3 := by rw [← hv3]; exact below_al _ _
        have hS3 : Hid (Keep (fun k => k ∈ G.bl p) A V3) := (hS2.out).trans (Keep.below (S := fun _ => False) hb3) (fun _ h _ => h.elim)
        have hX3 : Hid (GAt V3 p G ∧ True) := ⟨(hX2.out.1).below hb3, trivial⟩
        have hR3 : Hid (TsR V3 (some ⟨r2, 0, none⟩) 1 [s]) := by
          show TsR _ _ _ _
          rw [← hv3, ← hr3]
          exact TsR.one _ _
        rw [hv3, hr3]
        clear hv3 hr3 hb3
        refine hK1.out _ _ hS3.out ?_
        clear hK1
        intro _
        try simp only [Act.put, List.setIfInBounds_toArray, List.set_cons_zero, List.set_cons_succ]
        refine wpAnyH_ready (rs := [4]) (by kernel_rfl) (by simp) (AllReadyH.cons (i := 4) (o := { dst := some 22, op := Op.buildSlice 35 1 #[(0, Operand.tmp 21)], type := 35, pos := "law.go:19", after := #[{ on := 3, ground := Ground.data }], guard := none }) rfl ?_ AllReadyH.nil)
        · intro K1 hK1
          refine step_bs1 (by rfl) _ rfl x HV.out.1 (by rw [HXC.out]; rfl) ?_
          obtain ⟨V4, hv4⟩ : ∃ V, V3.alloc (.cells x.cells.toArray 34) = V := ⟨_, rfl⟩
          obtain ⟨r1, hr4⟩ : ∃ m, V3.heap.size = m := ⟨_, rfl⟩
          have hb4 : Below V3.heap.size V3 V4 := by rw [← hv4]; exact below_al _ _
          have hS4 : Hid (Keep (fun k => k ∈ G.bl p) A V4) := (hS3.out).trans (Keep.below (S := fun _ => False) hb4) (fun _ h _ => h.elim)
          have hX4 : Hid (GAt V4 p G ∧ TsR V4 (some ⟨r2, 0, none⟩) 1 [s] ∧ True) := ⟨(hX3.out.1).below hb4, (hR3.out).below hb4, trivial⟩
          have hR4 : Hid (VsR V4 (some ⟨r1, 0, none⟩) 1 [x]) := by
            show VsR _ _ _ _
            rw [← hv4, ← hr4]
            exact VsR.one _ _ HV.out
          rw [hv4, hr4]
          clear hv4 hr4 hb4
          refine hK1.out _ _ hS4.out ?_
          clear hK1
          intro _
          try simp only [Act.put, List.setIfInBounds_toArray, List.set_cons_zero, List.set_cons_succ]
          refine wpAnyH_ready (rs := [6]) (by kernel_rfl) (by simp) (AllReadyH.cons (i := 6) (o := { dst := some 24, op := Op.call { callee := Callee.value (Operand.func 22), args := #[Operand.tmp 18, Operand.tmp 19, Operand.tmp 20, Operand.tmp 22, Operand.tmp 23], argTypes := #[25, 34, 34, 35, 36] }, type := 40, pos := "law.go:19", after := #[{ on := 0, ground := Ground.data }, { on := 1, ground := Ground.data }, { on := 2, ground := Ground.data }, { on := 4, ground := Ground.data }, { on := 5, ground := Ground.data }, { on := 3, ground := Ground.chain }], guard := none }) rfl ?_ AllReadyH.nil)
          · intro K1 hK1
            rw [if_pos (by rfl)]
            have HC5 := HADD.out V4 r1 r2 (hX4.out.1) (hR4.out) (hX4.out.2.1)
            go_wp2_with fail
            refine HC5.mono ?_
            rintro e V5 ⟨rfl, G', hga5, hps5⟩
            dsimp only
            clear HC5
            have hS5 : Hid (Keep (fun k => k ∈ G.bl p) A V5) := (hS4.out).trans hga5.2.2 (fun _ h _ => h)
            have hX5 : Hid (GAt V5 p G' ∧ G'.ps = PS ∧ ∀ k ∈ G'.bl p, k ∈ G.bl p ∨ A.heap.size ≤ k) := ⟨hga5.1, hps5, fun k hk => (hga5.2.1 k hk).imp id (fun h => Nat.le_trans (hS4.out).size h)⟩
            clear hga5 hps5
            refine hK1.out _ _ hS5.out ?_
            clear hK1
            intro _
            try simp only [Act.put, List.setIfInBounds_toArray, List.set_cons_zero, List.set_cons_succ]
            refine wpAnyH_take (i := 7) (oi := { dst := some 5, op := Op.assign (Operand.tmp 24), type := 40, pos := "law.go:19", after := #[{ on := 6, ground := Ground.data }, { on := 6, ground := Ground.chain }, { on := 0, ground := Ground.phase }, { on := 1, ground := Ground.phase }, { on := 2, ground := Ground.phase }, { on := 3, ground := Ground.phase }, { on := 4, ground := Ground.phase }, { on := 5, ground := Ground.phase }, { on := 6, ground := Ground.phase }], guard := none }) (v := iv 0) rfl (by kernel_rfl) (by kernel_rfl) (by kernel_rfl) (fun _ _ _ h => h.elim) (Or.inl ⟨by rfl, ?y3⟩) hS5.out ?_
            case y3 =>
              intro V hV
              go_simp
            simp only [Act.put, List.setIfInBounds_toArray, List.set_cons_zero, List.set_cons_succ]
            refine wpAnyH_done (by kernel_rfl) ?_ _
            exact hQ V5 r1 r2 G' hS5.out hX5.out
    · intro K1 hK1
      refine step_bs9 (by rfl) _ rfl s HS.out ?_
      obtain ⟨V2, hv2⟩ : ∃ V, V1.alloc (.cells [Value.string s].toArray 9) = V := ⟨_, rfl⟩
      obtain ⟨r2, hr2⟩ : ∃ m, V1.heap.size = m := ⟨_, rfl⟩
      have hb2 : Below V1.heap.size V1 V2 := by rw [← hv2]; exact below_al _ _
      have hS2 : Hid (Keep (fun k => k ∈ G.bl p) A V2) := (hS1.out).trans (Keep.below (S := fun _ => False) hb2) (fun _ h _ => h.elim)
      have hX2 : Hid (GAt V2 p G ∧ True) := ⟨(hX1.out.1).below hb2, trivial⟩
      have hR2 : Hid (TsR V2 (some ⟨r2, 0, none⟩) 1 [s]) := by
        show TsR _ _ _ _
        rw [← hv2, ← hr2]
        exact TsR.one _ _
      rw [hv2, hr2]
      clear hv2 hr2 hb2
      refine hK1.out _ _ hS2.out ?_
      clear hK1
      intro _
      try simp only [Act.put, List.setIfInBounds_toArray, List.set_cons_zero, List.set_cons_succ]
      refine wpAnyH_ready (rs := [3]) (by kernel_rfl) (by simp) (AllReadyH.cons (i := 3) (o := { dst := some 21, op := Op.call { callee := Callee.value (Operand.func 29), args := #[Operand.const (Value.int IntKind.i64 6)], argTypes := #[3] }, type := 34, pos := "law.go:19", after := #[{ on := 2, ground := Ground.chain }], guard := none }) rfl ?_ AllReadyH.nil)
      · intro K1 hK1
        rw [if_pos (by rfl)]
        have HC3 := HIDX.out V2
        go_wp2_with fail
        refine HC3.mono ?_
        rintro e V3 ⟨rfl, hb3⟩
        dsimp only
        clear HC3
        have hS3 : Hid (Keep (fun k => k ∈ G.bl p) A V3) := (hS2.out).trans (Keep.below (S := fun _ => False) hb3) (fun _ h _ => h.elim)
        have hX3 : Hid (GAt V3 p G ∧ TsR V3 (some ⟨r2, 0, none⟩) 1 [s] ∧ True) := ⟨(hX2.out.1).below hb3, (hR2.out).below hb3, trivial⟩
        clear hb3
        refine hK1.out _ _ hS3.out ?_
        clear hK1
        intro _
        try simp only [Act.put, List.setIfInBounds_toArray, List.set_cons_zero, List.set_cons_succ]
        refine wpAnyH_ready (rs := [4]) (by kernel_rfl) (by simp) (AllReadyH.cons (i := 4) (o := { dst := some 22, op := Op.buildSlice 35 1 #[(0, Operand.tmp 21)], type := 35, pos := "law.go:19", after := #[{ on := 3, ground := Ground.data }], guard := none }) rfl ?_ AllReadyH.nil)
        · intro K1 hK1
          refine step_bs1 (by rfl) _ rfl x HV.out.1 (by rw [HXC.out]; rfl) ?_
          obtain ⟨V4, hv4⟩ : ∃ V, V3.alloc (.cells x.cells.toArray 34) = V := ⟨_, rfl⟩
          obtain ⟨r1, hr4⟩ : ∃ m, V3.heap.size = m := ⟨_, rfl⟩
          have hb4 : Below V3.heap.size V3 V4 := by rw [← hv4]; exact below_al _ _
          have hS4 : Hid (Keep (fun k => k ∈ G.bl p) A V4) := (hS3.out).trans (Keep.below (S := fun _ => False) hb4) (fun _ h _ => h.elim)
          have hX4 : Hid (GAt V4 p G ∧ TsR V4 (some ⟨r2, 0, none⟩) 1 [s] ∧ True) := ⟨(hX3.out.1).below hb4, (hX3.out.2.1).below hb4, trivial⟩
          have hR4 : Hid (VsR V4 (some ⟨r1, 0, none⟩) 1 [x]) := by
            show VsR _ _ _ _
            rw [← hv4, ← hr4]
            exact VsR.one _ _ HV.out
          rw [hv4, hr4]
          clear hv4 hr4 hb4
          refine hK1.out _ _ hS4.out ?_
          clear hK1
          intro _
          try simp only [Act.put, List.setIfInBounds_toArray, List.set_cons_zero, List.set_cons_succ]
          refine wpAnyH_ready (rs := [6]) (by kernel_rfl) (by simp) (AllReadyH.cons (i := 6) (o := { dst := some 24, op := Op.call { callee := Callee.value (Operand.func 22), args := #[Operand.tmp 18, Operand.tmp 19, Operand.tmp 20, Operand.tmp 22, Operand.tmp 23], argTypes := #[25, 34, 34, 35, 36] }, type := 40, pos := "law.go:19", after := #[{ on := 0, ground := Ground.data }, { on := 1, ground := Ground.data }, { on := 2, ground := Ground.data }, { on := 4, ground := Ground.data }, { on := 5, ground := Ground.data }, { on := 3, ground := Ground.chain }], guard := none }) rfl ?_ AllReadyH.nil)
          · intro K1 hK1
            rw [if_pos (by rfl)]
            have HC5 := HADD.out V4 r1 r2 (hX4.out.1) (hR4.out) (hX4.out.2.1)
            go_wp2_with fail
            refine HC5.mono ?_
            rintro e V5 ⟨rfl, G', hga5, hps5⟩
            dsimp only
            clear HC5
            have hS5 : Hid (Keep (fun k => k ∈ G.bl p) A V5) := (hS4.out).trans hga5.2.2 (fun _ h _ => h)
            have hX5 : Hid (GAt V5 p G' ∧ G'.ps = PS ∧ ∀ k ∈ G'.bl p, k ∈ G.bl p ∨ A.heap.size ≤ k) := ⟨hga5.1, hps5, fun k hk => (hga5.2.1 k hk).imp id (fun h => Nat.le_trans (hS4.out).size h)⟩
            clear hga5 hps5
            refine hK1.out _ _ hS5.out ?_
            clear hK1
            intro _
            try simp only [Act.put, List.setIfInBounds_toArray, List.set_cons_zero, List.set_cons_succ]
            refine wpAnyH_take (i := 7) (oi := { dst := some 5, op := Op.assign (Operand.tmp 24), type := 40, pos := "law.go:19", after := #[{ on := 6, ground := Ground.data }, { on := 6, ground := Ground.chain }, { on := 0, ground := Ground.phase }, { on := 1, ground := Ground.phase }, { on := 2, ground := Ground.phase }, { on := 3, ground := Ground.phase }, { on := 4, ground := Ground.phase }, { on := 5, ground := Ground.phase }, { on := 6, ground := Ground.phase }], guard := none }) (v := iv 0) rfl (by kernel_rfl) (by kernel_rfl) (by kernel_rfl) (fun _ _ _ h => h.elim) (Or.inl ⟨by rfl, ?y4⟩) hS5.out ?_
            case y4 =>
              intro V hV
              go_simp
            simp only [Act.put, List.setIfInBounds_toArray, List.set_cons_zero, List.set_cons_succ]
            refine wpAnyH_done (by kernel_rfl) ?_ _
            exact hQ V5 r1 r2 G' hS5.out hX5.out
  · intro K1 hK1
    refine step_bs9 (by rfl) _ rfl s HS.out ?_
    obtain ⟨V1, hv1⟩ : ∃ V, V0.alloc (.cells [Value.string s].toArray 9) = V := ⟨_, rfl⟩
    obtain ⟨r2, hr1⟩ : ∃ m, V0.heap.size = m := ⟨_, rfl⟩
    have hb1 : Below V0.heap.size V0 V1 := by rw [← hv1]; exact below_al _ _
    have hS1 : Hid (Keep (fun k => k ∈ G.bl p) A V1) := (hS0.out).trans (Keep.below (S := fun _ => False) hb1) (fun _ h _ => h.elim)
    have hX1 : Hid (GAt V1 p G ∧ True) := ⟨(hX0.out).below hb1, trivial⟩
    have hR1 : Hid (TsR V1 (some ⟨r2, 0, none⟩) 1 [s]) := by
      show TsR _ _ _ _
      rw [← hv1, ← hr1]
      exact TsR.one _ _
    rw [hv1, hr1]
    clear hv1 hr1 hb1
    refine hK1.out _ _ hS1.out ?_
    clear hK1
    intro _
    try simp only [Act.put, List.setIfInBounds_toArray, List.set_cons_zero, List.set_cons_succ]
    refine wpAnyH_ready (rs := [2]) (by kernel_rfl) (by simp) (AllReadyH.cons (i := 2) (o := { dst := some 20, op := Op.call { callee := Callee.value (Operand.func 29), args := #[Operand.const (Value.int IntKind.i64 5)], argTypes := #[3] }, type := 34, pos := "law.go:19", after := #[], guard := none }) rfl ?_ AllReadyH.nil)
    · intro K1 hK1
      rw [if_pos (by rfl)]
      have HC2 := HIDU.out V1
      go_wp2_with fail
      refine HC2.mono ?_
      rintro e V2 ⟨rfl, hb2⟩
      dsimp only
      clear HC2
      have hS2 : Hid (Keep (fun k => k ∈ G.bl p) A V2) := (hS1.out).trans (Keep.below (S := fun _ => False) hb2) (fun _ h _ => h.elim)
      have hX2 : Hid (GAt V2 p G ∧ TsR V2 (some ⟨r2, 0, none⟩) 1 [s] ∧ True) := ⟨(hX1.out.1).below hb2, (hR1.out).below hb2, trivial⟩
      clear hb2
      refine hK1.out _ _ hS2.out ?_
      clear hK1
      intro _
      try simp only [Act.put, List.setIfInBounds_toArray, List.set_cons_zero, List.set_cons_succ]
      refine wpAnyH_ready (rs := [3]) (by kernel_rfl) (by simp) (AllReadyH.cons (i := 3) (o := { dst := some 21, op := Op.call { callee := Callee.value (Operand.func 29), args := #[Operand.const (Value.int IntKind.i64 6)], argTypes := #[3] }, type := 34, pos := "law.go:19", after := #[{ on := 2, ground := Ground.chain }], guard := none }) rfl ?_ AllReadyH.nil)
      · intro K1 hK1
        rw [if_pos (by rfl)]
        have HC3 := HIDX.out V2
        go_wp2_with fail
        refine HC3.mono ?_
        rintro e V3 ⟨rfl, hb3⟩
        dsimp only
        clear HC3
        have hS3 : Hid (Keep (fun k => k ∈ G.bl p) A V3) := (hS2.out).trans (Keep.below (S := fun _ => False) hb3) (fun _ h _ => h.elim)
        have hX3 : Hid (GAt V3 p G ∧ TsR V3 (some ⟨r2, 0, none⟩) 1 [s] ∧ True) := ⟨(hX2.out.1).below hb3, (hX2.out.2.1).below hb3, trivial⟩
        clear hb3
        refine hK1.out _ _ hS3.out ?_
        clear hK1
        intro _
        try simp only [Act.put, List.setIfInBounds_toArray, List.set_cons_zero, List.set_cons_succ]
        refine wpAnyH_ready (rs := [4]) (by kernel_rfl) (by simp) (AllReadyH.cons (i := 4) (o := { dst := some 22, op := Op.buildSlice 35 1 #[(0, Operand.tmp 21)], type := 35, pos := "law.go:19", after := #[{ on := 3, ground := Ground.data }], guard := none }) rfl ?_ AllReadyH.nil)
        · intro K1 hK1
          refine step_bs1 (by rfl) _ rfl x HV.out.1 (by rw [HXC.out]; rfl) ?_
          obtain ⟨V4, hv4⟩ : ∃ V, V3.alloc (.cells x.cells.toArray 34) = V := ⟨_, rfl⟩
          obtain ⟨r1, hr4⟩ : ∃ m, V3.heap.size = m := ⟨_, rfl⟩
          have hb4 : Below V3.heap.size V3 V4 := by rw [← hv4]; exact below_al _ _
          have hS4 : Hid (Keep (fun k => k ∈ G.bl p) A V4) := (hS3.out).trans (Keep.below (S := fun _ => False) hb4) (fun _ h _ => h.elim)
          have hX4 : Hid (GAt V4 p G ∧ TsR V4 (some ⟨r2, 0, none⟩) 1 [s] ∧ True) := ⟨(hX3.out.1).below hb4, (hX3.out.2.1).below hb4, trivial⟩
          have hR4 : Hid (VsR V4 (some ⟨r1, 0, none⟩) 1 [x]) := by
            show VsR _ _ _ _
            rw [← hv4, ← hr4]
            exact VsR.one _ _ HV.out
          rw [hv4, hr4]
          clear hv4 hr4 hb4
          refine hK1.out _ _ hS4.out ?_
          clear hK1
          intro _
          try simp only [Act.put, List.setIfInBounds_toArray, List.set_cons_zero, List.set_cons_succ]
          refine wpAnyH_ready (rs := [6]) (by kernel_rfl) (by simp) (AllReadyH.cons (i := 6) (o := { dst := some 24, op := Op.call { callee := Callee.value (Operand.func 22), args := #[Operand.tmp 18, Operand.tmp 19, Operand.tmp 20, Operand.tmp 22, Operand.tmp 23], argTypes := #[25, 34, 34, 35, 36] }, type := 40, pos := "law.go:19", after := #[{ on := 0, ground := Ground.data }, { on := 1, ground := Ground.data }, { on := 2, ground := Ground.data }, { on := 4, ground := Ground.data }, { on := 5, ground := Ground.data }, { on := 3, ground := Ground.chain }], guard := none }) rfl ?_ AllReadyH.nil)
          · intro K1 hK1
            rw [if_pos (by rfl)]
            have HC5 := HADD.out V4 r1 r2 (hX4.out.1) (hR4.out) (hX4.out.2.1)
            go_wp2_with fail
            refine HC5.mono ?_
            rintro e V5 ⟨rfl, G', hga5, hps5⟩
            dsimp only
            clear HC5
            have hS5 : Hid (Keep (fun k => k ∈ G.bl p) A V5) := (hS4.out).trans hga5.2.2 (fun _ h _ => h)
            have hX5 : Hid (GAt V5 p G' ∧ G'.ps = PS ∧ ∀ k ∈ G'.bl p, k ∈ G.bl p ∨ A.heap.size ≤ k) := ⟨hga5.1, hps5, fun k hk => (hga5.2.1 k hk).imp id (fun h => Nat.le_trans (hS4.out).size h)⟩
            clear hga5 hps5
            refine hK1.out _ _ hS5.out ?_
            clear hK1
            intro _
            try simp only [Act.put, List.setIfInBounds_toArray, List.set_cons_zero, List.set_cons_succ]
            refine wpAnyH_take (i := 7) (oi := { dst := some 5, op := Op.assign (Operand.tmp 24), type := 40, pos := "law.go:19", after := #[{ on := 6, ground := Ground.data }, { on := 6, ground := Ground.chain }, { on := 0, ground := Ground.phase }, { on := 1, ground := Ground.phase }, { on := 2, ground := Ground.phase }, { on := 3, ground := Ground.phase }, { on := 4, ground := Ground.phase }, { on := 5, ground := Ground.phase }, { on := 6, ground := Ground.phase }], guard := none }) (v := iv 0) rfl (by kernel_rfl) (by kernel_rfl) (by kernel_rfl) (fun _ _ _ h => h.elim) (Or.inl ⟨by rfl, ?y5⟩) hS5.out ?_
            case y5 =>
              intro V hV
              go_simp
            simp only [Act.put, List.setIfInBounds_toArray, List.set_cons_zero, List.set_cons_succ]
            refine wpAnyH_done (by kernel_rfl) ?_ _
            exact hQ V5 r1 r2 G' hS5.out hX5.out
set_option maxRecDepth 100000 in
set_option maxHeartbeats 4000000 in
theorem lv5 {Q : Exit → Act → World → Prop} {x0 x2 x4 x5 x6 x7 x8 x9 x10 x11 x12 x13 x14 x15 x16 x17 x18 x19 x20 x21 x22 x23 x24 x25 x26 x27 x28 x29 x30 x31 x32 x33 x34 x35 x36 x37 x38 x39 x40 x41 x42 x43 x44 x45 x46 x47 x48 x49 x50 x51 x52 x53 x54 x55 x56 x57 x58 x59 x60 x61 x62 x63 x64 x65 x66 x67 x68 x69 x70 : Value} {ds : List Deferred} {A : World} {p d3 : Nat} {G : Gm} {x : Vx} {XC : List Value} {CB : List Value} {CU : List Value} {s : BA} {PS : List PL} 
    (HG : Hid (GAt A p G)) (HV : Hid (Vk x)) (HXC : Hid (x.cells = XC))  (HL3 : Hid (d3 < A.heap.size ∧ ¬ d3 ∈ G.bl p)) (HR3 : Hid (A.rangeAt d3 0 CB)) (HI3 : Hid ((Try.prog.info? 34).map (·.size) = some CB.length)) (HIDU : Hid (∀ W, Calls Try.prog 29 #[iv 5] W fun e w' => e = .returned (.agg CU.toArray) ∧ Below W.heap.size W w')) (HIDX : Hid (∀ W, Calls Try.prog 29 #[iv 7] W fun e w' => e = .returned (.agg XC.toArray) ∧ Below W.heap.size W w')) (HS : Hid (Value.string { data := #[99] } = .string s)) (HADD : Hid (∀ V r1 r2, GAt V p G → VsR V (some ⟨r1, 0, none⟩) 1 [x] → TsR V (some ⟨r2, 0, none⟩) 1 [s] → Calls Try.prog 22 #[.pointer (some ⟨p, 0, none⟩), .agg CU.toArray, .agg CB.toArray, .slice (some ⟨r1, 0, none⟩) 1 1, .slice (some ⟨r2, 0, none⟩) 1 1] V fun e w' => e = .returned (iv 0) ∧ ∃ G', GAfter V p G G' w' ∧ G'.ps = PS))
    (hQ : ∀ V3 r1 r2 G', Keep (fun k => k ∈ G.bl p) A V3 → (GAt V3 p G' ∧ G'.ps = PS ∧ ∀ k ∈ G'.bl p, k ∈ G.bl p ∨ A.heap.size ≤ k) → Q .normal { tmps := #[x0, .pointer (some ⟨p, 0, none⟩), x2, .pointer (some ⟨d3, 0, none⟩), x4, x5, iv 0, x7, x8, x9, x10, x11, x12, x13, x14, x15, x16, x17, x18, x19, x20, x21, x22, x23, x24, .pointer (some ⟨p, 0, none⟩), .agg CU.toArray, .agg CB.toArray, .agg XC.toArray, .slice (some ⟨r1, 0, none⟩) 1 1, .slice (some ⟨r2, 0, none⟩) 1 1, iv 0, x32, x33, x34, x35, x36, x37, x38, x39, x40, x41, x42, x43, x44, x45, x46, x47, x48, x49, x50, x51, x52, x53, x54, x55, x56, x57, x58, x59, x60, x61, x62, x63, x64, x65, x66, x67, x68, x69, x70], defers := ds } V3) :
    (Code.region 5 #[{ dst := some 25, op := Op.move (Operand.tmp 1), type := 25, pos := "law.go:20", after := #[], guard := none }, { dst := some 26, op := Op.call { callee := Callee.value (Operand.func 29), args := #[Operand.const (Value.int IntKind.i64 5)], argTypes := #[3] }, type := 34, pos := "law.go:20", after := #[], guard := none }, { dst := some 27, op := Op.load 34 (Operand.tmp 3), type := 34, pos := "law.go:20", after := #[], guard := none }, { dst := some 28, op := Op.call { callee := Callee.value (Operand.func 29), args := #[Operand.const (Value.int IntKind.i64 7)], argTypes := #[3] }, type := 34, pos := "law.go:20", after := #[{ on := 1, ground := Ground.chain }], guard := none }, { dst := some 29, op := Op.buildSlice 35 1 #[(0, Operand.tmp 28)], type := 35, pos := "law.go:20", after := #[{ on := 3, ground := Ground.data }], guard := none }, { dst := some 30, op := Op.buildSlice 36 1 #[(0, Operand.const (Value.string { data := #[99] }))], type := 36, pos := "law.go:20", after := #[], guard := none }, { dst := some 31, op := Op.call { callee := Callee.value (Operand.func 22), args := #[Operand.tmp 25, Operand.tmp 26, Operand.tmp 27, Operand.tmp 29, Operand.tmp 30], argTypes := #[25, 34, 34, 35, 36] }, type := 40, pos := "law.go:20", after := #[{ on := 0, ground := Ground.data }, { on := 1, ground := Ground.data }, { on := 2, ground := Ground.data }, { on := 4, ground := Ground.data }, { on := 5, ground := Ground.data }, { on := 3, ground := Ground.chain }], guard := none }, { dst := some 6, op := Op.assign (Operand.tmp 31), type := 40, pos := "law.go:20", after := #[{ on := 6, ground := Ground.data }, { on := 6, ground := Ground.chain }, { on := 0, ground := Ground.phase }, { on := 1, ground := Ground.phase }, { on := 2, ground := Ground.phase }, { on := 3, ground := Ground.phase }, { on := 4, ground := Ground.phase }, { on := 5, ground := Ground.phase }, { on := 6, ground := Ground.phase }], guard := none }] true).wp Try.prog Q { tmps := #[x0, .pointer (some ⟨p, 0, none⟩), x2, .pointer (some ⟨d3, 0, none⟩), x4, x5, x6, x7, x8, x9, x10, x11, x12, x13, x14, x15, x16, x17, x18, x19, x20, x21, x22, x23, x24, x25, x26, x27, x28, x29, x30, x31, x32, x33, x34, x35, x36, x37, x38, x39, x40, x41, x42, x43, x44, x45, x46, x47, x48, x49, x50, x51, x52, x53, x54, x55, x56, x57, x58, x59, x60, x61, x62, x63, x64, x65, x66, x67, x68, x69, x70], defers := ds } A := by
  refine Code.wp_mono (Q := fun x a' w' => match x with | .normal => Q .normal a' w' | _ => False) (by intro x a' w' h; cases x <;> first | exact h | exact h.elim) ?_
  refine wp_region_held (S := fun V => Keep (fun k => k ∈ G.bl p) A V) (by kernel_rfl) ?_
  have hS0 : Hid (Keep (fun k => k ∈ G.bl p) A A.drew) := (Keep.refl _ A).drew
  change wpAnyH Try.prog .any _ _ (fun V => Keep (fun k => k ∈ G.bl p) A V) 8 (Array.replicate 8 false) _ A.drew
  obtain ⟨V0, hV0⟩ : ∃ V0, A.drew = V0 := ⟨_, rfl⟩
  rw [hV0]
  rw [hV0] at hS0
  have hX0 : Hid (GAt V0 p G) := by
    show GAt V0 p G
    rw [← hV0]
    exact HG.out.below (below_drew0 A)
  clear hV0
  refine wpAnyH_take (i := 0) (oi := { dst := some 25, op := Op.move (Operand.tmp 1), type := 25, pos := "law.go:20", after := #[], guard := none }) (v := .pointer (some ⟨p, 0, none⟩)) rfl (by kernel_rfl) (by kernel_rfl) (by kernel_rfl) (fun _ _ _ h => h.elim) (Or.inl ⟨by rfl, ?y1⟩) hS0.out ?_
  case y1 =>
    intro V hV
    go_simp
  simp only [Act.put, List.setIfInBounds_toArray, List.set_cons_zero, List.set_cons_succ]
  refine wpAnyH_take (i := 2) (oi := { dst := some 27, op := Op.load 34 (Operand.tmp 3), type := 34, pos := "law.go:20", after := #[], guard := none }) (v := .agg CB.toArray) rfl (by kernel_rfl) (by kernel_rfl) (by kernel_rfl) (fun _ _ _ h => h.elim) (yieldsIf_load_mid (by rfl) _ _ rfl _ _ rfl (CB) _ (fun V hV => rangeAt_same (HR3.out) ((show Keep (fun k => k ∈ G.bl p) A V from hV).block _ (HL3.out.1) (HL3.out.2))) Try.underlying34 rfl (HI3.out)) hS0.out ?_
  simp only [Act.put, List.setIfInBounds_toArray, List.set_cons_zero, List.set_cons_succ]
  refine wpAnyH_ready (rs := [1, 5]) (by kernel_rfl) (by simp) (AllReadyH.cons (i := 1) (o := { dst := some 26, op := Op.call { callee := Callee.value (Operand.func 29), args := #[Operand.const (Value.int IntKind.i64 5)], argTypes := #[3] }, type := 34, pos := "law.go:20", after := #[], guard := none }) rfl ?_ (AllReadyH.cons (i := 5) (o := { dst := some 30, op := Op.buildSlice 36 1 #[(0, Operand.const (Value.string { data := #[99] }))], type := 36, pos := "law.go:20", after := #[], guard := none }) rfl ?_ AllReadyH.nil))
  · intro K1 hK1
    rw [if_pos (by rfl)]
    have HC1 := HIDU.out V0
    go_wp2_with fail
    refine HC1.mono ?_
    rintro e V1 ⟨rfl, hb1⟩
    dsimp only
    clear HC1
    have hS1 : Hid (Keep (fun k => k ∈ G.bl p) A V1) := (hS0.out).trans (Keep.below (S := fun _ => False) hb1) (fun _ h _ => h.elim)
    have hX1 : Hid (GAt V1 p G ∧ True) := ⟨(hX0.out).below hb1, trivial⟩
    clear hb1
    refine hK1.out _ _ hS1.out ?_
    clear hK1
    intro _
    try simp only [Act.put, List.setIfInBounds_toArray, List.set_cons_zero, List.set_cons_succ]
    refine wpAnyH_ready (rs := [3, 5]) (by kernel_rfl) (by simp) (AllReadyH.cons (i := 3) (o := { dst := some 28, op := Op.call { callee := Callee.value (Operand.func 29), args := #[Operand.const (Value.int IntKind.i64 7)], argTypes := #[3] }, type := 34, pos := "law.go:20", after := #[{ on := 1, ground := Ground.chain }], guard := none }) rfl ?_ (AllReadyH.cons (i := 5) (o := { dst := some 30, op := Op.buildSlice 36 1 #[(0, Operand.const (Value.string { data := #[99] }))], type := 36, pos := "law.go:20", after := #[], guard := none }) rfl ?_ AllReadyH.nil))
    · intro K1 hK1
      rw [if_pos (by rfl)]
      have HC2 := HIDX.out V1
      go_wp2_with fail
      refine HC2.mono ?_
      rintro e V2 ⟨rfl, hb2⟩
      dsimp only
      clear HC2
      have hS2 : Hid (Keep (fun k => k ∈ G.bl p) A V2) := (hS1.out).trans (Keep.below (S := fun _ => False) hb2) (fun _ h _ => h.elim)
      have hX2 : Hid (GAt V2 p G ∧ True) := ⟨(hX1.out.1).below hb2, trivial⟩
      clear hb2
      refine hK1.out _ _ hS2.out ?_
      clear hK1
      intro _
      try simp only [Act.put, List.setIfInBounds_toArray, List.set_cons_zero, List.set_cons_succ]
      refine wpAnyH_ready (rs := [4, 5]) (by kernel_rfl) (by simp) (AllReadyH.cons (i := 4) (o := { dst := some 29, op := Op.buildSlice 35 1 #[(0, Operand.tmp 28)], type := 35, pos := "law.go:20", after := #[{ on := 3, ground := Ground.data }], guard := none }) rfl ?_ (AllReadyH.cons (i := 5) (o := { dst := some 30, op := Op.buildSlice 36 1 #[(0, Operand.const (Value.string { data := #[99] }))], type := 36, pos := "law.go:20", after := #[], guard := none }) rfl ?_ AllReadyH.nil))
      · intro K1 hK1
        refine step_bs1 (by rfl) _ rfl x HV.out.1 (by rw [HXC.out]; rfl) ?_
        obtain ⟨V3, hv3⟩ : ∃ V, V2.alloc (.cells x.cells.toArray 34) = V := ⟨_, rfl⟩
        obtain ⟨r1, hr3⟩ : ∃ m, V2.heap.size = m := ⟨_, rfl⟩
        have hb3 : Below V2.heap.size V2 V3 := by rw [← hv3]; exact below_al _ _
        have hS3 : Hid (Keep (fun k => k ∈ G.bl p) A V3) := (hS2.out).trans (Keep.below (S := fun _ => False) hb3) (fun _ h _ => h.elim)
        have hX3 : Hid (GAt V3 p G ∧ True) := ⟨(hX2.out.1).below hb3, trivial⟩
        have hR3 : Hid (VsR V3 (some ⟨r1, 0, none⟩) 1 [x]) := by
          show VsR _ _ _ _
          rw [← hv3, ← hr3]
          exact VsR.one _ _ HV.out
        rw [hv3, hr3]
        clear hv3 hr3 hb3
        refine hK1.out _ _ hS3.out ?_
        clear hK1
        intro _
        try simp only [Act.put, List.setIfInBounds_toArray, List.set_cons_zero, List.set_cons_succ]
        refine wpAnyH_ready (rs := [5]) (by kernel_rfl) (by simp) (AllReadyH.cons (i := 5) (o := { dst := some 30, op := Op.buildSlice 36 1 #[(0, Operand.const (Value.string { data := #[99] }))], type := 36, pos := "law.go:20", after := #[], guard := none }) rfl ?_ AllReadyH.nil)
        · intro K1 hK1
          refine step_bs9 (by rfl) _ rfl s HS.out ?_
          obtain ⟨V4, hv4⟩ : ∃ V, V3.alloc (.cells [Value.string s].toArray 9) = V := ⟨_, rfl⟩
          obtain ⟨r2, hr4⟩ : ∃ m, V3.heap.size = m := ⟨_, rfl⟩
          have hb4 : Below V3.heap.size V3 V4 := by rw [← hv4]; exact below_al _ _
          have hS4 : Hid (Keep (fun k => k ∈ G.bl p) A V4) := (hS3.out).trans (Keep.below (S := fun _ => False) hb4) (fun _ h _ => h.elim)
          have hX4 : Hid (GAt V4 p G ∧ VsR V4 (some ⟨r1, 0, none⟩) 1 [x] ∧ True) := ⟨(hX3.out.1).below hb4, (hR3.out).below hb4, trivial⟩
          have hR4 : Hid (TsR V4 (some ⟨r2, 0, none⟩) 1 [s]) := by
            show TsR _ _ _ _
            rw [← hv4, ← hr4]
            exact TsR.one _ _
          rw [hv4, hr4]
          clear hv4 hr4 hb4
          refine hK1.out _ _ hS4.out ?_
          clear hK1
          intro _
          try simp only [Act.put, List.setIfInBounds_toArray, List.set_cons_zero, List.set_cons_succ]
          refine wpAnyH_ready (rs := [6]) (by kernel_rfl) (by simp) (AllReadyH.cons (i := 6) (o := { dst := some 31, op := Op.call { callee := Callee.value (Operand.func 22), args := #[Operand.tmp 25, Operand.tmp 26, Operand.tmp 27, Operand.tmp 29, Operand.tmp 30], argTypes := #[25, 34, 34, 35, 36] }, type := 40, pos := "law.go:20", after := #[{ on := 0, ground := Ground.data }, { on := 1, ground := Ground.data }, { on := 2, ground := Ground.data }, { on := 4, ground := Ground.data }, { on := 5, ground := Ground.data }, { on := 3, ground := Ground.chain }], guard := none }) rfl ?_ AllReadyH.nil)
          · intro K1 hK1
            rw [if_pos (by rfl)]
            have HC5 := HADD.out V4 r1 r2 (hX4.out.1) (hX4.out.2.1) (hR4.out)
            go_wp2_with fail
            refine HC5.mono ?_
            rintro e V5 ⟨rfl, G', hga5, hps5⟩
            dsimp only
            clear HC5
            have hS5 : Hid (Keep (fun k => k ∈ G.bl p) A V5) := (hS4.out).trans hga5.2.2 (fun _ h _ => h)
            have hX5 : Hid (GAt V5 p G' ∧ G'.ps = PS ∧ ∀ k ∈ G'.bl p, k ∈ G.bl p ∨ A.heap.size ≤ k) := ⟨hga5.1, hps5, fun k hk => (hga5.2.1 k hk).imp id (fun h => Nat.le_trans (hS4.out).size h)⟩
            clear hga5 hps5
            refine hK1.out _ _ hS5.out ?_
            clear hK1
            intro _
            try simp only [Act.put, List.setIfInBounds_toArray, List.set_cons_zero, List.set_cons_succ]
            refine wpAnyH_take (i := 7) (oi := { dst := some 6, op := Op.assign (Operand.tmp 31), type := 40, pos := "law.go:20", after := #[{ on := 6, ground := Ground.data }, { on := 6, ground := Ground.chain }, { on := 0, ground := Ground.phase }, { on := 1, ground := Ground.phase }, { on := 2, ground := Ground.phase }, { on := 3, ground := Ground.phase }, { on := 4, ground := Ground.phase }, { on := 5, ground := Ground.phase }, { on := 6, ground := Ground.phase }], guard := none }) (v := iv 0) rfl (by kernel_rfl) (by kernel_rfl) (by kernel_rfl) (fun _ _ _ h => h.elim) (Or.inl ⟨by rfl, ?y2⟩) hS5.out ?_
            case y2 =>
              intro V hV
              go_simp
            simp only [Act.put, List.setIfInBounds_toArray, List.set_cons_zero, List.set_cons_succ]
            refine wpAnyH_done (by kernel_rfl) ?_ _
            exact hQ V5 r1 r2 G' hS5.out hX5.out
      · intro K1 hK1
        refine step_bs9 (by rfl) _ rfl s HS.out ?_
        obtain ⟨V3, hv3⟩ : ∃ V, V2.alloc (.cells [Value.string s].toArray 9) = V := ⟨_, rfl⟩
        obtain ⟨r2, hr3⟩ : ∃ m, V2.heap.size = m := ⟨_, rfl⟩
        have hb3 : Below V2.heap.size V2 V3 := by rw [← hv3]; exact below_al _ _
        have hS3 : Hid (Keep (fun k => k ∈ G.bl p) A V3) := (hS2.out).trans (Keep.below (S := fun _ => False) hb3) (fun _ h _ => h.elim)
        have hX3 : Hid (GAt V3 p G ∧ True) := ⟨(hX2.out.1).below hb3, trivial⟩
        have hR3 : Hid (TsR V3 (some ⟨r2, 0, none⟩) 1 [s]) := by
          show TsR _ _ _ _
          rw [← hv3, ← hr3]
          exact TsR.one _ _
        rw [hv3, hr3]
        clear hv3 hr3 hb3
        refine hK1.out _ _ hS3.out ?_
        clear hK1
        intro _
        try simp only [Act.put, List.setIfInBounds_toArray, List.set_cons_zero, List.set_cons_succ]
        refine wpAnyH_ready (rs := [4]) (by kernel_rfl) (by simp) (AllReadyH.cons (i := 4) (o := { dst := some 29, op := Op.buildSlice 35 1 #[(0, Operand.tmp 28)], type := 35, pos := "law.go:20", after := #[{ on := 3, ground := Ground.data }], guard := none }) rfl ?_ AllReadyH.nil)
        · intro K1 hK1
          refine step_bs1 (by rfl) _ rfl x HV.out.1 (by rw [HXC.out]; rfl) ?_
          obtain ⟨V4, hv4⟩ : ∃ V, V3.alloc (.cells x.cells.toArray 34) = V := ⟨_, rfl⟩
          obtain ⟨r1, hr4⟩ : ∃ m, V3.heap.size = m := ⟨_, rfl⟩
          have hb4 : Below V3.heap.size V3 V4 := by rw [← hv4]; exact below_al _ _
          have hS4 : Hid (Keep (fun k => k ∈ G.bl p) A V4) := (hS3.out).trans (Keep.below (S := fun _ => False) hb4) (fun _ h _ => h.elim)
          have hX4 : Hid (GAt V4 p G ∧ TsR V4 (some ⟨r2, 0, none⟩) 1 [s] ∧ True) := ⟨(hX3.out.1).below hb4, (hR3.out).below hb4, trivial⟩
          have hR4 : Hid (VsR V4 (some ⟨r1, 0, none⟩) 1 [x]) := by
            show VsR _ _ _ _
            rw [← hv4, ← hr4]
            exact VsR.one _ _ HV.out
          rw [hv4, hr4]
          clear hv4 hr4 hb4
          refine hK1.out _ _ hS4.out ?_
          clear hK1
          intro _
          try simp only [Act.put, List.setIfInBounds_toArray, List.set_cons_zero, List.set_cons_succ]
          refine wpAnyH_ready (rs := [6]) (by kernel_rfl) (by simp) (AllReadyH.cons (i := 6) (o := { dst := some 31, op := Op.call { callee := Callee.value (Operand.func 22), args := #[Operand.tmp 25, Operand.tmp 26, Operand.tmp 27, Operand.tmp 29, Operand.tmp 30], argTypes := #[25, 34, 34, 35, 36] }, type := 40, pos := "law.go:20", after := #[{ on := 0, ground := Ground.data }, { on := 1, ground := Ground.data }, { on := 2, ground := Ground.data }, { on := 4, ground := Ground.data }, { on := 5, ground := Ground.data }, { on := 3, ground := Ground.chain }], guard := none }) rfl ?_ AllReadyH.nil)
          · intro K1 hK1
            rw [if_pos (by rfl)]
            have HC5 := HADD.out V4 r1 r2 (hX4.out.1) (hR4.out) (hX4.out.2.1)
            go_wp2_with fail
            refine HC5.mono ?_
            rintro e V5 ⟨rfl, G', hga5, hps5⟩
            dsimp only
            clear HC5
            have hS5 : Hid (Keep (fun k => k ∈ G.bl p) A V5) := (hS4.out).trans hga5.2.2 (fun _ h _ => h)
            have hX5 : Hid (GAt V5 p G' ∧ G'.ps = PS ∧ ∀ k ∈ G'.bl p, k ∈ G.bl p ∨ A.heap.size ≤ k) := ⟨hga5.1, hps5, fun k hk => (hga5.2.1 k hk).imp id (fun h => Nat.le_trans (hS4.out).size h)⟩
            clear hga5 hps5
            refine hK1.out _ _ hS5.out ?_
            clear hK1
            intro _
            try simp only [Act.put, List.setIfInBounds_toArray, List.set_cons_zero, List.set_cons_succ]
            refine wpAnyH_take (i := 7) (oi := { dst := some 6, op := Op.assign (Operand.tmp 31), type := 40, pos := "law.go:20", after := #[{ on := 6, ground := Ground.data }, { on := 6, ground := Ground.chain }, { on := 0, ground := Ground.phase }, { on := 1, ground := Ground.phase }, { on := 2, ground := Ground.phase }, { on := 3, ground := Ground.phase }, { on := 4, ground := Ground.phase }, { on := 5, ground := Ground.phase }, { on := 6, ground := Ground.phase }], guard := none }) (v := iv 0) rfl (by kernel_rfl) (by kernel_rfl) (by kernel_rfl) (fun _ _ _ h => h.elim) (Or.inl ⟨by rfl, ?y3⟩) hS5.out ?_
            case y3 =>
              intro V hV
              go_simp
            simp only [Act.put, List.setIfInBounds_toArray, List.set_cons_zero, List.set_cons_succ]
            refine wpAnyH_done (by kernel_rfl) ?_ _
            exact hQ V5 r1 r2 G' hS5.out hX5.out
    · intro K1 hK1
      refine step_bs9 (by rfl) _ rfl s HS.out ?_
      obtain ⟨V2, hv2⟩ : ∃ V, V1.alloc (.cells [Value.string s].toArray 9) = V := ⟨_, rfl⟩
      obtain ⟨r2, hr2⟩ : ∃ m, V1.heap.size = m := ⟨_, rfl⟩
      have hb2 : Below V1.heap.size V1 V2 := by rw [← hv2]; exact below_al _ _
      have hS2 : Hid (Keep (fun k => k ∈ G.bl p) A V2) := (hS1.out).trans (Keep.below (S := fun _ => False) hb2) (fun _ h _ => h.elim)
      have hX2 : Hid (GAt V2 p G ∧ True) := ⟨(hX1.out.1).below hb2, trivial⟩
      have hR2 : Hid (TsR V2 (some ⟨r2, 0, none⟩) 1 [s]) := by
        show TsR _ _ _ _
        rw [← hv2, ← hr2]
        exact TsR.one _ _
      rw [hv2, hr2]
      clear hv2 hr2 hb2
      refine hK1.out _ _ hS2.out ?_
      clear hK1
      intro _
      try simp only [Act.put, List.setIfInBounds_toArray, List.set_cons_zero, List.set_cons_succ]
      refine wpAnyH_ready (rs := [3]) (by kernel_rfl) (by simp) (AllReadyH.cons (i := 3) (o := { dst := some 28, op := Op.call { callee := Callee.value (Operand.func 29), args := #[Operand.const (Value.int IntKind.i64 7)], argTypes := #[3] }, type := 34, pos := "law.go:20", after := #[{ on := 1, ground := Ground.chain }], guard := none }) rfl ?_ AllReadyH.nil)
      · intro K1 hK1
        rw [if_pos (by rfl)]
        have HC3 := HIDX.out V2
        go_wp2_with fail
        refine HC3.mono ?_
        rintro e V3 ⟨rfl, hb3⟩
        dsimp only
        clear HC3
        have hS3 : Hid (Keep (fun k => k ∈ G.bl p) A V3) := (hS2.out).trans (Keep.below (S := fun _ => False) hb3) (fun _ h _ => h.elim)
        have hX3 : Hid (GAt V3 p G ∧ TsR V3 (some ⟨r2, 0, none⟩) 1 [s] ∧ True) := ⟨(hX2.out.1).below hb3, (hR2.out).below hb3, trivial⟩
        clear hb3
        refine hK1.out _ _ hS3.out ?_
        clear hK1
        intro _
        try simp only [Act.put, List.setIfInBounds_toArray, List.set_cons_zero, List.set_cons_succ]
        refine wpAnyH_ready (rs := [4]) (by kernel_rfl) (by simp) (AllReadyH.cons (i := 4) (o := { dst := some 29, op := Op.buildSlice 35 1 #[(0, Operand.tmp 28)], type := 35, pos := "law.go:20", after := #[{ on := 3, ground := Ground.data }], guard := none }) rfl ?_ AllReadyH.nil)
        · intro K1 hK1
          refine step_bs1 (by rfl) _ rfl x HV.out.1 (by rw [HXC.out]; rfl) ?_
          obtain ⟨V4, hv4⟩ : ∃ V, V3.alloc (.cells x.cells.toArray 34) = V := ⟨_, rfl⟩
          obtain ⟨r1, hr4⟩ : ∃ m, V3.heap.size = m := ⟨_, rfl⟩
          have hb4 : Below V3.heap.size V3 V4 := by rw [← hv4]; exact below_al _ _
          have hS4 : Hid (Keep (fun k => k ∈ G.bl p) A V4) := (hS3.out).trans (Keep.below (S := fun _ => False) hb4) (fun _ h _ => h.elim)
          have hX4 : Hid (GAt V4 p G ∧ TsR V4 (some ⟨r2, 0, none⟩) 1 [s] ∧ True) := ⟨(hX3.out.1).below hb4, (hX3.out.2.1).below hb4, trivial⟩
          have hR4 : Hid (VsR V4 (some ⟨r1, 0, none⟩) 1 [x]) := by
            show VsR _ _ _ _
            rw [← hv4, ← hr4]
            exact VsR.one _ _ HV.out
          rw [hv4, hr4]
          clear hv4 hr4 hb4
          refine hK1.out _ _ hS4.out ?_
          clear hK1
          intro _
          try simp only [Act.put, List.setIfInBounds_toArray, List.set_cons_zero, List.set_cons_succ]
          refine wpAnyH_ready (rs := [6]) (by kernel_rfl) (by simp) (AllReadyH.cons (i := 6) (o := { dst := some 31, op := Op.call { callee := Callee.value (Operand.func 22), args := #[Operand.tmp 25, Operand.tmp 26, Operand.tmp 27, Operand.tmp 29, Operand.tmp 30], argTypes := #[25, 34, 34, 35, 36] }, type := 40, pos := "law.go:20", after := #[{ on := 0, ground := Ground.data }, { on := 1, ground := Ground.data }, { on := 2, ground := Ground.data }, { on := 4, ground := Ground.data }, { on := 5, ground := Ground.data }, { on := 3, ground := Ground.chain }], guard := none }) rfl ?_ AllReadyH.nil)
          · intro K1 hK1
            rw [if_pos (by rfl)]
            have HC5 := HADD.out V4 r1 r2 (hX4.out.1) (hR4.out) (hX4.out.2.1)
            go_wp2_with fail
            refine HC5.mono ?_
            rintro e V5 ⟨rfl, G', hga5, hps5⟩
            dsimp only
            clear HC5
            have hS5 : Hid (Keep (fun k => k ∈ G.bl p) A V5) := (hS4.out).trans hga5.2.2 (fun _ h _ => h)
            have hX5 : Hid (GAt V5 p G' ∧ G'.ps = PS ∧ ∀ k ∈ G'.bl p, k ∈ G.bl p ∨ A.heap.size ≤ k) := ⟨hga5.1, hps5, fun k hk => (hga5.2.1 k hk).imp id (fun h => Nat.le_trans (hS4.out).size h)⟩
            clear hga5 hps5
            refine hK1.out _ _ hS5.out ?_
            clear hK1
            intro _
            try simp only [Act.put, List.setIfInBounds_toArray, List.set_cons_zero, List.set_cons_succ]
            refine wpAnyH_take (i := 7) (oi := { dst := some 6, op := Op.assign (Operand.tmp 31), type := 40, pos := "law.go:20", after := #[{ on := 6, ground := Ground.data }, { on := 6, ground := Ground.chain }, { on := 0, ground := Ground.phase }, { on := 1, ground := Ground.phase }, { on := 2, ground := Ground.phase }, { on := 3, ground := Ground.phase }, { on := 4, ground := Ground.phase }, { on := 5, ground := Ground.phase }, { on := 6, ground := Ground.phase }], guard := none }) (v := iv 0) rfl (by kernel_rfl) (by kernel_rfl) (by kernel_rfl) (fun _ _ _ h => h.elim) (Or.inl ⟨by rfl, ?y4⟩) hS5.out ?_
            case y4 =>
              intro V hV
              go_simp
            simp only [Act.put, List.setIfInBounds_toArray, List.set_cons_zero, List.set_cons_succ]
            refine wpAnyH_done (by kernel_rfl) ?_ _
            exact hQ V5 r1 r2 G' hS5.out hX5.out
  · intro K1 hK1
    refine step_bs9 (by rfl) _ rfl s HS.out ?_
    obtain ⟨V1, hv1⟩ : ∃ V, V0.alloc (.cells [Value.string s].toArray 9) = V := ⟨_, rfl⟩
    obtain ⟨r2, hr1⟩ : ∃ m, V0.heap.size = m := ⟨_, rfl⟩
    have hb1 : Below V0.heap.size V0 V1 := by rw [← hv1]; exact below_al _ _
    have hS1 : Hid (Keep (fun k => k ∈ G.bl p) A V1) := (hS0.out).trans (Keep.below (S := fun _ => False) hb1) (fun _ h _ => h.elim)
    have hX1 : Hid (GAt V1 p G ∧ True) := ⟨(hX0.out).below hb1, trivial⟩
    have hR1 : Hid (TsR V1 (some ⟨r2, 0, none⟩) 1 [s]) := by
      show TsR _ _ _ _
      rw [← hv1, ← hr1]
      exact TsR.one _ _
    rw [hv1, hr1]
    clear hv1 hr1 hb1
    refine hK1.out _ _ hS1.out ?_
    clear hK1
    intro _
    try simp only [Act.put, List.setIfInBounds_toArray, List.set_cons_zero, List.set_cons_succ]
    refine wpAnyH_ready (rs := [1]) (by kernel_rfl) (by simp) (AllReadyH.cons (i := 1) (o := { dst := some 26, op := Op.call { callee := Callee.value (Operand.func 29), args := #[Operand.const (Value.int IntKind.i64 5)], argTypes := #[3] }, type := 34, pos := "law.go:20", after := #[], guard := none }) rfl ?_ AllReadyH.nil)
    · intro K1 hK1
      rw [if_pos (by rfl)]
      have HC2 := HIDU.out V1
      go_wp2_with fail
      refine HC2.mono ?_
      rintro e V2 ⟨rfl, hb2⟩
      dsimp only
      clear HC2
      have hS2 : Hid (Keep (fun k => k ∈ G.bl p) A V2) := (hS1.out).trans (Keep.below (S := fun _ => False) hb2) (fun _ h _ => h.elim)
      have hX2 : Hid (GAt V2 p G ∧ TsR V2 (some ⟨r2, 0, none⟩) 1 [s] ∧ True) := ⟨(hX1.out.1).below hb2, (hR1.out).below hb2, trivial⟩
      clear hb2
      refine hK1.out _ _ hS2.out ?_
      clear hK1
      intro _
      try simp only [Act.put, List.setIfInBounds_toArray, List.set_cons_zero, List.set_cons_succ]
      refine wpAnyH_ready (rs := [3]) (by kernel_rfl) (by simp) (AllReadyH.cons (i := 3) (o := { dst := some 28, op := Op.call { callee := Callee.value (Operand.func 29), args := #[Operand.const (Value.int IntKind.i64 7)], argTypes := #[3] }, type := 34, pos := "law.go:20", after := #[{ on := 1, ground := Ground.chain }], guard := none }) rfl ?_ AllReadyH.nil)
      · intro K1 hK1
        rw [if_pos (by rfl)]
        have HC3 := HIDX.out V2
        go_wp2_with fail
        refine HC3.mono ?_
        rintro e V3 ⟨rfl, hb3⟩
        dsimp only
        clear HC3
        have hS3 : Hid (Keep (fun k => k ∈ G.bl p) A V3) := (hS2.out).trans (Keep.below (S := fun _ => False) hb3) (fun _ h _ => h.elim)
        have hX3 : Hid (GAt V3 p G ∧ TsR V3 (some ⟨r2, 0, none⟩) 1 [s] ∧ True) := ⟨(hX2.out.1).below hb3, (hX2.out.2.1).below hb3, trivial⟩
        clear hb3
        refine hK1.out _ _ hS3.out ?_
        clear hK1
        intro _
        try simp only [Act.put, List.setIfInBounds_toArray, List.set_cons_zero, List.set_cons_succ]
        refine wpAnyH_ready (rs := [4]) (by kernel_rfl) (by simp) (AllReadyH.cons (i := 4) (o := { dst := some 29, op := Op.buildSlice 35 1 #[(0, Operand.tmp 28)], type := 35, pos := "law.go:20", after := #[{ on := 3, ground := Ground.data }], guard := none }) rfl ?_ AllReadyH.nil)
        · intro K1 hK1
          refine step_bs1 (by rfl) _ rfl x HV.out.1 (by rw [HXC.out]; rfl) ?_
          obtain ⟨V4, hv4⟩ : ∃ V, V3.alloc (.cells x.cells.toArray 34) = V := ⟨_, rfl⟩
          obtain ⟨r1, hr4⟩ : ∃ m, V3.heap.size = m := ⟨_, rfl⟩
          have hb4 : Below V3.heap.size V3 V4 := by rw [← hv4]; exact below_al _ _
          have hS4 : Hid (Keep (fun k => k ∈ G.bl p) A V4) := (hS3.out).trans (Keep.below (S := fun _ => False) hb4) (fun _ h _ => h.elim)
          have hX4 : Hid (GAt V4 p G ∧ TsR V4 (some ⟨r2, 0, none⟩) 1 [s] ∧ True) := ⟨(hX3.out.1).below hb4, (hX3.out.2.1).below hb4, trivial⟩
          have hR4 : Hid (VsR V4 (some ⟨r1, 0, none⟩) 1 [x]) := by
            show VsR _ _ _ _
            rw [← hv4, ← hr4]
            exact VsR.one _ _ HV.out
          rw [hv4, hr4]
          clear hv4 hr4 hb4
          refine hK1.out _ _ hS4.out ?_
          clear hK1
          intro _
          try simp only [Act.put, List.setIfInBounds_toArray, List.set_cons_zero, List.set_cons_succ]
          refine wpAnyH_ready (rs := [6]) (by kernel_rfl) (by simp) (AllReadyH.cons (i := 6) (o := { dst := some 31, op := Op.call { callee := Callee.value (Operand.func 22), args := #[Operand.tmp 25, Operand.tmp 26, Operand.tmp 27, Operand.tmp 29, Operand.tmp 30], argTypes := #[25, 34, 34, 35, 36] }, type := 40, pos := "law.go:20", after := #[{ on := 0, ground := Ground.data }, { on := 1, ground := Ground.data }, { on := 2, ground := Ground.data }, { on := 4, ground := Ground.data }, { on := 5, ground := Ground.data }, { on := 3, ground := Ground.chain }], guard := none }) rfl ?_ AllReadyH.nil)
          · intro K1 hK1
            rw [if_pos (by rfl)]
            have HC5 := HADD.out V4 r1 r2 (hX4.out.1) (hR4.out) (hX4.out.2.1)
            go_wp2_with fail
            refine HC5.mono ?_
            rintro e V5 ⟨rfl, G', hga5, hps5⟩
            dsimp only
            clear HC5
            have hS5 : Hid (Keep (fun k => k ∈ G.bl p) A V5) := (hS4.out).trans hga5.2.2 (fun _ h _ => h)
            have hX5 : Hid (GAt V5 p G' ∧ G'.ps = PS ∧ ∀ k ∈ G'.bl p, k ∈ G.bl p ∨ A.heap.size ≤ k) := ⟨hga5.1, hps5, fun k hk => (hga5.2.1 k hk).imp id (fun h => Nat.le_trans (hS4.out).size h)⟩
            clear hga5 hps5
            refine hK1.out _ _ hS5.out ?_
            clear hK1
            intro _
            try simp only [Act.put, List.setIfInBounds_toArray, List.set_cons_zero, List.set_cons_succ]
            refine wpAnyH_take (i := 7) (oi := { dst := some 6, op := Op.assign (Operand.tmp 31), type := 40, pos := "law.go:20", after := #[{ on := 6, ground := Ground.data }, { on := 6, ground := Ground.chain }, { on := 0, ground := Ground.phase }, { on := 1, ground := Ground.phase }, { on := 2, ground := Ground.phase }, { on := 3, ground := Ground.phase }, { on := 4, ground := Ground.phase }, { on := 5, ground := Ground.phase }, { on := 6, ground := Ground.phase }], guard := none }) (v := iv 0) rfl (by kernel_rfl) (by kernel_rfl) (by kernel_rfl) (fun _ _ _ h => h.elim) (Or.inl ⟨by rfl, ?y5⟩) hS5.out ?_
            case y5 =>
              intro V hV
              go_simp
            simp only [Act.put, List.setIfInBounds_toArray, List.set_cons_zero, List.set_cons_succ]
            refine wpAnyH_done (by kernel_rfl) ?_ _
            exact hQ V5 r1 r2 G' hS5.out hX5.out
set_option maxRecDepth 100000 in
set_option maxHeartbeats 4000000 in
theorem lv6 {Q : Exit → Act → World → Prop} {x0 x2 x4 x5 x6 x7 x8 x9 x10 x11 x12 x13 x14 x15 x16 x17 x18 x19 x20 x21 x22 x23 x24 x25 x26 x27 x28 x29 x30 x31 x32 x33 x34 x35 x36 x37 x38 x39 x40 x41 x42 x43 x44 x45 x46 x47 x48 x49 x50 x51 x52 x53 x54 x55 x56 x57 x58 x59 x60 x61 x62 x63 x64 x65 x66 x67 x68 x69 x70 : Value} {ds : List Deferred} {A : World} {p d3 : Nat} {G : Gm} {x : Vx} {XC : List Value} {CB : List Value} {CU : List Value} {s : BA} {PS : List PL} 
    (HG : Hid (GAt A p G)) (HV : Hid (Vk x)) (HXC : Hid (x.cells = XC))  (HL3 : Hid (d3 < A.heap.size ∧ ¬ d3 ∈ G.bl p)) (HR3 : Hid (A.rangeAt d3 0 CB)) (HI3 : Hid ((Try.prog.info? 34).map (·.size) = some CB.length)) (HIDU : Hid (∀ W, Calls Try.prog 29 #[iv 5] W fun e w' => e = .returned (.agg CU.toArray) ∧ Below W.heap.size W w')) (HIDX : Hid (∀ W, Calls Try.prog 29 #[iv 8] W fun e w' => e = .returned (.agg XC.toArray) ∧ Below W.heap.size W w')) (HS : Hid (Value.string { data := #[100] } = .string s)) (HADD : Hid (∀ V r1 r2, GAt V p G → VsR V (some ⟨r1, 0, none⟩) 1 [x] → TsR V (some ⟨r2, 0, none⟩) 1 [s] → Calls Try.prog 22 #[.pointer (some ⟨p, 0, none⟩), .agg CU.toArray, .agg CB.toArray, .slice (some ⟨r1, 0, none⟩) 1 1, .slice (some ⟨r2, 0, none⟩) 1 1] V fun e w' => e = .returned (iv 0) ∧ ∃ G', GAfter V p G G' w' ∧ G'.ps = PS))
    (hQ : ∀ V3 r1 r2 G', Keep (fun k => k ∈ G.bl p) A V3 → (GAt V3 p G' ∧ G'.ps = PS ∧ ∀ k ∈ G'.bl p, k ∈ G.bl p ∨ A.heap.size ≤ k) → Q .normal { tmps := #[x0, .pointer (some ⟨p, 0, none⟩), x2, .pointer (some ⟨d3, 0, none⟩), x4, x5, x6, iv 0, x8, x9, x10, x11, x12, x13, x14, x15, x16, x17, x18, x19, x20, x21, x22, x23, x24, x25, x26, x27, x28, x29, x30, x31, .pointer (some ⟨p, 0, none⟩), .agg CU.toArray, .agg CB.toArray, .agg XC.toArray, .slice (some ⟨r1, 0, none⟩) 1 1, .slice (some ⟨r2, 0, none⟩) 1 1, iv 0, x39, x40, x41, x42, x43, x44, x45, x46, x47, x48, x49, x50, x51, x52, x53, x54, x55, x56, x57, x58, x59, x60, x61, x62, x63, x64, x65, x66, x67, x68, x69, x70], defers := ds } V3) :
    (Code.region 6 #[{ dst := some 32, op := Op.move (Operand.tmp 1), type := 25, pos := "law.go:21", after := #[], guard := none }, { dst := some 33, op := Op.call { callee := Callee.value (Operand.func 29), args := #[Operand.const (Value.int IntKind.i64 5)], argTypes := #[3] }, type := 34, pos := "law.go:21", after := #[], guard := none }, { dst := some 34, op := Op.load 34 (Operand.tmp 3), type := 34, pos := "law.go:21", after := #[], guard := none }, { dst := some 35, op := Op.call { callee := Callee.value (Operand.func 29), args := #[Operand.const (Value.int IntKind.i64 8)], argTypes := #[3] }, type := 34, pos := "law.go:21", after := #[{ on := 1, ground := Ground.chain }], guard := none }, { dst := some 36, op := Op.buildSlice 35 1 #[(0, Operand.tmp 35)], type := 35, pos := "law.go:21", after := #[{ on := 3, ground := Ground.data }], guard := none }, { dst := some 37, op := Op.buildSlice 36 1 #[(0, Operand.const (Value.string { data := #[100] }))], type := 36, pos := "law.go:21", after := #[], guard := none }, { dst := some 38, op := Op.call { callee := Callee.value (Operand.func 22), args := #[Operand.tmp 32, Operand.tmp 33, Operand.tmp 34, Operand.tmp 36, Operand.tmp 37], argTypes := #[25, 34, 34, 35, 36] }, type := 40, pos := "law.go:21", after := #[{ on := 0, ground := Ground.data }, { on := 1, ground := Ground.data }, { on := 2, ground := Ground.data }, { on := 4, ground := Ground.data }, { on := 5, ground := Ground.data }, { on := 3, ground := Ground.chain }], guard := none }, { dst := some 7, op := Op.assign (Operand.tmp 38), type := 40, pos := "law.go:21", after := #[{ on := 6, ground := Ground.data }, { on := 6, ground := Ground.chain }, { on := 0, ground := Ground.phase }, { on := 1, ground := Ground.phase }, { on := 2, ground := Ground.phase }, { on := 3, ground := Ground.phase }, { on := 4, ground := Ground.phase }, { on := 5, ground := Ground.phase }, { on := 6, ground := Ground.phase }], guard := none }] true).wp Try.prog Q { tmps := #[x0, .pointer (some ⟨p, 0, none⟩), x2, .pointer (some ⟨d3, 0, none⟩), x4, x5, x6, x7, x8, x9, x10, x11, x12, x13, x14, x15, x16, x17, x18, x19, x20, x21, x22, x23, x24, x25, x26, x27, x28, x29, x30, x31, x32, x33, x34, x35, x36, x37, x38, x39, x40, x41, x42, x43, x44, x45, x46, x47, x48, x49, x50, x51, x52, x53, x54, x55, x56, x57, x58, x59, x60, x61, x62, x63, x64, x65, x66, x67, x68, x69, x70], defers := ds } A := by
  refine Code.wp_mono (Q := fun x a' w' => match x with | .normal => Q .normal a' w' | _ => False) (by intro x a' w' h; cases x <;> first | exact h | exact h.elim) ?_
  refine wp_region_held (S := fun V => Keep (fun k => k ∈ G.bl p) A V) (by kernel_rfl) ?_
  have hS0 : Hid (Keep (fun k => k ∈ G.bl p) A A.drew) := (Keep.refl _ A).drew
  change wpAnyH Try.prog .any _ _ (fun V => Keep (fun k => k ∈ G.bl p) A V) 8 (Array.replicate 8 false) _ A.drew
  obtain ⟨V0, hV0⟩ : ∃ V0, A.drew = V0 := ⟨_, rfl⟩
  rw [hV0]
  rw [hV0] at hS0
  have hX0 : Hid (GAt V0 p G) := by
    show GAt V0 p G
    rw [← hV0]
    exact HG.out.below (below_drew0 A)
  clear hV0
  refine wpAnyH_take (i := 0) (oi := { dst := some 32, op := Op.move (Operand.tmp 1), type := 25, pos := "law.go:21", after := #[], guard := none }) (v := .pointer (some ⟨p, 0, none⟩)) rfl (by kernel_rfl) (by kernel_rfl) (by kernel_rfl) (fun _ _ _ h => h.elim) (Or.inl ⟨by rfl, ?y1⟩) hS0.out ?_
  case y1 =>
    intro V hV
    go_simp
  simp only [Act.put, List.setIfInBounds_toArray, List.set_cons_zero, List.set_cons_succ]
  refine wpAnyH_take (i := 2) (oi := { dst := some 34, op := Op.load 34 (Operand.tmp 3), type := 34, pos := "law.go:21", after := #[], guard := none }) (v := .agg CB.toArray) rfl (by kernel_rfl) (by kernel_rfl) (by kernel_rfl) (fun _ _ _ h => h.elim) (yieldsIf_load_mid (by rfl) _ _ rfl _ _ rfl (CB) _ (fun V hV => rangeAt_same (HR3.out) ((show Keep (fun k => k ∈ G.bl p) A V from hV).block _ (HL3.out.1) (HL3.out.2))) Try.underlying34 rfl (HI3.out)) hS0.out ?_
  simp only [Act.put, List.setIfInBounds_toArray, List.set_cons_zero, List.set_cons_succ]
  refine wpAnyH_ready (rs := [1, 5]) (by kernel_rfl) (by simp) (AllReadyH.cons (i := 1) (o := { dst := some 33, op := Op.call { callee := Callee.value (Operand.func 29), args := #[Operand.const (Value.int IntKind.i64 5)], argTypes := #[3] }, type := 34, pos := "law.go:21", after := #[], guard := none }) rfl ?_ (AllReadyH.cons (i := 5) (o := { dst := some 37, op := Op.buildSlice 36 1 #[(0, Operand.const (Value.string { data := #[100] }))], type := 36, pos := "law.go:21", after := #[], guard := none }) rfl ?_ AllReadyH.nil))
  · intro K1 hK1
    rw [if_pos (by rfl)]
    have HC1 := HIDU.out V0
    go_wp2_with fail
    refine HC1.mono ?_
    rintro e V1 ⟨rfl, hb1⟩
    dsimp only
    clear HC1
    have hS1 : Hid (Keep (fun k => k ∈ G.bl p) A V1) := (hS0.out).trans (Keep.below (S := fun _ => False) hb1) (fun _ h _ => h.elim)
    have hX1 : Hid (GAt V1 p G ∧ True) := ⟨(hX0.out).below hb1, trivial⟩
    clear hb1
    refine hK1.out _ _ hS1.out ?_
    clear hK1
    intro _
    try simp only [Act.put, List.setIfInBounds_toArray, List.set_cons_zero, List.set_cons_succ]
    refine wpAnyH_ready (rs := [3, 5]) (by kernel_rfl) (by simp) (AllReadyH.cons (i := 3) (o := { dst := some 35, op := Op.call { callee := Callee.value (Operand.func 29), args := #[Operand.const (Value.int IntKind.i64 8)], argTypes := #[3] }, type := 34, pos := "law.go:21", after := #[{ on := 1, ground := Ground.chain }], guard := none }) rfl ?_ (AllReadyH.cons (i := 5) (o := { dst := some 37, op := Op.buildSlice 36 1 #[(0, Operand.const (Value.string { data := #[100] }))], type := 36, pos := "law.go:21", after := #[], guard := none }) rfl ?_ AllReadyH.nil))
    · intro K1 hK1
      rw [if_pos (by rfl)]
      have HC2 := HIDX.out V1
      go_wp2_with fail
      refine HC2.mono ?_
      rintro e V2 ⟨rfl, hb2⟩
      dsimp only
      clear HC2
      have hS2 : Hid (Keep (fun k => k ∈ G.bl p) A V2) := (hS1.out).trans (Keep.below (S := fun _ => False) hb2) (fun _ h _ => h.elim)
      have hX2 : Hid (GAt V2 p G ∧ True) := ⟨(hX1.out.1).below hb2, trivial⟩
      clear hb2
      refine hK1.out _ _ hS2.out ?_
      clear hK1
      intro _
      try simp only [Act.put, List.setIfInBounds_toArray, List.set_cons_zero, List.set_cons_succ]
      refine wpAnyH_ready (rs := [4, 5]) (by kernel_rfl) (by simp) (AllReadyH.cons (i := 4) (o := { dst := some 36, op := Op.buildSlice 35 1 #[(0, Operand.tmp 35)], type := 35, pos := "law.go:21", after := #[{ on := 3, ground := Ground.data }], guard := none }) rfl ?_ (AllReadyH.cons (i := 5) (o := { dst := some 37, op := Op.buildSlice 36 1 #[(0, Operand.const (Value.string { data := #[100] }))], type := 36, pos := "law.go:21", after := #[], guard := none }) rfl ?_ AllReadyH.nil))
      · intro K1 hK1
        refine step_bs1 (by rfl) _ rfl x HV.out.1 (by rw [HXC.out]; rfl) ?_
        obtain ⟨V3, hv3⟩ : ∃ V, V2.alloc (.cells x.cells.toArray 34) = V := ⟨_, rfl⟩
        obtain ⟨r1, hr3⟩ : ∃ m, V2.heap.size = m := ⟨_, rfl⟩
        have hb3 : Below V2.heap.size V2 V3 := by rw [← hv3]; exact below_al _ _
        have hS3 : Hid (Keep (fun k => k ∈ G.bl p) A V3) := (hS2.out).trans (Keep.below (S := fun _ => False) hb3) (fun _ h _ => h.elim)
        have hX3 : Hid (GAt V3 p G ∧ True) := ⟨(hX2.out.1).below hb3, trivial⟩
        have hR3 : Hid (VsR V3 (some ⟨r1, 0, none⟩) 1 [x]) := by
          show VsR _ _ _ _
          rw [← hv3, ← hr3]
          exact VsR.one _ _ HV.out
        rw [hv3, hr3]
        clear hv3 hr3 hb3
        refine hK1.out _ _ hS3.out ?_
        clear hK1
        intro _
        try simp only [Act.put, List.setIfInBounds_toArray, List.set_cons_zero, List.set_cons_succ]
        refine wpAnyH_ready (rs := [5]) (by kernel_rfl) (by simp) (AllReadyH.cons (i := 5) (o := { dst := some 37, op := Op.buildSlice 36 1 #[(0, Operand.const (Value.string { data := #[100] }))], type := 36, pos := "law.go:21", after := #[], guard := none }) rfl ?_ AllReadyH.nil)
        · intro K1 hK1
          refine step_bs9 (by rfl) _ rfl s HS.out ?_
          obtain ⟨V4, hv4⟩ : ∃ V, V3.alloc (.cells [Value.string s].toArray 9) = V := ⟨_, rfl⟩
          obtain ⟨r2, hr4⟩ : ∃ m, V3.heap.size = m := ⟨_, rfl⟩
          have hb4 : Below V3.heap.size V3 V4 := by rw [← hv4]; exact below_al _ _
          have hS4 : Hid (Keep (fun k => k ∈ G.bl p) A V4) := (hS3.out).trans (Keep.below (S := fun _ => False) hb4) (fun _ h _ => h.elim)
          have hX4 : Hid (GAt V4 p G ∧ VsR V4 (some ⟨r1, 0, none⟩) 1 [x] ∧ True) := ⟨(hX3.out.1).below hb4, (hR3.out).below hb4, trivial⟩
          have hR4 : Hid (TsR V4 (some ⟨r2, 0, none⟩) 1 [s]) := by
            show TsR _ _ _ _
            rw [← hv4, ← hr4]
            exact TsR.one _ _
          rw [hv4, hr4]
          clear hv4 hr4 hb4
          refine hK1.out _ _ hS4.out ?_
          clear hK1
          intro _
          try simp only [Act.put, List.setIfInBounds_toArray, List.set_cons_zero, List.set_cons_succ]
          refine wpAnyH_ready (rs := [6]) (by kernel_rfl) (by simp) (AllReadyH.cons (i := 6) (o := { dst := some 38, op := Op.call { callee := Callee.value (Operand.func 22), args := #[Operand.tmp 32, Operand.tmp 33, Operand.tmp 34, Operand.tmp 36, Operand.tmp 37], argTypes := #[25, 34, 34, 35, 36] }, type := 40, pos := "law.go:21", after := #[{ on := 0, ground := Ground.data }, { on := 1, ground := Ground.data }, { on := 2, ground := Ground.data }, { on := 4, ground := Ground.data }, { on := 5, ground := Ground.data }, { on := 3, ground := Ground.chain }], guard := none }) rfl ?_ AllReadyH.nil)
          · intro K1 hK1
            rw [if_pos (by rfl)]
            have HC5 := HADD.out V4 r1 r2 (hX4.out.1) (hX4.out.2.1) (hR4.out)
            go_wp2_with fail
            refine HC5.mono ?_
            rintro e V5 ⟨rfl, G', hga5, hps5⟩
            dsimp only
            clear HC5
            have hS5 : Hid (Keep (fun k => k ∈ G.bl p) A V5) := (hS4.out).trans hga5.2.2 (fun _ h _ => h)
            have hX5 : Hid (GAt V5 p G' ∧ G'.ps = PS ∧ ∀ k ∈ G'.bl p, k ∈ G.bl p ∨ A.heap.size ≤ k) := ⟨hga5.1, hps5, fun k hk => (hga5.2.1 k hk).imp id (fun h => Nat.le_trans (hS4.out).size h)⟩
            clear hga5 hps5
            refine hK1.out _ _ hS5.out ?_
            clear hK1
            intro _
            try simp only [Act.put, List.setIfInBounds_toArray, List.set_cons_zero, List.set_cons_succ]
            refine wpAnyH_take (i := 7) (oi := { dst := some 7, op := Op.assign (Operand.tmp 38), type := 40, pos := "law.go:21", after := #[{ on := 6, ground := Ground.data }, { on := 6, ground := Ground.chain }, { on := 0, ground := Ground.phase }, { on := 1, ground := Ground.phase }, { on := 2, ground := Ground.phase }, { on := 3, ground := Ground.phase }, { on := 4, ground := Ground.phase }, { on := 5, ground := Ground.phase }, { on := 6, ground := Ground.phase }], guard := none }) (v := iv 0) rfl (by kernel_rfl) (by kernel_rfl) (by kernel_rfl) (fun _ _ _ h => h.elim) (Or.inl ⟨by rfl, ?y2⟩) hS5.out ?_
            case y2 =>
              intro V hV
              go_simp
            simp only [Act.put, List.setIfInBounds_toArray, List.set_cons_zero, List.set_cons_succ]
            refine wpAnyH_done (by kernel_rfl) ?_ _
            exact hQ V5 r1 r2 G' hS5.out hX5.out
      · intro K1 hK1
        refine step_bs9 (by rfl) _ rfl s HS.out ?_
        obtain ⟨V3, hv3⟩ : ∃ V, V2.alloc (.cells [Value.string s].toArray 9) = V := ⟨_, rfl⟩
        obtain ⟨r2, hr3⟩ : ∃ m, V2.heap.size = m := ⟨_, rfl⟩
        have hb3 : Below V2.heap.size V2 V3 := by rw [← hv3]; exact below_al _ _
        have hS3 : Hid (Keep (fun k => k ∈ G.bl p) A V3) := (hS2.out).trans (Keep.below (S := fun _ => False) hb3) (fun _ h _ => h.elim)
        have hX3 : Hid (GAt V3 p G ∧ True) := ⟨(hX2.out.1).below hb3, trivial⟩
        have hR3 : Hid (TsR V3 (some ⟨r2, 0, none⟩) 1 [s]) := by
          show TsR _ _ _ _
          rw [← hv3, ← hr3]
          exact TsR.one _ _
        rw [hv3, hr3]
        clear hv3 hr3 hb3
        refine hK1.out _ _ hS3.out ?_
        clear hK1
        intro _
        try simp only [Act.put, List.setIfInBounds_toArray, List.set_cons_zero, List.set_cons_succ]
        refine wpAnyH_ready (rs := [4]) (by kernel_rfl) (by simp) (AllReadyH.cons (i := 4) (o := { dst := some 36, op := Op.buildSlice 35 1 #[(0, Operand.tmp 35)], type := 35, pos := "law.go:21", after := #[{ on := 3, ground := Ground.data }], guard := none }) rfl ?_ AllReadyH.nil)
        · intro K1 hK1
          refine step_bs1 (by rfl) _ rfl x HV.out.1 (by rw [HXC.out]; rfl) ?_
          obtain ⟨V4, hv4⟩ : ∃ V, V3.alloc (.cells x.cells.toArray 34) = V := ⟨_, rfl⟩
          obtain ⟨r1, hr4⟩ : ∃ m, V3.heap.size = m := ⟨_, rfl⟩
          have hb4 : Below V3.heap.size V3 V4 := by rw [← hv4]; exact below_al _ _
          have hS4 : Hid (Keep (fun k => k ∈ G.bl p) A V4) := (hS3.out).trans (Keep.below (S := fun _ => False) hb4) (fun _ h _ => h.elim)
          have hX4 : Hid (GAt V4 p G ∧ TsR V4 (some ⟨r2, 0, none⟩) 1 [s] ∧ True) := ⟨(hX3.out.1).below hb4, (hR3.out).below hb4, trivial⟩
          have hR4 : Hid (VsR V4 (some ⟨r1, 0, none⟩) 1 [x]) := by
            show VsR _ _ _ _
            rw [← hv4, ← hr4]
            exact VsR.one _ _ HV.out
          rw [hv4, hr4]
          clear hv4 hr4 hb4
          refine hK1.out _ _ hS4.out ?_
          clear hK1
          intro _
          try simp only [Act.put, List.setIfInBounds_toArray, List.set_cons_zero, List.set_cons_succ]
          refine wpAnyH_ready (rs := [6]) (by kernel_rfl) (by simp) (AllReadyH.cons (i := 6) (o := { dst := some 38, op := Op.call { callee := Callee.value (Operand.func 22), args := #[Operand.tmp 32, Operand.tmp 33, Operand.tmp 34, Operand.tmp 36, Operand.tmp 37], argTypes := #[25, 34, 34, 35, 36] }, type := 40, pos := "law.go:21", after := #[{ on := 0, ground := Ground.data }, { on := 1, ground := Ground.data }, { on := 2, ground := Ground.data }, { on := 4, ground := Ground.data }, { on := 5, ground := Ground.data }, { on := 3, ground := Ground.chain }], guard := none }) rfl ?_ AllReadyH.nil)
          · intro K1 hK1
            rw [if_pos (by rfl)]
            have HC5 := HADD.out V4 r1 r2 (hX4.out.1) (hR4.out) (hX4.out.2.1)
            go_wp2_with fail
            refine HC5.mono ?_
            rintro e V5 ⟨rfl, G', hga5, hps5⟩
            dsimp only
            clear HC5
            have hS5 : Hid (Keep (fun k => k ∈ G.bl p) A V5) := (hS4.out).trans hga5.2.2 (fun _ h _ => h)
            have hX5 : Hid (GAt V5 p G' ∧ G'.ps = PS ∧ ∀ k ∈ G'.bl p, k ∈ G.bl p ∨ A.heap.size ≤ k) := ⟨hga5.1, hps5, fun k hk => (hga5.2.1 k hk).imp id (fun h => Nat.le_trans (hS4.out).size h)⟩
            clear hga5 hps5
            refine hK1.out _ _ hS5.out ?_
            clear hK1
            intro _
            try simp only [Act.put, List.setIfInBounds_toArray, List.set_cons_zero, List.set_cons_succ]
            refine wpAnyH_take (i := 7) (oi := { dst := some 7, op := Op.assign (Operand.tmp 38), type := 40, pos := "law.go:21", after := #[{ on := 6, ground := Ground.data }, { on := 6, ground := Ground.chain }, { on := 0, ground := Ground.phase }, { on := 1, ground := Ground.phase }, { on := 2, ground := Ground.phase }, { on := 3, ground := Ground.phase }, { on := 4, ground := Ground.phase }, { on := 5, ground := Ground.phase }, { on := 6, ground := Ground.phase }], guard := none }) (v := iv 0) rfl (by kernel_rfl) (by kernel_rfl) (by kernel_rfl) (fun _ _ _ h => h.elim) (Or.inl ⟨by rfl, ?y3⟩) hS5.out ?_
            case y3 =>
              intro V hV
              go_simp
            simp only [Act.put, List.setIfInBounds_toArray, List.set_cons_zero, List.set_cons_succ]
            refine wpAnyH_done (by kernel_rfl) ?_ _
            exact hQ V5 r1 r2 G' hS5.out hX5.out
    · intro K1 hK1
      refine step_bs9 (by rfl) _ rfl s HS.out ?_
      obtain ⟨V2, hv2⟩ : ∃ V, V1.alloc (.cells [Value.string s].toArray 9) = V := ⟨_, rfl⟩
      obtain ⟨r2, hr2⟩ : ∃ m, V1.heap.size = m := ⟨_, rfl⟩
      have hb2 : Below V1.heap.size V1 V2 := by rw [← hv2]; exact below_al _ _
      have hS2 : Hid (Keep (fun k => k ∈ G.bl p) A V2) := (hS1.out).trans (Keep.below (S := fun _ => False) hb2) (fun _ h _ => h.elim)
      have hX2 : Hid (GAt V2 p G ∧ True) := ⟨(hX1.out.1).below hb2, trivial⟩
      have hR2 : Hid (TsR V2 (some ⟨r2, 0, none⟩) 1 [s]) := by
        show TsR _ _ _ _
        rw [← hv2, ← hr2]
        exact TsR.one _ _
      rw [hv2, hr2]
      clear hv2 hr2 hb2
      refine hK1.out _ _ hS2.out ?_
      clear hK1
      intro _
      try simp only [Act.put, List.setIfInBounds_toArray, List.set_cons_zero, List.set_cons_succ]
      refine wpAnyH_ready (rs := [3]) (by kernel_rfl) (by simp) (AllReadyH.cons (i := 3) (o := { dst := some 35, op := Op.call { callee := Callee.value (Operand.func 29), args := #[Operand.const (Value.int IntKind.i64 8)], argTypes := #[3] }, type := 34, pos := "law.go:21", after := #[{ on := 1, ground := Ground.chain }], guard := none }) rfl ?_ AllReadyH.nil)
      · intro K1 hK1
        rw [if_pos (by rfl)]
        have HC3 := HIDX.out V2
        go_wp2_with fail
        refine HC3.mono ?_
        rintro e V3 ⟨rfl, hb3⟩
        dsimp only
        clear HC3
        have hS3 : Hid (Keep (fun k => k ∈ G.bl p) A V3) := (hS2.out).trans (Keep.below (S := fun _ => False) hb3) (fun _ h _ => h.elim)
        have hX3 : Hid (GAt V3 p G ∧ TsR V3 (some ⟨r2, 0, none⟩) 1 [s] ∧ True) := ⟨(hX2.out.1).below hb3, (hR2.out).below hb3, trivial⟩
        clear hb3
        refine hK1.out _ _ hS3.out ?_
        clear hK1
        intro _
        try simp only [Act.put, List.setIfInBounds_toArray, List.set_cons_zero, List.set_cons_succ]
        refine wpAnyH_ready (rs := [4]) (by kernel_rfl) (by simp) (AllReadyH.cons (i := 4) (o := { dst := some 36, op := Op.buildSlice 35 1 #[(0, Operand.tmp 35)], type := 35, pos := "law.go:21", after := #[{ on := 3, ground := Ground.data }], guard := none }) rfl ?_ AllReadyH.nil)
        · intro K1 hK1
          refine step_bs1 (by rfl) _ rfl x HV.out.1 (by rw [HXC.out]; rfl) ?_
          obtain ⟨V4, hv4⟩ : ∃ V, V3.alloc (.cells x.cells.toArray 34) = V := ⟨_, rfl⟩
          obtain ⟨r1, hr4⟩ : ∃ m, V3.heap.size = m := ⟨_, rfl⟩
          have hb4 : Below V3.heap.size V3 V4 := by rw [← hv4]; exact below_al _ _
          have hS4 : Hid (Keep (fun k => k ∈ G.bl p) A V4) := (hS3.out).trans (Keep.below (S := fun _ => False) hb4) (fun _ h _ => h.elim)
          have hX4 : Hid (GAt V4 p G ∧ TsR V4 (some ⟨r2, 0, none⟩) 1 [s] ∧ True) := ⟨(hX3.out.1).below hb4, (hX3.out.2.1).below hb4, trivial⟩
          have hR4 : Hid (VsR V4 (some ⟨r1, 0, none⟩) 1 [x]) := by
            show VsR _ _ _ _
            rw [← hv4, ← hr4]
            exact VsR.one _ _ HV.out
          rw [hv4, hr4]
          clear hv4 hr4 hb4
          refine hK1.out _ _ hS4.out ?_
          clear hK1
          intro _
          try simp only [Act.put, List.setIfInBounds_toArray, List.set_cons_zero, List.set_cons_succ]
          refine wpAnyH_ready (rs := [6]) (by kernel_rfl) (by simp) (AllReadyH.cons (i := 6) (o := { dst := some 38, op := Op.call { callee := Callee.value (Operand.func 22), args := #[Operand.tmp 32, Operand.tmp 33, Operand.tmp 34, Operand.tmp 36, Operand.tmp 37], argTypes := #[25, 34, 34, 35, 36] }, type := 40, pos := "law.go:21", after := #[{ on := 0, ground := Ground.data }, { on := 1, ground := Ground.data }, { on := 2, ground := Ground.data }, { on := 4, ground := Ground.data }, { on := 5, ground := Ground.data }, { on := 3, ground := Ground.chain }], guard := none }) rfl ?_ AllReadyH.nil)
          · intro K1 hK1
            rw [if_pos (by rfl)]
            have HC5 := HADD.out V4 r1 r2 (hX4.out.1) (hR4.out) (hX4.out.2.1)
            go_wp2_with fail
            refine HC5.mono ?_
            rintro e V5 ⟨rfl, G', hga5, hps5⟩
            dsimp only
            clear HC5
            have hS5 : Hid (Keep (fun k => k ∈ G.bl p) A V5) := (hS4.out).trans hga5.2.2 (fun _ h _ => h)
            have hX5 : Hid (GAt V5 p G' ∧ G'.ps = PS ∧ ∀ k ∈ G'.bl p, k ∈ G.bl p ∨ A.heap.size ≤ k) := ⟨hga5.1, hps5, fun k hk => (hga5.2.1 k hk).imp id (fun h => Nat.le_trans (hS4.out).size h)⟩
            clear hga5 hps5
            refine hK1.out _ _ hS5.out ?_
            clear hK1
            intro _
            try simp only [Act.put, List.setIfInBounds_toArray, List.set_cons_zero, List.set_cons_succ]
            refine wpAnyH_take (i := 7) (oi := { dst := some 7, op := Op.assign (Operand.tmp 38), type := 40, pos := "law.go:21", after := #[{ on := 6, ground := Ground.data }, { on := 6, ground := Ground.chain }, { on := 0, ground := Ground.phase }, { on := 1, ground := Ground.phase }, { on := 2, ground := Ground.phase }, { on := 3, ground := Ground.phase }, { on := 4, ground := Ground.phase }, { on := 5, ground := Ground.phase }, { on := 6, ground := Ground.phase }], guard := none }) (v := iv 0) rfl (by kernel_rfl) (by kernel_rfl) (by kernel_rfl) (fun _ _ _ h => h.elim) (Or.inl ⟨by rfl, ?y4⟩) hS5.out ?_
            case y4 =>
              intro V hV
              go_simp
            simp only [Act.put, List.setIfInBounds_toArray, List.set_cons_zero, List.set_cons_succ]
            refine wpAnyH_done (by kernel_rfl) ?_ _
            exact hQ V5 r1 r2 G' hS5.out hX5.out
  · intro K1 hK1
    refine step_bs9 (by rfl) _ rfl s HS.out ?_
    obtain ⟨V1, hv1⟩ : ∃ V, V0.alloc (.cells [Value.string s].toArray 9) = V := ⟨_, rfl⟩
    obtain ⟨r2, hr1⟩ : ∃ m, V0.heap.size = m := ⟨_, rfl⟩
    have hb1 : Below V0.heap.size V0 V1 := by rw [← hv1]; exact below_al _ _
    have hS1 : Hid (Keep (fun k => k ∈ G.bl p) A V1) := (hS0.out).trans (Keep.below (S := fun _ => False) hb1) (fun _ h _ => h.elim)
    have hX1 : Hid (GAt V1 p G ∧ True) := ⟨(hX0.out).below hb1, trivial⟩
    have hR1 : Hid (TsR V1 (some ⟨r2, 0, none⟩) 1 [s]) := by
      show TsR _ _ _ _
      rw [← hv1, ← hr1]
      exact TsR.one _ _
    rw [hv1, hr1]
    clear hv1 hr1 hb1
    refine hK1.out _ _ hS1.out ?_
    clear hK1
    intro _
    try simp only [Act.put, List.setIfInBounds_toArray, List.set_cons_zero, List.set_cons_succ]
    refine wpAnyH_ready (rs := [1]) (by kernel_rfl) (by simp) (AllReadyH.cons (i := 1) (o := { dst := some 33, op := Op.call { callee := Callee.value (Operand.func 29), args := #[Operand.const (Value.int IntKind.i64 5)], argTypes := #[3] }, type := 34, pos := "law.go:21", after := #[], guard := none }) rfl ?_ AllReadyH.nil)
    · intro K1 hK1
      rw [if_pos (by rfl)]
      have HC2 := HIDU.out V1
      go_wp2_with fail
      refine HC2.mono ?_
      rintro e V2 ⟨rfl, hb2⟩
      dsimp only
      clear HC2
      have hS2 : Hid (Keep (fun k => k ∈ G.bl p) A V2) := (hS1.out).trans (Keep.below (S := fun _ => False) hb2) (fun _ h _ => h.elim)
      have hX2 : Hid (GAt V2 p G ∧ TsR V2 (some ⟨r2, 0, none⟩) 1 [s] ∧ True) := ⟨(hX1.out.1).below hb2, (hR1.out).below hb2, trivial⟩
      clear hb2
      refine hK1.out _ _ hS2.out ?_
      clear hK1
      intro _
      try simp only [Act.put, List.setIfInBounds_toArray, List.set_cons_zero, List.set_cons_succ]
      refine wpAnyH_ready (rs := [3]) (by kernel_rfl) (by simp) (AllReadyH.cons (i := 3) (o := { dst := some 35, op := Op.call { callee := Callee.value (Operand.func 29), args := #[Operand.const (Value.int IntKind.i64 8)], argTypes := #[3] }, type := 34, pos := "law.go:21", after := #[{ on := 1, ground := Ground.chain }], guard := none }) rfl ?_ AllReadyH.nil)
      · intro K1 hK1
        rw [if_pos (by rfl)]
        have HC3 := HIDX.out V2
        go_wp2_with fail
        refine HC3.mono ?_
        rintro e V3 ⟨rfl, hb3⟩
        dsimp only
        clear HC3
        have hS3 : Hid (Keep (fun k => k ∈ G.bl p) A V3) := (hS2.out).trans (Keep.below (S := fun _ => False) hb3) (fun _ h _ => h.elim)
        have hX3 : Hid (GAt V3 p G ∧ TsR V3 (some ⟨r2, 0, none⟩) 1 [s] ∧ True) := ⟨(hX2.out.1).below hb3, (hX2.out.2.1).below hb3, trivial⟩
        clear hb3
        refine hK1.out _ _ hS3.out ?_
        clear hK1
        intro _
        try simp only [Act.put, List.setIfInBounds_toArray, List.set_cons_zero, List.set_cons_succ]
        refine wpAnyH_ready (rs := [4]) (by kernel_rfl) (by simp) (AllReadyH.cons (i := 4) (o := { dst := some 36, op := Op.buildSlice 35 1 #[(0, Operand.tmp 35)], type := 35, pos := "law.go:21", after := #[{ on := 3, ground := Ground.data }], guard := none }) rfl ?_ AllReadyH.nil)
        · intro K1 hK1
          refine step_bs1 (by rfl) _ rfl x HV.out.1 (by rw [HXC.out]; rfl) ?_
          obtain ⟨V4, hv4⟩ : ∃ V, V3.alloc (.cells x.cells.toArray 34) = V := ⟨_, rfl⟩
          obtain ⟨r1, hr4⟩ : ∃ m, V3.heap.size = m := ⟨_, rfl⟩
          have hb4 : Below V3.heap.size V3 V4 := by rw [← hv4]; exact below_al _ _
          have hS4 : Hid (Keep (fun k => k ∈ G.bl p) A V4) := (hS3.out).trans (Keep.below (S := fun _ => False) hb4) (fun _ h _ => h.elim)
          have hX4 : Hid (GAt V4 p G ∧ TsR V4 (some ⟨r2, 0, none⟩) 1 [s] ∧ True) := ⟨(hX3.out.1).below hb4, (hX3.out.2.1).below hb4, trivial⟩
          have hR4 : Hid (VsR V4 (some ⟨r1, 0, none⟩) 1 [x]) := by
            show VsR _ _ _ _
            rw [← hv4, ← hr4]
            exact VsR.one _ _ HV.out
          rw [hv4, hr4]
          clear hv4 hr4 hb4
          refine hK1.out _ _ hS4.out ?_
          clear hK1
          intro _
          try simp only [Act.put, List.setIfInBounds_toArray, List.set_cons_zero, List.set_cons_succ]
          refine wpAnyH_ready (rs := [6]) (by kernel_rfl) (by simp) (AllReadyH.cons (i := 6) (o := { dst := some 38, op := Op.call { callee := Callee.value (Operand.func 22), args := #[Operand.tmp 32, Operand.tmp 33, Operand.tmp 34, Operand.tmp 36, Operand.tmp 37], argTypes := #[25, 34, 34, 35, 36] }, type := 40, pos := "law.go:21", after := #[{ on := 0, ground := Ground.data }, { on := 1, ground := Ground.data }, { on := 2, ground := Ground.data }, { on := 4, ground := Ground.data }, { on := 5, ground := Ground.data }, { on := 3, ground := Ground.chain }], guard := none }) rfl ?_ AllReadyH.nil)
          · intro K1 hK1
            rw [if_pos (by rfl)]
            have HC5 := HADD.out V4 r1 r2 (hX4.out.1) (hR4.out) (hX4.out.2.1)
            go_wp2_with fail
            refine HC5.mono ?_
            rintro e V5 ⟨rfl, G', hga5, hps5⟩
            dsimp only
            clear HC5
            have hS5 : Hid (Keep (fun k => k ∈ G.bl p) A V5) := (hS4.out).trans hga5.2.2 (fun _ h _ => h)
            have hX5 : Hid (GAt V5 p G' ∧ G'.ps = PS ∧ ∀ k ∈ G'.bl p, k ∈ G.bl p ∨ A.heap.size ≤ k) := ⟨hga5.1, hps5, fun k hk => (hga5.2.1 k hk).imp id (fun h => Nat.le_trans (hS4.out).size h)⟩
            clear hga5 hps5
            refine hK1.out _ _ hS5.out ?_
            clear hK1
            intro _
            try simp only [Act.put, List.setIfInBounds_toArray, List.set_cons_zero, List.set_cons_succ]
            refine wpAnyH_take (i := 7) (oi := { dst := some 7, op := Op.assign (Operand.tmp 38), type := 40, pos := "law.go:21", after := #[{ on := 6, ground := Ground.data }, { on := 6, ground := Ground.chain }, { on := 0, ground := Ground.phase }, { on := 1, ground := Ground.phase }, { on := 2, ground := Ground.phase }, { on := 3, ground := Ground.phase }, { on := 4, ground := Ground.phase }, { on := 5, ground := Ground.phase }, { on := 6, ground := Ground.phase }], guard := none }) (v := iv 0) rfl (by kernel_rfl) (by kernel_rfl) (by kernel_rfl) (fun _ _ _ h => h.elim) (Or.inl ⟨by rfl, ?y5⟩) hS5.out ?_
            case y5 =>
              intro V hV
              go_simp
            simp only [Act.put, List.setIfInBounds_toArray, List.set_cons_zero, List.set_cons_succ]
            refine wpAnyH_done (by kernel_rfl) ?_ _
            exact hQ V5 r1 r2 G' hS5.out hX5.out
end Go.Proofs.Ytjcihaohpbmogaa.Oct
