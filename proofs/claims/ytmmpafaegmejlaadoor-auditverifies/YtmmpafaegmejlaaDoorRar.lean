/-
  Layer 19 (audit): the reference's Append: its drawn region.
-/
import Derived.Test.YtmmpafaegmejlaaDoorRdg
namespace Go.Proofs.YtmmpafaegmejlaaDoor.Oct
open Go.RowKit Sha
set_option linter.unusedSimpArgs false
set_option linter.unusedVariables false

theorem gr_own {A W W' : World} {r : Nat} {g : Option Nat} (h : A.grownBy W (some r)) (k : W.grownBy W' g) (hg : ∀ j, g = some j → A.heap.size ≤ j) : A.grownBy W' (some r) :=
  ⟨k.os.trans h.os, k.tape.trans h.tape, k.output.trans h.output, Nat.le_trans h.size k.size, fun j hj hn => (k.block j (Nat.lt_of_lt_of_le hj h.size) (fun e => by have := hg j e.symm; omega)).trans (h.block j hj hn)⟩
theorem EsR.gr {w w' : World} {b m c : Nat} {l : List En} {g : Option Nat} (h : EsR w (.slice (some ⟨b, 0, none⟩) m c) l) (k : w.grownBy w' g) (hg : some b ≠ g) : EsR w' (.slice (some ⟨b, 0, none⟩) m c) l := by
  obtain ⟨h1, a, cap, h2, h3, h4, h5⟩ := h
  cases h2
  refine ⟨h1, _, _, rfl, h3, h4, fun hp => ?_⟩
  obtain ⟨b', off, e1, e2, e3⟩ := h5 hp
  cases e1
  exact ⟨_, _, rfl, Nat.lt_of_lt_of_le e2 k.size, fun i e he => rangeAt_same (e3 i e he) (k.block _ e2 hg)⟩
theorem step_bs0 {ops : Array Oper} {o : Oper} {a : Act} {w : World} {K : Act → World → Prop} {Q : Exit → Act → World → Prop} {E : Prop} (hw : Region.wanted o (yielded ops a.tmps) = true) (t : TypeId) (hop : o.op = .buildSlice t 0 #[]) {v : Value} {w' : World} (hrun : (Instr.buildSlice t 0 #[]).run Tryd.prog w = .ok v w')
    (hk : K (a.put o.dst v) w') : if Region.wanted o (yielded ops a.tmps) = true then Oper.wp Tryd.prog o a w K Q else E := by
  rw [if_pos hw]
  unfold Oper.wp execOp
  simp [hop, hrun, Result.andThen]
  exact hk
set_option maxRecDepth 100000 in
set_option maxHeartbeats 4000000 in
theorem ra6 {Q : Exit → Act → World → Prop} {x1 x2 x3 x4 x5 x6 x7 x8 x10 x12 x13 x14 x15 x16 x17 x18 x19 x20 x21 x22 x23 x24 x25 x26 x27 x28 x29 x30 x31 x32 x33 x34 x35 x36 x37 x38 x39 x40 x41 x42 x43 x44 x45 x46 x47 x48 x49 x50 x51 x52 x53 x54 x55 x56 x57 x58 x59 x60 x61 x62 x63 x64 x65 x66 : Value} {ds : List Deferred} {A : World} {a : Option Addr} {n cap q r : Nat} {x : En} {l : List En} {Z : List Value}
    (HL : Hid (q < A.heap.size ∧ some q ≠ some r)) (HR : Hid (A.rangeAt q 0 x.cells)) (HX : Hid (x.ok ∧ Z.length = x.cells.length)) (HZ : Hid (Blk A r 37 Z)) (HRL : Hid (r < A.heap.size)) (HN : Hid (l.length ≤ 5000)) (HES : Hid (∀ V, A.grownBy V (some r) → EsR V (.slice a n cap) l))
    (hQ : ∀ (V1 : World) (q0 : Nat) (v2 : Value) (q4 : Nat) (v5 : Value), Blk V1 r 37 x.cells → OwE V1 A.heap.size v5 (l ++ [x]) → A.grownBy V1 (some r) → Q .normal { tmps := #[.slice a n cap, x1, x2, x3, x4, x5, x6, x7, v5, .pointer (some ⟨r, 0, none⟩), iv 0, .pointer (some ⟨q, 0, none⟩), x12, x13, x14, x15, x16, x17, x18, x19, x20, x21, x22, x23, x24, x25, x26, x27, x28, x29, x30, x31, x32, x33, x34, x35, x36, x37, x38, x39, x40, x41, x42, x43, x44, x45, x46, x47, x48, x49, x50, x51, x52, x53, x54, x55, x56, x57, x58, x59, .slice (some ⟨q0, 0, none⟩) 0 0, .slice a n cap, v2, .agg x.cells.toArray, .slice (some ⟨q4, 0, none⟩) 1 1, v5, .agg x.cells.toArray], defers := ds } V1) :
    (Code.region 6 #[{ dst := some 60, op := Op.buildSlice 27 0 #[], type := 27, pos := "ref.go:71", after := #[], guard := none }, { dst := some 61, op := Op.move (Operand.tmp 0), type := 27, pos := "ref.go:71", after := #[], guard := none }, { dst := some 62, op := Op.call { callee := Callee.builtin Builtin.append, args := #[Operand.tmp 60, Operand.tmp 61], argTypes := #[27, 27] }, type := 27, pos := "ref.go:71", after := #[{ on := 0, ground := Ground.data }, { on := 1, ground := Ground.data }], guard := none }, { dst := some 63, op := Op.load 37 (Operand.tmp 11), type := 37, pos := "ref.go:71", after := #[], guard := none }, { dst := some 64, op := Op.buildSlice 27 1 #[(0, Operand.tmp 63)], type := 27, pos := "ref.go:71", after := #[{ on := 3, ground := Ground.data }], guard := none }, { dst := some 65, op := Op.call { callee := Callee.builtin Builtin.append, args := #[Operand.tmp 62, Operand.tmp 64], argTypes := #[27, 27] }, type := 27, pos := "ref.go:71", after := #[{ on := 2, ground := Ground.data }, { on := 4, ground := Ground.data }, { on := 2, ground := Ground.chain }], guard := none }, { dst := some 66, op := Op.load 37 (Operand.tmp 11), type := 37, pos := "ref.go:71", after := #[{ on := 7, ground := Ground.gcOnly Departure.lateStores }], guard := none }, { dst := some 8, op := Op.assign (Operand.tmp 65), type := 27, pos := "ref.go:71", after := #[{ on := 5, ground := Ground.data }, { on := 5, ground := Ground.chain }, { on := 0, ground := Ground.phase }, { on := 1, ground := Ground.phase }, { on := 2, ground := Ground.phase }, { on := 3, ground := Ground.phase }, { on := 4, ground := Ground.phase }, { on := 5, ground := Ground.phase }, { on := 6, ground := Ground.textOnly Departure.lateStores }], guard := none }, { dst := none, op := Op.store 37 (Operand.tmp 9) (Operand.tmp 66), type := 0, pos := "ref.go:71", after := #[{ on := 6, ground := Ground.data }, { on := 7, ground := Ground.chain }, { on := 0, ground := Ground.phase }, { on := 1, ground := Ground.phase }, { on := 2, ground := Ground.phase }, { on := 3, ground := Ground.phase }, { on := 4, ground := Ground.phase }, { on := 5, ground := Ground.phase }, { on := 6, ground := Ground.phase }, { on := 7, ground := Ground.phase }], guard := none }, { dst := some 10, op := Op.assign (Operand.const (Value.int IntKind.i64 0)), type := 3, pos := "ref.go:71", after := #[{ on := 8, ground := Ground.chain }, { on := 0, ground := Ground.phase }, { on := 1, ground := Ground.phase }, { on := 2, ground := Ground.phase }, { on := 3, ground := Ground.phase }, { on := 4, ground := Ground.phase }, { on := 5, ground := Ground.phase }, { on := 6, ground := Ground.phase }, { on := 7, ground := Ground.phase }, { on := 8, ground := Ground.phase }], guard := none }] true).wp Tryd.prog Q { tmps := #[.slice a n cap, x1, x2, x3, x4, x5, x6, x7, x8, .pointer (some ⟨r, 0, none⟩), x10, .pointer (some ⟨q, 0, none⟩), x12, x13, x14, x15, x16, x17, x18, x19, x20, x21, x22, x23, x24, x25, x26, x27, x28, x29, x30, x31, x32, x33, x34, x35, x36, x37, x38, x39, x40, x41, x42, x43, x44, x45, x46, x47, x48, x49, x50, x51, x52, x53, x54, x55, x56, x57, x58, x59, x60, x61, x62, x63, x64, x65, x66], defers := ds } A := by
  refine Code.wp_mono (Q := fun x a' w' => match x with | .normal => Q .normal a' w' | _ => False) (by intro x a' w' h; cases x <;> first | exact h | exact h.elim) ?_
  refine wp_region_held (S := fun V => A.grownBy V (some r)) (by kernel_rfl) ?_
  have hS0 : Hid (A.grownBy A.drew (some r)) := grown_drewN A 1 _
  change wpAnyH Tryd.prog .any _ _ (fun V => A.grownBy V (some r)) 10 (Array.replicate 10 false) _ A.drew
  obtain ⟨V0, hV0⟩ : ∃ V0, A.drew = V0 := ⟨_, rfl⟩
  rw [hV0]
  rw [hV0] at hS0
  have hZ0 : Hid (Blk V0 r 37 Z) := by rw [← hV0]; exact HZ.out
  clear hV0
  refine wpAnyH_take (i := 1) (oi := { dst := some 61, op := Op.move (Operand.tmp 0), type := 27, pos := "ref.go:71", after := #[], guard := none }) (v := .slice a n cap) rfl (by kernel_rfl) (by kernel_rfl) (by kernel_rfl) (fun _ _ _ h => h.elim) (Or.inl ⟨by rfl, ?y1⟩) hS0.out ?_
  case y1 =>
    intro V hV
    go_simp
  simp only [Act.put, List.setIfInBounds_toArray, List.set_cons_zero, List.set_cons_succ]
  refine wpAnyH_take (i := 3) (oi := { dst := some 63, op := Op.load 37 (Operand.tmp 11), type := 37, pos := "ref.go:71", after := #[], guard := none }) (v := .agg x.cells.toArray) rfl (by kernel_rfl) (by kernel_rfl) (by kernel_rfl) (fun _ _ _ h => h.elim) (yieldsIf_load_mid (by rfl) _ _ rfl _ _ rfl (x.cells) _ (fun V hV => rangeAt_same (HR.out) ((show A.grownBy V (some r) from hV).block _ (HL.out.1) (HL.out.2))) Tryd.underlying37 rfl (info37 HX.out.1)) hS0.out ?_
  simp only [Act.put, List.setIfInBounds_toArray, List.set_cons_zero, List.set_cons_succ]
  refine wpAnyH_take (i := 6) (oi := { dst := some 66, op := Op.load 37 (Operand.tmp 11), type := 37, pos := "ref.go:71", after := #[{ on := 7, ground := Ground.gcOnly Departure.lateStores }], guard := none }) (v := .agg x.cells.toArray) rfl (by kernel_rfl) (by kernel_rfl) (by kernel_rfl) (fun _ _ _ h => h.elim) (yieldsIf_load_mid (by rfl) _ _ rfl _ _ rfl (x.cells) _ (fun V hV => rangeAt_same (HR.out) ((show A.grownBy V (some r) from hV).block _ (HL.out.1) (HL.out.2))) Tryd.underlying37 rfl (info37 HX.out.1)) hS0.out ?_
  simp only [Act.put, List.setIfInBounds_toArray, List.set_cons_zero, List.set_cons_succ]
  refine wpAnyH_ready (rs := [0, 4]) (by kernel_rfl) (by simp) (AllReadyH.cons (i := 0) (o := { dst := some 60, op := Op.buildSlice 27 0 #[], type := 27, pos := "ref.go:71", after := #[], guard := none }) rfl ?_ (AllReadyH.cons (i := 4) (o := { dst := some 64, op := Op.buildSlice 27 1 #[(0, Operand.tmp 63)], type := 27, pos := "ref.go:71", after := #[{ on := 3, ground := Ground.data }], guard := none }) rfl ?_ AllReadyH.nil))
  · intro K1 hK1
    refine step_bs0 (by rfl) 27 rfl (run_bs0 _) ?_
    obtain ⟨V1, hv1⟩ : ∃ V, V0.alloc (.cells #[] 37) = V := ⟨_, rfl⟩
    have hbl1 : Below V0.heap.size V0 V1 := by rw [← hv1]; exact below_al _ _
    have hS1 : Hid (A.grownBy V1 (some r)) := grown_tr hS0.out (gr_below hbl1)
    have hZ1 : Hid (Blk V1 r 37 Z) := hZ0.out.below hbl1 hZ0.out.lt
    obtain ⟨q0, hq1⟩ : ∃ m, V0.heap.size = m := ⟨_, rfl⟩
    have hE1 : Hid (OwE V1 A.heap.size (.slice (some ⟨q0, 0, none⟩) 0 0) []) := by rw [← hv1, ← hq1]; exact (own0 V0).mono hS0.out.size
    rw [hv1, hq1]
    clear hv1 hq1 hbl1
    refine hK1.out _ _ hS1.out ?_
    clear hK1
    intro _
    try simp only [Act.put, List.setIfInBounds_toArray, List.set_cons_zero, List.set_cons_succ]
    refine wpAnyH_ready (rs := [2, 4]) (by kernel_rfl) (by simp) (AllReadyH.cons (i := 2) (o := { dst := some 62, op := Op.call { callee := Callee.builtin Builtin.append, args := #[Operand.tmp 60, Operand.tmp 61], argTypes := #[27, 27] }, type := 27, pos := "ref.go:71", after := #[{ on := 0, ground := Ground.data }, { on := 1, ground := Ground.data }], guard := none }) rfl ?_ (AllReadyH.cons (i := 4) (o := { dst := some 64, op := Op.buildSlice 27 1 #[(0, Operand.tmp 63)], type := 27, pos := "ref.go:71", after := #[{ on := 3, ground := Ground.data }], guard := none }) rfl ?_ AllReadyH.nil))
    · intro K1 hK1
      refine step_app (by rfl) (.tmp 60) (.tmp 61) rfl hE1.out (HES.out V1 hS1.out) (by have := HN.out; simp; omega) hS1.out.size rfl rfl ?_
      intro v2 V2 ho2 hg2 hp2
      have hO2 : Hid (OwE V2 A.heap.size v2 l) := ho2.out
      have hS2 : Hid (A.grownBy V2 (some r)) := gr_own hS1.out hg2.out (fun j hj => (hE1.out.lt hj).1)
      have hZ2 : Hid (Blk V2 r 37 Z) := hZ1.out.kept hg2.out (fun hk => by have := (hE1.out.lt hk.symm).1; have := HRL.out; omega)
      clear ho2 hg2 hp2
      refine hK1.out _ _ hS2.out ?_
      clear hK1
      intro _
      try simp only [Act.put, List.setIfInBounds_toArray, List.set_cons_zero, List.set_cons_succ]
      refine wpAnyH_ready (rs := [4]) (by kernel_rfl) (by simp) (AllReadyH.cons (i := 4) (o := { dst := some 64, op := Op.buildSlice 27 1 #[(0, Operand.tmp 63)], type := 27, pos := "ref.go:71", after := #[{ on := 3, ground := Ground.data }], guard := none }) rfl ?_ AllReadyH.nil)
      · intro K1 hK1
        refine step_bs (by rfl) 27 (.tmp 63) _ rfl rfl (run_bs1 x.cells (En.len HX.out.1) _) ?_
        obtain ⟨V3, hv3⟩ : ∃ V, V2.alloc (.cells x.cells.toArray 37) = V := ⟨_, rfl⟩
        have hbl3 : Below V2.heap.size V2 V3 := by rw [← hv3]; exact below_al _ _
        have hS3 : Hid (A.grownBy V3 (some r)) := grown_tr hS2.out (gr_below hbl3)
        have hZ3 : Hid (Blk V3 r 37 Z) := hZ2.out.below hbl3 hZ2.out.lt
        obtain ⟨q4, hq3⟩ : ∃ m, V2.heap.size = m := ⟨_, rfl⟩
        have hR3 : Hid (EsR V3 (.slice (some ⟨q4, 0, none⟩) 1 1) [x]) := by rw [← hv3, ← hq3]; exact esr_one HX.out.1 (Blk.new V2 _ _).range0 (Blk.new V2 _ _).lt
        have hL3 : Hid (q4 < V3.heap.size) := by show q4 < _; rw [← hv3, ← hq3]; simp
        have hO3 : Hid (OwE V3 A.heap.size v2 l) := hO2.out.below hbl3
        rw [hv3, hq3]
        clear hv3 hq3 hbl3
        refine hK1.out _ _ hS3.out ?_
        clear hK1
        intro _
        try simp only [Act.put, List.setIfInBounds_toArray, List.set_cons_zero, List.set_cons_succ]
        refine wpAnyH_ready (rs := [5]) (by kernel_rfl) (by simp) (AllReadyH.cons (i := 5) (o := { dst := some 65, op := Op.call { callee := Callee.builtin Builtin.append, args := #[Operand.tmp 62, Operand.tmp 64], argTypes := #[27, 27] }, type := 27, pos := "ref.go:71", after := #[{ on := 2, ground := Ground.data }, { on := 4, ground := Ground.data }, { on := 2, ground := Ground.chain }], guard := none }) rfl ?_ AllReadyH.nil)
        · intro K1 hK1
          refine step_app (by rfl) (.tmp 62) (.tmp 64) rfl hO3.out hR3.out (by have := HN.out; simp; omega) hS3.out.size rfl rfl ?_
          intro v5 V4 ho4 hg4 hp4
          have hS4 : Hid (A.grownBy V4 (some r)) := gr_own hS3.out hg4.out (fun j hj => (hO3.out.lt hj).1)
          have hZ4 : Hid (Blk V4 r 37 Z) := hZ3.out.kept hg4.out (fun hk => by have := (hO3.out.lt hk.symm).1; have := HRL.out; omega)
          clear hg4 hp4
          refine hK1.out _ _ hS4.out ?_
          clear hK1
          intro _
          try simp only [Act.put, List.setIfInBounds_toArray, List.set_cons_zero, List.set_cons_succ]
          refine wpAnyH_take (i := 7) (oi := { dst := some 8, op := Op.assign (Operand.tmp 65), type := 27, pos := "ref.go:71", after := #[{ on := 5, ground := Ground.data }, { on := 5, ground := Ground.chain }, { on := 0, ground := Ground.phase }, { on := 1, ground := Ground.phase }, { on := 2, ground := Ground.phase }, { on := 3, ground := Ground.phase }, { on := 4, ground := Ground.phase }, { on := 5, ground := Ground.phase }, { on := 6, ground := Ground.textOnly Departure.lateStores }], guard := none }) (v := v5) rfl (by kernel_rfl) (by kernel_rfl) (by kernel_rfl) (fun _ _ _ h => h.elim) (Or.inl ⟨by rfl, ?y2⟩) hS4.out ?_
          case y2 =>
            intro V hV
            go_simp
          simp only [Act.put, List.setIfInBounds_toArray, List.set_cons_zero, List.set_cons_succ]
          refine wpAnyH_ready (rs := [8]) (by kernel_rfl) (by simp) (AllReadyH.cons (i := 8) (o := { dst := none, op := Op.store 37 (Operand.tmp 9) (Operand.tmp 66), type := 0, pos := "ref.go:71", after := #[{ on := 6, ground := Ground.data }, { on := 7, ground := Ground.chain }, { on := 0, ground := Ground.phase }, { on := 1, ground := Ground.phase }, { on := 2, ground := Ground.phase }, { on := 3, ground := Ground.phase }, { on := 4, ground := Ground.phase }, { on := 5, ground := Ground.phase }, { on := 6, ground := Ground.phase }, { on := 7, ground := Ground.phase }], guard := none }) rfl ?_ AllReadyH.nil)
          · intro K1 hK1
            refine step_stB (by rfl) 37 (.tmp 9) (.tmp 66) rfl r x.cells 37 Z rfl rfl hZ4.out HX.out.2 (info37 HX.out.1) (En.one _) ?_
            intro V5 hX5 hg5
            have hS5 : Hid (A.grownBy V5 (some r)) := grown_tr hS4.out hg5.out
            have hP5 : Hid (OwE V5 A.heap.size v5 (l ++ [x])) := ho4.out.same (fun g hgo => hg5.out.block g (ho4.out.lt hgo).2 (fun hk => by cases hk; have := (ho4.out.lt hgo).1; have := HRL.out; omega))
            clear hg5
            refine hK1.out _ _ hS5.out ?_
            clear hK1
            intro _
            try simp only [Act.put, List.setIfInBounds_toArray, List.set_cons_zero, List.set_cons_succ]
            refine wpAnyH_take (i := 9) (oi := { dst := some 10, op := Op.assign (Operand.const (Value.int IntKind.i64 0)), type := 3, pos := "ref.go:71", after := #[{ on := 8, ground := Ground.chain }, { on := 0, ground := Ground.phase }, { on := 1, ground := Ground.phase }, { on := 2, ground := Ground.phase }, { on := 3, ground := Ground.phase }, { on := 4, ground := Ground.phase }, { on := 5, ground := Ground.phase }, { on := 6, ground := Ground.phase }, { on := 7, ground := Ground.phase }, { on := 8, ground := Ground.phase }], guard := none }) (v := iv 0) rfl (by kernel_rfl) (by kernel_rfl) (by kernel_rfl) (fun _ _ _ h => h.elim) (Or.inl ⟨by rfl, ?y3⟩) hS5.out ?_
            case y3 =>
              intro V hV
              go_simp
            simp only [Act.put, List.setIfInBounds_toArray, List.set_cons_zero, List.set_cons_succ]
            refine wpAnyH_done (by kernel_rfl) ?_ _
            exact hQ V5 _ _ _ _ hX5.out hP5.out hS5.out
    · intro K1 hK1
      refine step_bs (by rfl) 27 (.tmp 63) _ rfl rfl (run_bs1 x.cells (En.len HX.out.1) _) ?_
      obtain ⟨V2, hv2⟩ : ∃ V, V1.alloc (.cells x.cells.toArray 37) = V := ⟨_, rfl⟩
      have hbl2 : Below V1.heap.size V1 V2 := by rw [← hv2]; exact below_al _ _
      have hS2 : Hid (A.grownBy V2 (some r)) := grown_tr hS1.out (gr_below hbl2)
      have hZ2 : Hid (Blk V2 r 37 Z) := hZ1.out.below hbl2 hZ1.out.lt
      obtain ⟨q4, hq2⟩ : ∃ m, V1.heap.size = m := ⟨_, rfl⟩
      have hR2 : Hid (EsR V2 (.slice (some ⟨q4, 0, none⟩) 1 1) [x]) := by rw [← hv2, ← hq2]; exact esr_one HX.out.1 (Blk.new V1 _ _).range0 (Blk.new V1 _ _).lt
      have hL2 : Hid (q4 < V2.heap.size) := by show q4 < _; rw [← hv2, ← hq2]; simp
      have hE2 : Hid (OwE V2 A.heap.size (.slice (some ⟨q0, 0, none⟩) 0 0) []) := hE1.out.below hbl2
      have hN2 : Hid (q0 ≠ q4) := by have := (hE1.out.lt (g := q0) rfl).2; show q0 ≠ q4; omega
      rw [hv2, hq2]
      clear hv2 hq2 hbl2
      refine hK1.out _ _ hS2.out ?_
      clear hK1
      intro _
      try simp only [Act.put, List.setIfInBounds_toArray, List.set_cons_zero, List.set_cons_succ]
      refine wpAnyH_ready (rs := [2]) (by kernel_rfl) (by simp) (AllReadyH.cons (i := 2) (o := { dst := some 62, op := Op.call { callee := Callee.builtin Builtin.append, args := #[Operand.tmp 60, Operand.tmp 61], argTypes := #[27, 27] }, type := 27, pos := "ref.go:71", after := #[{ on := 0, ground := Ground.data }, { on := 1, ground := Ground.data }], guard := none }) rfl ?_ AllReadyH.nil)
      · intro K1 hK1
        refine step_app (by rfl) (.tmp 60) (.tmp 61) rfl hE2.out (HES.out V2 hS2.out) (by have := HN.out; simp; omega) hS2.out.size rfl rfl ?_
        intro v2 V3 ho3 hg3 hp3
        have hO3 : Hid (OwE V3 A.heap.size v2 l) := ho3.out
        have hS3 : Hid (A.grownBy V3 (some r)) := gr_own hS2.out hg3.out (fun j hj => (hE2.out.lt hj).1)
        have hZ3 : Hid (Blk V3 r 37 Z) := hZ2.out.kept hg3.out (fun hk => by have := (hE2.out.lt hk.symm).1; have := HRL.out; omega)
        have hR3 : Hid (EsR V3 (.slice (some ⟨q4, 0, none⟩) 1 1) [x]) := hR2.out.gr hg3.out (fun hk => hN2.out (by cases hk; rfl))
        clear ho3 hg3 hp3
        refine hK1.out _ _ hS3.out ?_
        clear hK1
        intro _
        try simp only [Act.put, List.setIfInBounds_toArray, List.set_cons_zero, List.set_cons_succ]
        refine wpAnyH_ready (rs := [5]) (by kernel_rfl) (by simp) (AllReadyH.cons (i := 5) (o := { dst := some 65, op := Op.call { callee := Callee.builtin Builtin.append, args := #[Operand.tmp 62, Operand.tmp 64], argTypes := #[27, 27] }, type := 27, pos := "ref.go:71", after := #[{ on := 2, ground := Ground.data }, { on := 4, ground := Ground.data }, { on := 2, ground := Ground.chain }], guard := none }) rfl ?_ AllReadyH.nil)
        · intro K1 hK1
          refine step_app (by rfl) (.tmp 62) (.tmp 64) rfl hO3.out hR3.out (by have := HN.out; simp; omega) hS3.out.size rfl rfl ?_
          intro v5 V4 ho4 hg4 hp4
          have hS4 : Hid (A.grownBy V4 (some r)) := gr_own hS3.out hg4.out (fun j hj => (hO3.out.lt hj).1)
          have hZ4 : Hid (Blk V4 r 37 Z) := hZ3.out.kept hg4.out (fun hk => by have := (hO3.out.lt hk.symm).1; have := HRL.out; omega)
          clear hg4 hp4
          refine hK1.out _ _ hS4.out ?_
          clear hK1
          intro _
          try simp only [Act.put, List.setIfInBounds_toArray, List.set_cons_zero, List.set_cons_succ]
          refine wpAnyH_take (i := 7) (oi := { dst := some 8, op := Op.assign (Operand.tmp 65), type := 27, pos := "ref.go:71", after := #[{ on := 5, ground := Ground.data }, { on := 5, ground := Ground.chain }, { on := 0, ground := Ground.phase }, { on := 1, ground := Ground.phase }, { on := 2, ground := Ground.phase }, { on := 3, ground := Ground.phase }, { on := 4, ground := Ground.phase }, { on := 5, ground := Ground.phase }, { on := 6, ground := Ground.textOnly Departure.lateStores }], guard := none }) (v := v5) rfl (by kernel_rfl) (by kernel_rfl) (by kernel_rfl) (fun _ _ _ h => h.elim) (Or.inl ⟨by rfl, ?y4⟩) hS4.out ?_
          case y4 =>
            intro V hV
            go_simp
          simp only [Act.put, List.setIfInBounds_toArray, List.set_cons_zero, List.set_cons_succ]
          refine wpAnyH_ready (rs := [8]) (by kernel_rfl) (by simp) (AllReadyH.cons (i := 8) (o := { dst := none, op := Op.store 37 (Operand.tmp 9) (Operand.tmp 66), type := 0, pos := "ref.go:71", after := #[{ on := 6, ground := Ground.data }, { on := 7, ground := Ground.chain }, { on := 0, ground := Ground.phase }, { on := 1, ground := Ground.phase }, { on := 2, ground := Ground.phase }, { on := 3, ground := Ground.phase }, { on := 4, ground := Ground.phase }, { on := 5, ground := Ground.phase }, { on := 6, ground := Ground.phase }, { on := 7, ground := Ground.phase }], guard := none }) rfl ?_ AllReadyH.nil)
          · intro K1 hK1
            refine step_stB (by rfl) 37 (.tmp 9) (.tmp 66) rfl r x.cells 37 Z rfl rfl hZ4.out HX.out.2 (info37 HX.out.1) (En.one _) ?_
            intro V5 hX5 hg5
            have hS5 : Hid (A.grownBy V5 (some r)) := grown_tr hS4.out hg5.out
            have hP5 : Hid (OwE V5 A.heap.size v5 (l ++ [x])) := ho4.out.same (fun g hgo => hg5.out.block g (ho4.out.lt hgo).2 (fun hk => by cases hk; have := (ho4.out.lt hgo).1; have := HRL.out; omega))
            clear hg5
            refine hK1.out _ _ hS5.out ?_
            clear hK1
            intro _
            try simp only [Act.put, List.setIfInBounds_toArray, List.set_cons_zero, List.set_cons_succ]
            refine wpAnyH_take (i := 9) (oi := { dst := some 10, op := Op.assign (Operand.const (Value.int IntKind.i64 0)), type := 3, pos := "ref.go:71", after := #[{ on := 8, ground := Ground.chain }, { on := 0, ground := Ground.phase }, { on := 1, ground := Ground.phase }, { on := 2, ground := Ground.phase }, { on := 3, ground := Ground.phase }, { on := 4, ground := Ground.phase }, { on := 5, ground := Ground.phase }, { on := 6, ground := Ground.phase }, { on := 7, ground := Ground.phase }, { on := 8, ground := Ground.phase }], guard := none }) (v := iv 0) rfl (by kernel_rfl) (by kernel_rfl) (by kernel_rfl) (fun _ _ _ h => h.elim) (Or.inl ⟨by rfl, ?y5⟩) hS5.out ?_
            case y5 =>
              intro V hV
              go_simp
            simp only [Act.put, List.setIfInBounds_toArray, List.set_cons_zero, List.set_cons_succ]
            refine wpAnyH_done (by kernel_rfl) ?_ _
            exact hQ V5 _ _ _ _ hX5.out hP5.out hS5.out
  · intro K1 hK1
    refine step_bs (by rfl) 27 (.tmp 63) _ rfl rfl (run_bs1 x.cells (En.len HX.out.1) _) ?_
    obtain ⟨V1, hv1⟩ : ∃ V, V0.alloc (.cells x.cells.toArray 37) = V := ⟨_, rfl⟩
    have hbl1 : Below V0.heap.size V0 V1 := by rw [← hv1]; exact below_al _ _
    have hS1 : Hid (A.grownBy V1 (some r)) := grown_tr hS0.out (gr_below hbl1)
    have hZ1 : Hid (Blk V1 r 37 Z) := hZ0.out.below hbl1 hZ0.out.lt
    obtain ⟨q4, hq1⟩ : ∃ m, V0.heap.size = m := ⟨_, rfl⟩
    have hR1 : Hid (EsR V1 (.slice (some ⟨q4, 0, none⟩) 1 1) [x]) := by rw [← hv1, ← hq1]; exact esr_one HX.out.1 (Blk.new V0 _ _).range0 (Blk.new V0 _ _).lt
    have hL1 : Hid (q4 < V1.heap.size) := by show q4 < _; rw [← hv1, ← hq1]; simp
    rw [hv1, hq1]
    clear hv1 hq1 hbl1
    refine hK1.out _ _ hS1.out ?_
    clear hK1
    intro _
    try simp only [Act.put, List.setIfInBounds_toArray, List.set_cons_zero, List.set_cons_succ]
    refine wpAnyH_ready (rs := [0]) (by kernel_rfl) (by simp) (AllReadyH.cons (i := 0) (o := { dst := some 60, op := Op.buildSlice 27 0 #[], type := 27, pos := "ref.go:71", after := #[], guard := none }) rfl ?_ AllReadyH.nil)
    · intro K1 hK1
      refine step_bs0 (by rfl) 27 rfl (run_bs0 _) ?_
      obtain ⟨V2, hv2⟩ : ∃ V, V1.alloc (.cells #[] 37) = V := ⟨_, rfl⟩
      have hbl2 : Below V1.heap.size V1 V2 := by rw [← hv2]; exact below_al _ _
      have hS2 : Hid (A.grownBy V2 (some r)) := grown_tr hS1.out (gr_below hbl2)
      have hZ2 : Hid (Blk V2 r 37 Z) := hZ1.out.below hbl2 hZ1.out.lt
      obtain ⟨q0, hq2⟩ : ∃ m, V1.heap.size = m := ⟨_, rfl⟩
      have hE2 : Hid (OwE V2 A.heap.size (.slice (some ⟨q0, 0, none⟩) 0 0) []) := by rw [← hv2, ← hq2]; exact (own0 V1).mono hS1.out.size
      have hR2 : Hid (EsR V2 (.slice (some ⟨q4, 0, none⟩) 1 1) [x]) := hR1.out.below hbl2
      have hN2 : Hid (q0 ≠ q4) := by have := hL1.out; show q0 ≠ q4; omega
      rw [hv2, hq2]
      clear hv2 hq2 hbl2
      refine hK1.out _ _ hS2.out ?_
      clear hK1
      intro _
      try simp only [Act.put, List.setIfInBounds_toArray, List.set_cons_zero, List.set_cons_succ]
      refine wpAnyH_ready (rs := [2]) (by kernel_rfl) (by simp) (AllReadyH.cons (i := 2) (o := { dst := some 62, op := Op.call { callee := Callee.builtin Builtin.append, args := #[Operand.tmp 60, Operand.tmp 61], argTypes := #[27, 27] }, type := 27, pos := "ref.go:71", after := #[{ on := 0, ground := Ground.data }, { on := 1, ground := Ground.data }], guard := none }) rfl ?_ AllReadyH.nil)
      · intro K1 hK1
        refine step_app (by rfl) (.tmp 60) (.tmp 61) rfl hE2.out (HES.out V2 hS2.out) (by have := HN.out; simp; omega) hS2.out.size rfl rfl ?_
        intro v2 V3 ho3 hg3 hp3
        have hO3 : Hid (OwE V3 A.heap.size v2 l) := ho3.out
        have hS3 : Hid (A.grownBy V3 (some r)) := gr_own hS2.out hg3.out (fun j hj => (hE2.out.lt hj).1)
        have hZ3 : Hid (Blk V3 r 37 Z) := hZ2.out.kept hg3.out (fun hk => by have := (hE2.out.lt hk.symm).1; have := HRL.out; omega)
        have hR3 : Hid (EsR V3 (.slice (some ⟨q4, 0, none⟩) 1 1) [x]) := hR2.out.gr hg3.out (fun hk => hN2.out (by cases hk; rfl))
        clear ho3 hg3 hp3
        refine hK1.out _ _ hS3.out ?_
        clear hK1
        intro _
        try simp only [Act.put, List.setIfInBounds_toArray, List.set_cons_zero, List.set_cons_succ]
        refine wpAnyH_ready (rs := [5]) (by kernel_rfl) (by simp) (AllReadyH.cons (i := 5) (o := { dst := some 65, op := Op.call { callee := Callee.builtin Builtin.append, args := #[Operand.tmp 62, Operand.tmp 64], argTypes := #[27, 27] }, type := 27, pos := "ref.go:71", after := #[{ on := 2, ground := Ground.data }, { on := 4, ground := Ground.data }, { on := 2, ground := Ground.chain }], guard := none }) rfl ?_ AllReadyH.nil)
        · intro K1 hK1
          refine step_app (by rfl) (.tmp 62) (.tmp 64) rfl hO3.out hR3.out (by have := HN.out; simp; omega) hS3.out.size rfl rfl ?_
          intro v5 V4 ho4 hg4 hp4
          have hS4 : Hid (A.grownBy V4 (some r)) := gr_own hS3.out hg4.out (fun j hj => (hO3.out.lt hj).1)
          have hZ4 : Hid (Blk V4 r 37 Z) := hZ3.out.kept hg4.out (fun hk => by have := (hO3.out.lt hk.symm).1; have := HRL.out; omega)
          clear hg4 hp4
          refine hK1.out _ _ hS4.out ?_
          clear hK1
          intro _
          try simp only [Act.put, List.setIfInBounds_toArray, List.set_cons_zero, List.set_cons_succ]
          refine wpAnyH_take (i := 7) (oi := { dst := some 8, op := Op.assign (Operand.tmp 65), type := 27, pos := "ref.go:71", after := #[{ on := 5, ground := Ground.data }, { on := 5, ground := Ground.chain }, { on := 0, ground := Ground.phase }, { on := 1, ground := Ground.phase }, { on := 2, ground := Ground.phase }, { on := 3, ground := Ground.phase }, { on := 4, ground := Ground.phase }, { on := 5, ground := Ground.phase }, { on := 6, ground := Ground.textOnly Departure.lateStores }], guard := none }) (v := v5) rfl (by kernel_rfl) (by kernel_rfl) (by kernel_rfl) (fun _ _ _ h => h.elim) (Or.inl ⟨by rfl, ?y6⟩) hS4.out ?_
          case y6 =>
            intro V hV
            go_simp
          simp only [Act.put, List.setIfInBounds_toArray, List.set_cons_zero, List.set_cons_succ]
          refine wpAnyH_ready (rs := [8]) (by kernel_rfl) (by simp) (AllReadyH.cons (i := 8) (o := { dst := none, op := Op.store 37 (Operand.tmp 9) (Operand.tmp 66), type := 0, pos := "ref.go:71", after := #[{ on := 6, ground := Ground.data }, { on := 7, ground := Ground.chain }, { on := 0, ground := Ground.phase }, { on := 1, ground := Ground.phase }, { on := 2, ground := Ground.phase }, { on := 3, ground := Ground.phase }, { on := 4, ground := Ground.phase }, { on := 5, ground := Ground.phase }, { on := 6, ground := Ground.phase }, { on := 7, ground := Ground.phase }], guard := none }) rfl ?_ AllReadyH.nil)
          · intro K1 hK1
            refine step_stB (by rfl) 37 (.tmp 9) (.tmp 66) rfl r x.cells 37 Z rfl rfl hZ4.out HX.out.2 (info37 HX.out.1) (En.one _) ?_
            intro V5 hX5 hg5
            have hS5 : Hid (A.grownBy V5 (some r)) := grown_tr hS4.out hg5.out
            have hP5 : Hid (OwE V5 A.heap.size v5 (l ++ [x])) := ho4.out.same (fun g hgo => hg5.out.block g (ho4.out.lt hgo).2 (fun hk => by cases hk; have := (ho4.out.lt hgo).1; have := HRL.out; omega))
            clear hg5
            refine hK1.out _ _ hS5.out ?_
            clear hK1
            intro _
            try simp only [Act.put, List.setIfInBounds_toArray, List.set_cons_zero, List.set_cons_succ]
            refine wpAnyH_take (i := 9) (oi := { dst := some 10, op := Op.assign (Operand.const (Value.int IntKind.i64 0)), type := 3, pos := "ref.go:71", after := #[{ on := 8, ground := Ground.chain }, { on := 0, ground := Ground.phase }, { on := 1, ground := Ground.phase }, { on := 2, ground := Ground.phase }, { on := 3, ground := Ground.phase }, { on := 4, ground := Ground.phase }, { on := 5, ground := Ground.phase }, { on := 6, ground := Ground.phase }, { on := 7, ground := Ground.phase }, { on := 8, ground := Ground.phase }], guard := none }) (v := iv 0) rfl (by kernel_rfl) (by kernel_rfl) (by kernel_rfl) (fun _ _ _ h => h.elim) (Or.inl ⟨by rfl, ?y7⟩) hS5.out ?_
            case y7 =>
              intro V hV
              go_simp
            simp only [Act.put, List.setIfInBounds_toArray, List.set_cons_zero, List.set_cons_succ]
            refine wpAnyH_done (by kernel_rfl) ?_ _
            exact hQ V5 _ _ _ _ hX5.out hP5.out hS5.out
#print axioms ra6
end Go.Proofs.YtmmpafaegmejlaaDoor.Oct
