/-
  Layer 19 (audit): the reference's Append: its drawn region.
  Layer 19 (audit): the reference's Append.
  Layer 19 (audit): the law AuditPlays: what its loop keeps.
  Layer 19 (audit): the law AuditPlays.
-/
import Derived.Test.YtmmpafaegmejlaaDoorPkD
/- Layer 19 (audit): the reference's Append: its drawn region. -/
namespace Go.Proofs.YtmmpafaegmejlaaDoor.Oct
open Go.RowKit Sha
set_option linter.unusedSimpArgs false
set_option linter.unusedVariables false

theorem gr_own {A W W' : World} {r : Nat} {g : Option Nat} (h : A.grownBy W (some r)) (k : W.grownBy W' g) (hg : ∀ j, g = some j → A.heap.size ≤ j) : A.grownBy W' (some r) :=
  ⟨k.os.trans h.os, k.tape.trans h.tape, k.output.trans h.output, Nat.le_trans h.size k.size, fun j hj hn => (k.block j (Nat.lt_of_lt_of_le hj h.size) (fun e => by have := hg j e.symm; omega)).trans (h.block j hj hn)⟩
theorem EsR.gr {w w' : World} {b m c : Nat} {l : List En} {g : Option Nat} (h : EsR w (.slice (some ⟨b, 0, none⟩) m c) l) (k : w.grownBy w' g) (hg : some b ≠ g) : EsR w' (.slice (some ⟨b, 0, none⟩) m c) l := by
  obtain ⟨h1, a, cap, h2, h3, h4, h5⟩ := h
  cases h2
  refine ⟨h1, _, _, rfl, h3, h4, fun hp => ?_⟩
  obtain ⟨b', off, e1, e2, e3⟩ := h5 hp
  cases e1
  exact ⟨_, _, rfl, Nat.lt_of_lt_of_le e2 k.size, fun i e he => rangeAt_same (e3 i e he) (k.block _ e2 hg)⟩
theorem step_bs0 {ops : Array Oper} {o : Oper} {a : Act} {w : World} {K : Act → World → Prop} {Q : Exit → Act → World → Prop} {E : Prop} (hw : Region.wanted o (yielded ops a.tmps) = true) (t : TypeId) (hop : o.op = .buildSlice t 0 #[]) {v : Value} {w' : World} (hrun : (Instr.buildSlice t 0 #[]).run Tryd.prog w = .ok v w')
    (hk : K (a.put o.dst v) w') : if Region.wanted o (yielded ops a.tmps) = true then Oper.wp Tryd.prog o a w K Q else E := by
  rw [if_pos hw]
  unfold Oper.wp execOp
  simp [hop, hrun, Result.andThen]
  exact hk
set_option maxRecDepth 100000 in
set_option maxHeartbeats 4000000 in
theorem ra6 {Q : Exit → Act → World → Prop} {x1 x2 x3 x4 x5 x6 x7 x8 x10 x12 x13 x14 x15 x16 x17 x18 x19 x20 x21 x22 x23 x24 x25 x26 x27 x28 x29 x30 x31 x32 x33 x34 x35 x36 x37 x38 x39 x40 x41 x42 x43 x44 x45 x46 x47 x48 x49 x50 x51 x52 x53 x54 x55 x56 x57 x58 x59 x60 x61 x62 x63 x64 x65 x66 : Value} {ds : List Deferred} {A : World} {a : Option Addr} {n cap q r : Nat} {x : En} {l : List En} {Z : List Value}
    (HL : Hid (q < A.heap.size ∧ some q ≠ some r)) (HR : Hid (A.rangeAt q 0 x.cells)) (HX : Hid (x.ok ∧ Z.length = x.cells.length)) (HZ : Hid (Blk A r 37 Z)) (HRL : Hid (r < A.heap.size)) (HN : Hid (l.length ≤ 5000)) (HES : Hid (∀ V, A.grownBy V (some r) → EsR V (.slice a n cap) l))
    (hQ : ∀ (V1 : World) (q0 : Nat) (v2 : Value) (q4 : Nat) (v5 : Value), Blk V1 r 37 x.cells → OwE V1 A.heap.size v5 (l ++ [x]) → A.grownBy V1 (some r) → Q .normal { tmps := #[.slice a n cap, x1, x2, x3, x4, x5, x6, x7, v5, .pointer (some ⟨r, 0, none⟩), iv 0, .pointer (some ⟨q, 0, none⟩), x12, x13, x14, x15, x16, x17, x18, x19, x20, x21, x22, x23, x24, x25, x26, x27, x28, x29, x30, x31, x32, x33, x34, x35, x36, x37, x38, x39, x40, x41, x42, x43, x44, x45, x46, x47, x48, x49, x50, x51, x52, x53, x54, x55, x56, x57, x58, x59, .slice (some ⟨q0, 0, none⟩) 0 0, .slice a n cap, v2, .agg x.cells.toArray, .slice (some ⟨q4, 0, none⟩) 1 1, v5, .agg x.cells.toArray], defers := ds } V1) :
    (Code.region 6 #[{ dst := some 60, op := Op.buildSlice 27 0 #[], type := 27, pos := "ref.go:71", after := #[], guard := none }, { dst := some 61, op := Op.move (Operand.tmp 0), type := 27, pos := "ref.go:71", after := #[], guard := none }, { dst := some 62, op := Op.call { callee := Callee.builtin Builtin.append, args := #[Operand.tmp 60, Operand.tmp 61], argTypes := #[27, 27] }, type := 27, pos := "ref.go:71", after := #[{ on := 0, ground := Ground.data }, { on := 1, ground := Ground.data }], guard := none }, { dst := some 63, op := Op.load 37 (Operand.tmp 11), type := 37, pos := "ref.go:71", after := #[], guard := none }, { dst := some 64, op := Op.buildSlice 27 1 #[(0, Operand.tmp 63)], type := 27, pos := "ref.go:71", after := #[{ on := 3, ground := Ground.data }], guard := none }, { dst := some 65, op := Op.call { callee := Callee.builtin Builtin.append, args := #[Operand.tmp 62, Operand.tmp 64], argTypes := #[27, 27] }, type := 27, pos := "ref.go:71", after := #[{ on := 2, ground := Ground.data }, { on := 4, ground := Ground.data }, { on := 2, ground := Ground.chain }], guard := none }, { dst := some 66, op := Op.load 37 (Operand.tmp 11), type := 37, pos := "ref.go:71", after := #[{ on := 7, ground := Ground.gcOnly Departure.lateStores }], guard := none }, { dst := some 8, op := Op.assign (Operand.tmp 65), type := 27, pos := "ref.go:71", after := #[{ on := 5, ground := Ground.data }, { on := 5, ground := Ground.chain }, { on := 0, ground := Ground.phase }, { on := 1, ground := Ground.phase }, { on := 2, ground := Ground.phase }, { on := 3, ground := Ground.phase }, { on := 4, ground := Ground.phase }, { on := 5, ground := Ground.phase }, { on := 6, ground := Ground.textOnly Departure.lateStores }], guard := none }, { dst := none, op := Op.store 37 (Operand.tmp 9) (Operand.tmp 66), type := 0, pos := "ref.go:71", after := #[{ on := 6, ground := Ground.data }, { on := 7, ground := Ground.chain }, { on := 0, ground := Ground.phase }, { on := 1, ground := Ground.phase }, { on := 2, ground := Ground.phase }, { on := 3, ground := Ground.phase }, { on := 4, ground := Ground.phase }, { on := 5, ground := Ground.phase }, { on := 6, ground := Ground.phase }, { on := 7, ground := Ground.phase }], guard := none }, { dst := some 10, op := Op.assign (Operand.const (Value.int IntKind.i64 0)), type := 3, pos := "ref.go:71", after := #[{ on := 8, ground := Ground.chain }, { on := 0, ground := Ground.phase }, { on := 1, ground := Ground.phase }, { on := 2, ground := Ground.phase }, { on := 3, ground := Ground.phase }, { on := 4, ground := Ground.phase }, { on := 5, ground := Ground.phase }, { on := 6, ground := Ground.phase }, { on := 7, ground := Ground.phase }, { on := 8, ground := Ground.phase }], guard := none }] true).wp Tryd.prog Q { tmps := #[.slice a n cap, x1, x2, x3, x4, x5, x6, x7, x8, .pointer (some ⟨r, 0, none⟩), x10, .pointer (some ⟨q, 0, none⟩), x12, x13, x14, x15, x16, x17, x18, x19, x20, x21, x22, x23, x24, x25, x26, x27, x28, x29, x30, x31, x32, x33, x34, x35, x36, x37, x38, x39, x40, x41, x42, x43, x44, x45, x46, x47, x48, x49, x50, x51, x52, x53, x54, x55, x56, x57, x58, x59, x60, x61, x62, x63, x64, x65, x66], defers := ds } A := by
  refine Code.wp_mono (Q := fun x a' w' => match x with | .normal => Q .normal a' w' | _ => False) (by intro x a' w' h; cases x <;> first | exact h | exact h.elim) ?_
  refine wp_region_held (S := fun V => A.grownBy V (some r)) (by kernel_rfl) ?_
  have hS0 : Hid (A.grownBy A.drew (some r)) := grown_drewN A 1 _
  change wpAnyH Tryd.prog .any _ _ (fun V => A.grownBy V (some r)) 10 (Array.replicate 10 false) _ A.drew
  obtain ⟨V0, hV0⟩ : ∃ V0, A.drew = V0 := ⟨_, rfl⟩
  rw [hV0]
  rw [hV0] at hS0
  have hZ0 : Hid (Blk V0 r 37 Z) := by rw [← hV0]; exact HZ.out
  clear hV0
  refine wpAnyH_take (i := 1) (oi := { dst := some 61, op := Op.move (Operand.tmp 0), type := 27, pos := "ref.go:71", after := #[], guard := none }) (v := .slice a n cap) rfl (by kernel_rfl) (by kernel_rfl) (by kernel_rfl) (fun _ _ _ h => h.elim) (Or.inl ⟨by rfl, ?y1⟩) hS0.out ?_
  case y1 =>
    intro V hV
    go_simp
  simp only [Act.put, List.setIfInBounds_toArray, List.set_cons_zero, List.set_cons_succ]
  refine wpAnyH_take (i := 3) (oi := { dst := some 63, op := Op.load 37 (Operand.tmp 11), type := 37, pos := "ref.go:71", after := #[], guard := none }) (v := .agg x.cells.toArray) rfl (by kernel_rfl) (by kernel_rfl) (by kernel_rfl) (fun _ _ _ h => h.elim) (yieldsIf_load_mid (by rfl) _ _ rfl _ _ rfl (x.cells) _ (fun V hV => rangeAt_same (HR.out) ((show A.grownBy V (some r) from hV).block _ (HL.out.1) (HL.out.2))) Tryd.underlying37 rfl (info37 HX.out.1)) hS0.out ?_
  simp only [Act.put, List.setIfInBounds_toArray, List.set_cons_zero, List.set_cons_succ]
  refine wpAnyH_take (i := 6) (oi := { dst := some 66, op := Op.load 37 (Operand.tmp 11), type := 37, pos := "ref.go:71", after := #[{ on := 7, ground := Ground.gcOnly Departure.lateStores }], guard := none }) (v := .agg x.cells.toArray) rfl (by kernel_rfl) (by kernel_rfl) (by kernel_rfl) (fun _ _ _ h => h.elim) (yieldsIf_load_mid (by rfl) _ _ rfl _ _ rfl (x.cells) _ (fun V hV => rangeAt_same (HR.out) ((show A.grownBy V (some r) from hV).block _ (HL.out.1) (HL.out.2))) Tryd.underlying37 rfl (info37 HX.out.1)) hS0.out ?_
  simp only [Act.put, List.setIfInBounds_toArray, List.set_cons_zero, List.set_cons_succ]
  refine wpAnyH_ready (rs := [0, 4]) (by kernel_rfl) (by simp) (AllReadyH.cons (i := 0) (o := { dst := some 60, op := Op.buildSlice 27 0 #[], type := 27, pos := "ref.go:71", after := #[], guard := none }) rfl ?_ (AllReadyH.cons (i := 4) (o := { dst := some 64, op := Op.buildSlice 27 1 #[(0, Operand.tmp 63)], type := 27, pos := "ref.go:71", after := #[{ on := 3, ground := Ground.data }], guard := none }) rfl ?_ AllReadyH.nil))
  · intro K1 hK1
    refine step_bs0 (by rfl) 27 rfl (run_bs0 _) ?_
    obtain ⟨V1, hv1⟩ : ∃ V, V0.alloc (.cells #[] 37) = V := ⟨_, rfl⟩
    have hbl1 : Below V0.heap.size V0 V1 := by rw [← hv1]; exact below_al _ _
    have hS1 : Hid (A.grownBy V1 (some r)) := grown_tr hS0.out (gr_below hbl1)
    have hZ1 : Hid (Blk V1 r 37 Z) := hZ0.out.below hbl1 hZ0.out.lt
    obtain ⟨q0, hq1⟩ : ∃ m, V0.heap.size = m := ⟨_, rfl⟩
    have hE1 : Hid (OwE V1 A.heap.size (.slice (some ⟨q0, 0, none⟩) 0 0) []) := by rw [← hv1, ← hq1]; exact (own0 V0).mono hS0.out.size
    rw [hv1, hq1]
    clear hv1 hq1 hbl1
    refine hK1.out _ _ hS1.out ?_
    clear hK1
    intro _
    try simp only [Act.put, List.setIfInBounds_toArray, List.set_cons_zero, List.set_cons_succ]
    refine wpAnyH_ready (rs := [2, 4]) (by kernel_rfl) (by simp) (AllReadyH.cons (i := 2) (o := { dst := some 62, op := Op.call { callee := Callee.builtin Builtin.append, args := #[Operand.tmp 60, Operand.tmp 61], argTypes := #[27, 27] }, type := 27, pos := "ref.go:71", after := #[{ on := 0, ground := Ground.data }, { on := 1, ground := Ground.data }], guard := none }) rfl ?_ (AllReadyH.cons (i := 4) (o := { dst := some 64, op := Op.buildSlice 27 1 #[(0, Operand.tmp 63)], type := 27, pos := "ref.go:71", after := #[{ on := 3, ground := Ground.data }], guard := none }) rfl ?_ AllReadyH.nil))
    · intro K1 hK1
      refine step_app (by rfl) (.tmp 60) (.tmp 61) rfl hE1.out (HES.out V1 hS1.out) (by have := HN.out; simp; omega) hS1.out.size rfl rfl ?_
      intro v2 V2 ho2 hg2 hp2
      have hO2 : Hid (OwE V2 A.heap.size v2 l) := ho2.out
      have hS2 : Hid (A.grownBy V2 (some r)) := gr_own hS1.out hg2.out (fun j hj => (hE1.out.lt hj).1)
      have hZ2 : Hid (Blk V2 r 37 Z) := hZ1.out.kept hg2.out (fun hk => by have := (hE1.out.lt hk.symm).1; have := HRL.out; omega)
      clear ho2 hg2 hp2
      refine hK1.out _ _ hS2.out ?_
      clear hK1
      intro _
      try simp only [Act.put, List.setIfInBounds_toArray, List.set_cons_zero, List.set_cons_succ]
      refine wpAnyH_ready (rs := [4]) (by kernel_rfl) (by simp) (AllReadyH.cons (i := 4) (o := { dst := some 64, op := Op.buildSlice 27 1 #[(0, Operand.tmp 63)], type := 27, pos := "ref.go:71", after := #[{ on := 3, ground := Ground.data }], guard := none }) rfl ?_ AllReadyH.nil)
      · intro K1 hK1
        refine step_bs (by rfl) 27 (.tmp 63) _ rfl rfl (run_bs1 x.cells (En.len HX.out.1) _) ?_
        obtain ⟨V3, hv3⟩ : ∃ V, V2.alloc (.cells x.cells.toArray 37) = V := ⟨_, rfl⟩
        have hbl3 : Below V2.heap.size V2 V3 := by rw [← hv3]; exact below_al _ _
        have hS3 : Hid (A.grownBy V3 (some r)) := grown_tr hS2.out (gr_below hbl3)
        have hZ3 : Hid (Blk V3 r 37 Z) := hZ2.out.below hbl3 hZ2.out.lt
        obtain ⟨q4, hq3⟩ : ∃ m, V2.heap.size = m := ⟨_, rfl⟩
        have hR3 : Hid (EsR V3 (.slice (some ⟨q4, 0, none⟩) 1 1) [x]) := by rw [← hv3, ← hq3]; exact esr_one HX.out.1 (Blk.new V2 _ _).range0 (Blk.new V2 _ _).lt
        have hL3 : Hid (q4 < V3.heap.size) := by show q4 < _; rw [← hv3, ← hq3]; simp
        have hO3 : Hid (OwE V3 A.heap.size v2 l) := hO2.out.below hbl3
        rw [hv3, hq3]
        clear hv3 hq3 hbl3
        refine hK1.out _ _ hS3.out ?_
        clear hK1
        intro _
        try simp only [Act.put, List.setIfInBounds_toArray, List.set_cons_zero, List.set_cons_succ]
        refine wpAnyH_ready (rs := [5]) (by kernel_rfl) (by simp) (AllReadyH.cons (i := 5) (o := { dst := some 65, op := Op.call { callee := Callee.builtin Builtin.append, args := #[Operand.tmp 62, Operand.tmp 64], argTypes := #[27, 27] }, type := 27, pos := "ref.go:71", after := #[{ on := 2, ground := Ground.data }, { on := 4, ground := Ground.data }, { on := 2, ground := Ground.chain }], guard := none }) rfl ?_ AllReadyH.nil)
        · intro K1 hK1
          refine step_app (by rfl) (.tmp 62) (.tmp 64) rfl hO3.out hR3.out (by have := HN.out; simp; omega) hS3.out.size rfl rfl ?_
          intro v5 V4 ho4 hg4 hp4
          have hS4 : Hid (A.grownBy V4 (some r)) := gr_own hS3.out hg4.out (fun j hj => (hO3.out.lt hj).1)
          have hZ4 : Hid (Blk V4 r 37 Z) := hZ3.out.kept hg4.out (fun hk => by have := (hO3.out.lt hk.symm).1; have := HRL.out; omega)
          clear hg4 hp4
          refine hK1.out _ _ hS4.out ?_
          clear hK1
          intro _
          try simp only [Act.put, List.setIfInBounds_toArray, List.set_cons_zero, List.set_cons_succ]
          refine wpAnyH_take (i := 7) (oi := { dst := some 8, op := Op.assign (Operand.tmp 65), type := 27, pos := "ref.go:71", after := #[{ on := 5, ground := Ground.data }, { on := 5, ground := Ground.chain }, { on := 0, ground := Ground.phase }, { on := 1, ground := Ground.phase }, { on := 2, ground := Ground.phase }, { on := 3, ground := Ground.phase }, { on := 4, ground := Ground.phase }, { on := 5, ground := Ground.phase }, { on := 6, ground := Ground.textOnly Departure.lateStores }], guard := none }) (v := v5) rfl (by kernel_rfl) (by kernel_rfl) (by kernel_rfl) (fun _ _ _ h => h.elim) (Or.inl ⟨by rfl, ?y2⟩) hS4.out ?_
          case y2 =>
            intro V hV
            go_simp
          simp only [Act.put, List.setIfInBounds_toArray, List.set_cons_zero, List.set_cons_succ]
          refine wpAnyH_ready (rs := [8]) (by kernel_rfl) (by simp) (AllReadyH.cons (i := 8) (o := { dst := none, op := Op.store 37 (Operand.tmp 9) (Operand.tmp 66), type := 0, pos := "ref.go:71", after := #[{ on := 6, ground := Ground.data }, { on := 7, ground := Ground.chain }, { on := 0, ground := Ground.phase }, { on := 1, ground := Ground.phase }, { on := 2, ground := Ground.phase }, { on := 3, ground := Ground.phase }, { on := 4, ground := Ground.phase }, { on := 5, ground := Ground.phase }, { on := 6, ground := Ground.phase }, { on := 7, ground := Ground.phase }], guard := none }) rfl ?_ AllReadyH.nil)
          · intro K1 hK1
            refine step_stB (by rfl) 37 (.tmp 9) (.tmp 66) rfl r x.cells 37 Z rfl rfl hZ4.out HX.out.2 (info37 HX.out.1) (En.one _) ?_
            intro V5 hX5 hg5
            have hS5 : Hid (A.grownBy V5 (some r)) := grown_tr hS4.out hg5.out
            have hP5 : Hid (OwE V5 A.heap.size v5 (l ++ [x])) := ho4.out.same (fun g hgo => hg5.out.block g (ho4.out.lt hgo).2 (fun hk => by cases hk; have := (ho4.out.lt hgo).1; have := HRL.out; omega))
            clear hg5
            refine hK1.out _ _ hS5.out ?_
            clear hK1
            intro _
            try simp only [Act.put, List.setIfInBounds_toArray, List.set_cons_zero, List.set_cons_succ]
            refine wpAnyH_take (i := 9) (oi := { dst := some 10, op := Op.assign (Operand.const (Value.int IntKind.i64 0)), type := 3, pos := "ref.go:71", after := #[{ on := 8, ground := Ground.chain }, { on := 0, ground := Ground.phase }, { on := 1, ground := Ground.phase }, { on := 2, ground := Ground.phase }, { on := 3, ground := Ground.phase }, { on := 4, ground := Ground.phase }, { on := 5, ground := Ground.phase }, { on := 6, ground := Ground.phase }, { on := 7, ground := Ground.phase }, { on := 8, ground := Ground.phase }], guard := none }) (v := iv 0) rfl (by kernel_rfl) (by kernel_rfl) (by kernel_rfl) (fun _ _ _ h => h.elim) (Or.inl ⟨by rfl, ?y3⟩) hS5.out ?_
            case y3 =>
              intro V hV
              go_simp
            simp only [Act.put, List.setIfInBounds_toArray, List.set_cons_zero, List.set_cons_succ]
            refine wpAnyH_done (by kernel_rfl) ?_ _
            exact hQ V5 _ _ _ _ hX5.out hP5.out hS5.out
    · intro K1 hK1
      refine step_bs (by rfl) 27 (.tmp 63) _ rfl rfl (run_bs1 x.cells (En.len HX.out.1) _) ?_
      obtain ⟨V2, hv2⟩ : ∃ V, V1.alloc (.cells x.cells.toArray 37) = V := ⟨_, rfl⟩
      have hbl2 : Below V1.heap.size V1 V2 := by rw [← hv2]; exact below_al _ _
      have hS2 : Hid (A.grownBy V2 (some r)) := grown_tr hS1.out (gr_below hbl2)
      have hZ2 : Hid (Blk V2 r 37 Z) := hZ1.out.below hbl2 hZ1.out.lt
      obtain ⟨q4, hq2⟩ : ∃ m, V1.heap.size = m := ⟨_, rfl⟩
      have hR2 : Hid (EsR V2 (.slice (some ⟨q4, 0, none⟩) 1 1) [x]) := by rw [← hv2, ← hq2]; exact esr_one HX.out.1 (Blk.new V1 _ _).range0 (Blk.new V1 _ _).lt
      have hL2 : Hid (q4 < V2.heap.size) := by show q4 < _; rw [← hv2, ← hq2]; simp
      have hE2 : Hid (OwE V2 A.heap.size (.slice (some ⟨q0, 0, none⟩) 0 0) []) := hE1.out.below hbl2
      have hN2 : Hid (q0 ≠ q4) := by have := (hE1.out.lt (g := q0) rfl).2; show q0 ≠ q4; omega
      rw [hv2, hq2]
      clear hv2 hq2 hbl2
      refine hK1.out _ _ hS2.out ?_
      clear hK1
      intro _
      try simp only [Act.put, List.setIfInBounds_toArray, List.set_cons_zero, List.set_cons_succ]
      refine wpAnyH_ready (rs := [2]) (by kernel_rfl) (by simp) (AllReadyH.cons (i := 2) (o := { dst := some 62, op := Op.call { callee := Callee.builtin Builtin.append, args := #[Operand.tmp 60, Operand.tmp 61], argTypes := #[27, 27] }, type := 27, pos := "ref.go:71", after := #[{ on := 0, ground := Ground.data }, { on := 1, ground := Ground.data }], guard := none }) rfl ?_ AllReadyH.nil)
      · intro K1 hK1
        refine step_app (by rfl) (.tmp 60) (.tmp 61) rfl hE2.out (HES.out V2 hS2.out) (by have := HN.out; simp; omega) hS2.out.size rfl rfl ?_
        intro v2 V3 ho3 hg3 hp3
        have hO3 : Hid (OwE V3 A.heap.size v2 l) := ho3.out
        have hS3 : Hid (A.grownBy V3 (some r)) := gr_own hS2.out hg3.out (fun j hj => (hE2.out.lt hj).1)
        have hZ3 : Hid (Blk V3 r 37 Z) := hZ2.out.kept hg3.out (fun hk => by have := (hE2.out.lt hk.symm).1; have := HRL.out; omega)
        have hR3 : Hid (EsR V3 (.slice (some ⟨q4, 0, none⟩) 1 1) [x]) := hR2.out.gr hg3.out (fun hk => hN2.out (by cases hk; rfl))
        clear ho3 hg3 hp3
        refine hK1.out _ _ hS3.out ?_
        clear hK1
        intro _
        try simp only [Act.put, List.setIfInBounds_toArray, List.set_cons_zero, List.set_cons_succ]
        refine wpAnyH_ready (rs := [5]) (by kernel_rfl) (by simp) (AllReadyH.cons (i := 5) (o := { dst := some 65, op := Op.call { callee := Callee.builtin Builtin.append, args := #[Operand.tmp 62, Operand.tmp 64], argTypes := #[27, 27] }, type := 27, pos := "ref.go:71", after := #[{ on := 2, ground := Ground.data }, { on := 4, ground := Ground.data }, { on := 2, ground := Ground.chain }], guard := none }) rfl ?_ AllReadyH.nil)
        · intro K1 hK1
          refine step_app (by rfl) (.tmp 62) (.tmp 64) rfl hO3.out hR3.out (by have := HN.out; simp; omega) hS3.out.size rfl rfl ?_
          intro v5 V4 ho4 hg4 hp4
          have hS4 : Hid (A.grownBy V4 (some r)) := gr_own hS3.out hg4.out (fun j hj => (hO3.out.lt hj).1)
          have hZ4 : Hid (Blk V4 r 37 Z) := hZ3.out.kept hg4.out (fun hk => by have := (hO3.out.lt hk.symm).1; have := HRL.out; omega)
          clear hg4 hp4
          refine hK1.out _ _ hS4.out ?_
          clear hK1
          intro _
          try simp only [Act.put, List.setIfInBounds_toArray, List.set_cons_zero, List.set_cons_succ]
          refine wpAnyH_take (i := 7) (oi := { dst := some 8, op := Op.assign (Operand.tmp 65), type := 27, pos := "ref.go:71", after := #[{ on := 5, ground := Ground.data }, { on := 5, ground := Ground.chain }, { on := 0, ground := Ground.phase }, { on := 1, ground := Ground.phase }, { on := 2, ground := Ground.phase }, { on := 3, ground := Ground.phase }, { on := 4, ground := Ground.phase }, { on := 5, ground := Ground.phase }, { on := 6, ground := Ground.textOnly Departure.lateStores }], guard := none }) (v := v5) rfl (by kernel_rfl) (by kernel_rfl) (by kernel_rfl) (fun _ _ _ h => h.elim) (Or.inl ⟨by rfl, ?y4⟩) hS4.out ?_
          case y4 =>
            intro V hV
            go_simp
          simp only [Act.put, List.setIfInBounds_toArray, List.set_cons_zero, List.set_cons_succ]
          refine wpAnyH_ready (rs := [8]) (by kernel_rfl) (by simp) (AllReadyH.cons (i := 8) (o := { dst := none, op := Op.store 37 (Operand.tmp 9) (Operand.tmp 66), type := 0, pos := "ref.go:71", after := #[{ on := 6, ground := Ground.data }, { on := 7, ground := Ground.chain }, { on := 0, ground := Ground.phase }, { on := 1, ground := Ground.phase }, { on := 2, ground := Ground.phase }, { on := 3, ground := Ground.phase }, { on := 4, ground := Ground.phase }, { on := 5, ground := Ground.phase }, { on := 6, ground := Ground.phase }, { on := 7, ground := Ground.phase }], guard := none }) rfl ?_ AllReadyH.nil)
          · intro K1 hK1
            refine step_stB (by rfl) 37 (.tmp 9) (.tmp 66) rfl r x.cells 37 Z rfl rfl hZ4.out HX.out.2 (info37 HX.out.1) (En.one _) ?_
            intro V5 hX5 hg5
            have hS5 : Hid (A.grownBy V5 (some r)) := grown_tr hS4.out hg5.out
            have hP5 : Hid (OwE V5 A.heap.size v5 (l ++ [x])) := ho4.out.same (fun g hgo => hg5.out.block g (ho4.out.lt hgo).2 (fun hk => by cases hk; have := (ho4.out.lt hgo).1; have := HRL.out; omega))
            clear hg5
            refine hK1.out _ _ hS5.out ?_
            clear hK1
            intro _
            try simp only [Act.put, List.setIfInBounds_toArray, List.set_cons_zero, List.set_cons_succ]
            refine wpAnyH_take (i := 9) (oi := { dst := some 10, op := Op.assign (Operand.const (Value.int IntKind.i64 0)), type := 3, pos := "ref.go:71", after := #[{ on := 8, ground := Ground.chain }, { on := 0, ground := Ground.phase }, { on := 1, ground := Ground.phase }, { on := 2, ground := Ground.phase }, { on := 3, ground := Ground.phase }, { on := 4, ground := Ground.phase }, { on := 5, ground := Ground.phase }, { on := 6, ground := Ground.phase }, { on := 7, ground := Ground.phase }, { on := 8, ground := Ground.phase }], guard := none }) (v := iv 0) rfl (by kernel_rfl) (by kernel_rfl) (by kernel_rfl) (fun _ _ _ h => h.elim) (Or.inl ⟨by rfl, ?y5⟩) hS5.out ?_
            case y5 =>
              intro V hV
              go_simp
            simp only [Act.put, List.setIfInBounds_toArray, List.set_cons_zero, List.set_cons_succ]
            refine wpAnyH_done (by kernel_rfl) ?_ _
            exact hQ V5 _ _ _ _ hX5.out hP5.out hS5.out
  · intro K1 hK1
    refine step_bs (by rfl) 27 (.tmp 63) _ rfl rfl (run_bs1 x.cells (En.len HX.out.1) _) ?_
    obtain ⟨V1, hv1⟩ : ∃ V, V0.alloc (.cells x.cells.toArray 37) = V := ⟨_, rfl⟩
    have hbl1 : Below V0.heap.size V0 V1 := by rw [← hv1]; exact below_al _ _
    have hS1 : Hid (A.grownBy V1 (some r)) := grown_tr hS0.out (gr_below hbl1)
    have hZ1 : Hid (Blk V1 r 37 Z) := hZ0.out.below hbl1 hZ0.out.lt
    obtain ⟨q4, hq1⟩ : ∃ m, V0.heap.size = m := ⟨_, rfl⟩
    have hR1 : Hid (EsR V1 (.slice (some ⟨q4, 0, none⟩) 1 1) [x]) := by rw [← hv1, ← hq1]; exact esr_one HX.out.1 (Blk.new V0 _ _).range0 (Blk.new V0 _ _).lt
    have hL1 : Hid (q4 < V1.heap.size) := by show q4 < _; rw [← hv1, ← hq1]; simp
    rw [hv1, hq1]
    clear hv1 hq1 hbl1
    refine hK1.out _ _ hS1.out ?_
    clear hK1
    intro _
    try simp only [Act.put, List.setIfInBounds_toArray, List.set_cons_zero, List.set_cons_succ]
    refine wpAnyH_ready (rs := [0]) (by kernel_rfl) (by simp) (AllReadyH.cons (i := 0) (o := { dst := some 60, op := Op.buildSlice 27 0 #[], type := 27, pos := "ref.go:71", after := #[], guard := none }) rfl ?_ AllReadyH.nil)
    · intro K1 hK1
      refine step_bs0 (by rfl) 27 rfl (run_bs0 _) ?_
      obtain ⟨V2, hv2⟩ : ∃ V, V1.alloc (.cells #[] 37) = V := ⟨_, rfl⟩
      have hbl2 : Below V1.heap.size V1 V2 := by rw [← hv2]; exact below_al _ _
      have hS2 : Hid (A.grownBy V2 (some r)) := grown_tr hS1.out (gr_below hbl2)
      have hZ2 : Hid (Blk V2 r 37 Z) := hZ1.out.below hbl2 hZ1.out.lt
      obtain ⟨q0, hq2⟩ : ∃ m, V1.heap.size = m := ⟨_, rfl⟩
      have hE2 : Hid (OwE V2 A.heap.size (.slice (some ⟨q0, 0, none⟩) 0 0) []) := by rw [← hv2, ← hq2]; exact (own0 V1).mono hS1.out.size
      have hR2 : Hid (EsR V2 (.slice (some ⟨q4, 0, none⟩) 1 1) [x]) := hR1.out.below hbl2
      have hN2 : Hid (q0 ≠ q4) := by have := hL1.out; show q0 ≠ q4; omega
      rw [hv2, hq2]
      clear hv2 hq2 hbl2
      refine hK1.out _ _ hS2.out ?_
      clear hK1
      intro _
      try simp only [Act.put, List.setIfInBounds_toArray, List.set_cons_zero, List.set_cons_succ]
      refine wpAnyH_ready (rs := [2]) (by kernel_rfl) (by simp) (AllReadyH.cons (i := 2) (o := { dst := some 62, op := Op.call { callee := Callee.builtin Builtin.append, args := #[Operand.tmp 60, Operand.tmp 61], argTypes := #[27, 27] }, type := 27, pos := "ref.go:71", after := #[{ on := 0, ground := Ground.data }, { on := 1, ground := Ground.data }], guard := none }) rfl ?_ AllReadyH.nil)
      · intro K1 hK1
        refine step_app (by rfl) (.tmp 60) (.tmp 61) rfl hE2.out (HES.out V2 hS2.out) (by have := HN.out; simp; omega) hS2.out.size rfl rfl ?_
        intro v2 V3 ho3 hg3 hp3
        have hO3 : Hid (OwE V3 A.heap.size v2 l) := ho3.out
        have hS3 : Hid (A.grownBy V3 (some r)) := gr_own hS2.out hg3.out (fun j hj => (hE2.out.lt hj).1)
        have hZ3 : Hid (Blk V3 r 37 Z) := hZ2.out.kept hg3.out (fun hk => by have := (hE2.out.lt hk.symm).1; have := HRL.out; omega)
        have hR3 : Hid (EsR V3 (.slice (some ⟨q4, 0, none⟩) 1 1) [x]) := hR2.out.gr hg3.out (fun hk => hN2.out (by cases hk; rfl))
        clear ho3 hg3 hp3
        refine hK1.out _ _ hS3.out ?_
        clear hK1
        intro _
        try simp only [Act.put, List.setIfInBounds_toArray, List.set_cons_zero, List.set_cons_succ]
        refine wpAnyH_ready (rs := [5]) (by kernel_rfl) (by simp) (AllReadyH.cons (i := 5) (o := { dst := some 65, op := Op.call { callee := Callee.builtin Builtin.append, args := #[Operand.tmp 62, Operand.tmp 64], argTypes := #[27, 27] }, type := 27, pos := "ref.go:71", after := #[{ on := 2, ground := Ground.data }, { on := 4, ground := Ground.data }, { on := 2, ground := Ground.chain }], guard := none }) rfl ?_ AllReadyH.nil)
        · intro K1 hK1
          refine step_app (by rfl) (.tmp 62) (.tmp 64) rfl hO3.out hR3.out (by have := HN.out; simp; omega) hS3.out.size rfl rfl ?_
          intro v5 V4 ho4 hg4 hp4
          have hS4 : Hid (A.grownBy V4 (some r)) := gr_own hS3.out hg4.out (fun j hj => (hO3.out.lt hj).1)
          have hZ4 : Hid (Blk V4 r 37 Z) := hZ3.out.kept hg4.out (fun hk => by have := (hO3.out.lt hk.symm).1; have := HRL.out; omega)
          clear hg4 hp4
          refine hK1.out _ _ hS4.out ?_
          clear hK1
          intro _
          try simp only [Act.put, List.setIfInBounds_toArray, List.set_cons_zero, List.set_cons_succ]
          refine wpAnyH_take (i := 7) (oi := { dst := some 8, op := Op.assign (Operand.tmp 65), type := 27, pos := "ref.go:71", after := #[{ on := 5, ground := Ground.data }, { on := 5, ground := Ground.chain }, { on := 0, ground := Ground.phase }, { on := 1, ground := Ground.phase }, { on := 2, ground := Ground.phase }, { on := 3, ground := Ground.phase }, { on := 4, ground := Ground.phase }, { on := 5, ground := Ground.phase }, { on := 6, ground := Ground.textOnly Departure.lateStores }], guard := none }) (v := v5) rfl (by kernel_rfl) (by kernel_rfl) (by kernel_rfl) (fun _ _ _ h => h.elim) (Or.inl ⟨by rfl, ?y6⟩) hS4.out ?_
          case y6 =>
            intro V hV
            go_simp
          simp only [Act.put, List.setIfInBounds_toArray, List.set_cons_zero, List.set_cons_succ]
          refine wpAnyH_ready (rs := [8]) (by kernel_rfl) (by simp) (AllReadyH.cons (i := 8) (o := { dst := none, op := Op.store 37 (Operand.tmp 9) (Operand.tmp 66), type := 0, pos := "ref.go:71", after := #[{ on := 6, ground := Ground.data }, { on := 7, ground := Ground.chain }, { on := 0, ground := Ground.phase }, { on := 1, ground := Ground.phase }, { on := 2, ground := Ground.phase }, { on := 3, ground := Ground.phase }, { on := 4, ground := Ground.phase }, { on := 5, ground := Ground.phase }, { on := 6, ground := Ground.phase }, { on := 7, ground := Ground.phase }], guard := none }) rfl ?_ AllReadyH.nil)
          · intro K1 hK1
            refine step_stB (by rfl) 37 (.tmp 9) (.tmp 66) rfl r x.cells 37 Z rfl rfl hZ4.out HX.out.2 (info37 HX.out.1) (En.one _) ?_
            intro V5 hX5 hg5
            have hS5 : Hid (A.grownBy V5 (some r)) := grown_tr hS4.out hg5.out
            have hP5 : Hid (OwE V5 A.heap.size v5 (l ++ [x])) := ho4.out.same (fun g hgo => hg5.out.block g (ho4.out.lt hgo).2 (fun hk => by cases hk; have := (ho4.out.lt hgo).1; have := HRL.out; omega))
            clear hg5
            refine hK1.out _ _ hS5.out ?_
            clear hK1
            intro _
            try simp only [Act.put, List.setIfInBounds_toArray, List.set_cons_zero, List.set_cons_succ]
            refine wpAnyH_take (i := 9) (oi := { dst := some 10, op := Op.assign (Operand.const (Value.int IntKind.i64 0)), type := 3, pos := "ref.go:71", after := #[{ on := 8, ground := Ground.chain }, { on := 0, ground := Ground.phase }, { on := 1, ground := Ground.phase }, { on := 2, ground := Ground.phase }, { on := 3, ground := Ground.phase }, { on := 4, ground := Ground.phase }, { on := 5, ground := Ground.phase }, { on := 6, ground := Ground.phase }, { on := 7, ground := Ground.phase }, { on := 8, ground := Ground.phase }], guard := none }) (v := iv 0) rfl (by kernel_rfl) (by kernel_rfl) (by kernel_rfl) (fun _ _ _ h => h.elim) (Or.inl ⟨by rfl, ?y7⟩) hS5.out ?_
            case y7 =>
              intro V hV
              go_simp
            simp only [Act.put, List.setIfInBounds_toArray, List.set_cons_zero, List.set_cons_succ]
            refine wpAnyH_done (by kernel_rfl) ?_ _
            exact hQ V5 _ _ _ _ hX5.out hP5.out hS5.out
end Go.Proofs.YtmmpafaegmejlaaDoor.Oct

/- Layer 19 (audit): the reference's Append. -/
namespace Go.Proofs.YtmmpafaegmejlaaDoor.Oct
open Go.RowKit Sha
set_option linter.unusedSimpArgs false
set_option linter.unusedVariables false

theorem ret_tct {R : Ending → World → Prop} {fn : Func} {t pt u : Tmp} {ty : TypeId} {a : Act} {w : World} {g : Nat} {X : List Value} {d : TypeDesc} (hr : fn.results = #[.tmp t, .cell pt ty, .tmp u]) (hd : a.defers = []) (hp : a.tmps.getD pt undef = .pointer (some ⟨g, 0, none⟩))
    (hb : Blk w g ty X) (hu : Tryd.prog.underlying ty = some d) (hrow : d.isRow = true) (hi : (Tryd.prog.info? ty).map (·.size) = some X.length) (hR : R (.returned (.tuple #[a.tmps.getD t undef, .agg X.toArray, a.tmps.getD u undef])) w) : bodyPost Tryd.prog fn R .ret a w := by
  have hl := run_loadVar_mid (P := Tryd.prog) w g 0 ty X _ hb.range0 hu hrow hi
  refine bodyPost_ret (v := .tuple #[a.tmps.getD t undef, .agg X.toArray, a.tmps.getD u undef]) ?_ hd hR
  unfold results
  rw [hr]
  have hp2 : a.tmps[pt]?.getD undef = .pointer (some ⟨g, 0, none⟩) := by rw [← hp]; simp
  simp [hp2, asAddr, hl, Result.andThen, Sem.run_bind]
theorem built37y (s t : Int) (p q : BA) (h : List UInt8) (hl : h.length = 32) : Tryd.prog.built 37 [(0, iv s), (1, iv t), (2, .string p), (3, .string q), (4, .agg (U h).toArray)] = some (En.mk s t p q h).cells.toArray := by
  obtain ⟨a0, a1, a2, a3, a4, a5, a6, a7, a8, a9, a10, a11, a12, a13, a14, a15, a16, a17, a18, a19, a20, a21, a22, a23, a24, a25, a26, a27, a28, a29, a30, a31, rfl⟩ := len32 hl
  kernel_rfl
/-- what the reference's Append answers -/
def RaP (w : World) (v : Value) (l : List En) (q : En × Int) (e : Ending) (w' : World) : Prop := ∃ v', e = .returned (.tuple #[v', .agg q.1.cells.toArray, iv q.2]) ∧ ((v' = v ∧ lA l q = l) ∨ OwE w' w.heap.size v' (lA l q)) ∧ Below w.heap.size w w'
set_option maxRecDepth 100000 in
set_option maxHeartbeats 4000000 in
theorem refAppend_is {w : World} {v : Value} {l : List En} (h : EsR w v l) (hl : l.length ≤ 4999) (hz : ∀ e ∈ l, e.rz) (h0 : 0 ≤ (lastE l).tick) (tick : Int) (who what : BA) (hw : who.size ≤ 140737488355328) (hwt : what.size ≤ 140737488355328) (ht : tick ≤ 9223372036854775807) : Calls Tryd.prog 15 #[v, iv tick, .string who, .string what] w (RaP w v l (nxE l tick who what)) := by
  obtain ⟨Z, hZ, HZ⟩ := zero37
  have HBL := built37
  have HE' := h
  obtain ⟨hok, a0, cap, rfl, hle, hcap, hr⟩ := h
  obtain ⟨n, hn⟩ : ∃ n, l.length = n := ⟨_, rfl⟩
  obtain ⟨m1, hm1⟩ : ∃ n, who.size = n := ⟨_, rfl⟩
  obtain ⟨m2, hm2⟩ : ∃ n, what.size = n := ⟨_, rfl⟩
  obtain ⟨r, hrr⟩ : ∃ r, w.heap.size = r := ⟨_, rfl⟩
  obtain ⟨A, hA⟩ : ∃ A, w.alloc (.cells Z.toArray 37) = A := ⟨_, rfl⟩
  have hb1 : Below w.heap.size w A := by rw [← hA]; exact below_al _ _
  have hrb : Blk A r 37 Z := by rw [← hA, ← hrr]; exact Blk.new w _ _
  have H : Hid (Below w.heap.size w A ∧ Blk A r 37 Z ∧ w.heap.size ≤ r) := ⟨hb1, hrb, by omega⟩
  have HM : Hid (who.size = m1 ∧ what.size = m2 ∧ l.length = n ∧ tick ≤ 9223372036854775807) := ⟨hm1, hm2, hn, ht⟩
  have HRZ : Hid (∀ e ∈ l, e.rz) := hz
  have HE : Hid (EsR w (.slice a0 n cap) l) := by show EsR w _ l; rw [← hn]; exact HE'
  have qm1 : (m1 : Int) ≤ 140737488355328 := by omega
  have qm2 : (m2 : Int) ≤ 140737488355328 := by omega
  have qn : (n : Int) ≤ 4999 := by omega
  have qt : tick ≤ 9223372036854775807 := ht
  obtain ⟨q, hq⟩ : ∃ q, nxE l tick who what = q := ⟨_, rfl⟩
  have hq2 := hq
  obtain ⟨x, hx⟩ : ∃ x, lastE l = x := ⟨_, rfl⟩
  unfold nxE at hq2
  rw [hx, hm1, hm2, hn] at hq2
  rw [hq, hn]
  rw [hn] at hr
  rw [hx] at h0
  have h4b : n ≤ 4999 := by omega
  clear hq hb1 hrb hw hwt ht hz HE' hle hcap hl
  by_cases hn0 : n = 0
  · have hx0 : x.tick = 0 := by
      rw [← hx, List.length_eq_zero_iff.1 (hn.trans hn0)]; rfl
    have q6 : (n : Int) ≤ 0 := by omega
    rw [hx0] at hq2
    clear hok hr hn hx hx0 h0 hn0
    go_enter Tryd.func15, Tryd.ntmps15
    by_cases h1 : tick < 0
    · have HV : Hid (q = (zE, 2)) := by show q = _; rw [← hq2]; exact if_pos (.inl h1)
      clear hq2 h4b
      go_wp2_with (with_reducible change wpList _ _ _ ({ dst := some 35, op := _, type := _, pos := _, after := _, guard := _ } :: _) _ _; refine Hid.out ?_)
      show wpList _ _ _ _ _ _
      refine wpList_built rfl 37 _ rfl zE.cells.toArray (by rw [← HBL]; simp) ?_
      go_wp2_with (with_reducible change wpList _ _ _ ({ dst := none, op := Op.store 37 _ _, type := _, pos := _, after := _, guard := _ } :: _) _ _; refine Hid.out ?_)
      show wpList _ _ _ _ _ _
      refine wpList_store_blk rfl 37 (.tmp 9) (.tmp 35) rfl r 0 37 Z zE.cells rfl rfl H.out.2.1 (by rw [HZ.out]; omega) (info37 zE_ok) (En.one _) ?_
      intro W2 hx hg
      have H2 : Hid (Blk W2 r 37 zE.cells ∧ Below w.heap.size w W2) := ⟨blk_all hx.out (by rw [HZ.out]), below_gr H.out.1 hg.out H.out.2.2⟩
      clear hx hg
      go_wp2
      refine ret_tct rfl rfl rfl H2.out.1 Tryd.underlying37 rfl (info37 zE_ok) ?_
      rw [HV.out]
      exact ⟨_, rfl, .inl ⟨rfl, rfl⟩, H2.out.2⟩
    by_cases h2 : 1099511627776 < tick
    · have HV : Hid (q = (zE, 2)) := by show q = _; rw [← hq2]; exact if_pos (.inr h2)
      have h1' : 0 ≤ tick := by omega
      clear hq2 h1 h4b
      go_wp2_with (with_reducible change wpList _ _ _ ({ dst := some 35, op := _, type := _, pos := _, after := _, guard := _ } :: _) _ _; refine Hid.out ?_)
      show wpList _ _ _ _ _ _
      refine wpList_built rfl 37 _ rfl zE.cells.toArray (by rw [← HBL]; simp) ?_
      go_wp2_with (with_reducible change wpList _ _ _ ({ dst := none, op := Op.store 37 _ _, type := _, pos := _, after := _, guard := _ } :: _) _ _; refine Hid.out ?_)
      show wpList _ _ _ _ _ _
      refine wpList_store_blk rfl 37 (.tmp 9) (.tmp 35) rfl r 0 37 Z zE.cells rfl rfl H.out.2.1 (by rw [HZ.out]; omega) (info37 zE_ok) (En.one _) ?_
      intro W2 hx hg
      have H2 : Hid (Blk W2 r 37 zE.cells ∧ Below w.heap.size w W2) := ⟨blk_all hx.out (by rw [HZ.out]), below_gr H.out.1 hg.out H.out.2.2⟩
      clear hx hg
      go_wp2
      refine ret_tct rfl rfl rfl H2.out.1 Tryd.underlying37 rfl (info37 zE_ok) ?_
      rw [HV.out]
      exact ⟨_, rfl, .inl ⟨rfl, rfl⟩, H2.out.2⟩
    have h1' : 0 ≤ tick := by omega
    have h2' : tick ≤ 1099511627776 := by omega
    rw [if_neg (fun k => k.elim h1 h2)] at hq2
    clear h1 h2
    by_cases h3 : (16 : Int) < (m1 : Int)
    · have HV : Hid (q = (zE, 3)) := by show q = _; rw [← hq2]; exact if_pos (.inl (by omega))
      clear hq2 h4b
      go_wp2_with (with_reducible change wpList _ _ _ ({ dst := some 50, op := _, type := _, pos := _, after := _, guard := _ } :: _) _ _; refine Hid.out ?_)
      show wpList _ _ _ _ _ _
      refine wpList_built rfl 37 _ rfl zE.cells.toArray (by rw [← HBL]; simp) ?_
      go_wp2_with (with_reducible change wpList _ _ _ ({ dst := none, op := Op.store 37 _ _, type := _, pos := _, after := _, guard := _ } :: _) _ _; refine Hid.out ?_)
      show wpList _ _ _ _ _ _
      refine wpList_store_blk rfl 37 (.tmp 9) (.tmp 50) rfl r 0 37 Z zE.cells rfl rfl H.out.2.1 (by rw [HZ.out]; omega) (info37 zE_ok) (En.one _) ?_
      intro W2 hx hg
      have H2 : Hid (Blk W2 r 37 zE.cells ∧ Below w.heap.size w W2) := ⟨blk_all hx.out (by rw [HZ.out]), below_gr H.out.1 hg.out H.out.2.2⟩
      clear hx hg
      go_wp2
      refine ret_tct rfl rfl rfl H2.out.1 Tryd.underlying37 rfl (info37 zE_ok) ?_
      rw [HV.out]
      exact ⟨_, rfl, .inl ⟨rfl, rfl⟩, H2.out.2⟩
    by_cases h4 : (512 : Int) < (m2 : Int)
    · have HV : Hid (q = (zE, 3)) := by show q = _; rw [← hq2]; exact if_pos (.inr (.inl (by omega)))
      have h3' : (m1 : Int) ≤ 16 := by omega
      clear hq2 h3 h4b
      go_wp2_with (with_reducible change wpList _ _ _ ({ dst := some 50, op := _, type := _, pos := _, after := _, guard := _ } :: _) _ _; refine Hid.out ?_)
      show wpList _ _ _ _ _ _
      refine wpList_built rfl 37 _ rfl zE.cells.toArray (by rw [← HBL]; simp) ?_
      go_wp2_with (with_reducible change wpList _ _ _ ({ dst := none, op := Op.store 37 _ _, type := _, pos := _, after := _, guard := _ } :: _) _ _; refine Hid.out ?_)
      show wpList _ _ _ _ _ _
      refine wpList_store_blk rfl 37 (.tmp 9) (.tmp 50) rfl r 0 37 Z zE.cells rfl rfl H.out.2.1 (by rw [HZ.out]; omega) (info37 zE_ok) (En.one _) ?_
      intro W2 hx hg
      have H2 : Hid (Blk W2 r 37 zE.cells ∧ Below w.heap.size w W2) := ⟨blk_all hx.out (by rw [HZ.out]), below_gr H.out.1 hg.out H.out.2.2⟩
      clear hx hg
      go_wp2
      refine ret_tct rfl rfl rfl H2.out.1 Tryd.underlying37 rfl (info37 zE_ok) ?_
      rw [HV.out]
      exact ⟨_, rfl, .inl ⟨rfl, rfl⟩, H2.out.2⟩
    have h3' : (m1 : Int) ≤ 16 := by omega
    have h4' : (m2 : Int) ≤ 512 := by omega
    have h5' : (n : Int) < 4096 := by omega
    rw [if_neg (by omega)] at hq2
    obtain ⟨D, hD⟩ : ∃ D, hdE l = D := ⟨_, rfl⟩
    have HV : Hid (q = (⟨(n : Int) + 1, tick, who, what, D⟩, 0) ∧ hdE l = D ∧ D.length = 32) := ⟨by rw [← hq2, ← hD], hD, by rw [← hD]; exact hdE_len l⟩
    obtain ⟨y, hy⟩ : ∃ y : En, (⟨(n : Int) + 1, tick, who, what, D⟩ : En) = y := ⟨_, rfl⟩
    have HY : Hid ((⟨(n : Int) + 1, tick, who, what, D⟩ : En) = y ∧ y.ok) := by
      refine ⟨hy, ?_⟩
      rw [← hy]
      exact ⟨HV.out.2.2, by show (n : Int) + 1 ≤ _; omega, HM.out.2.2.2, by show who.size ≤ _; rw [HM.out.1]; omega, by show what.size ≤ _; rw [HM.out.2.1]; omega⟩
    have HBD : Hid (Tryd.prog.built 37 [(0, iv ((n : Int) + 1)), (1, iv tick), (2, .string who), (3, .string what), (4, .agg (U D).toArray)] = some y.cells.toArray) := by rw [← hy]; exact built37y _ _ _ _ D HV.out.2.2
    clear hq2 h3 h4 hD h4b hy
    go_wp2_with fail
    refine (refHead_is (HE.out.below H.out.1) (by rw [HM.out.2.2.1]; omega) HRZ.out D HV.out.2.1).mono ?_
    rintro e W1 ⟨rfl, hb1⟩
    have H1 : Hid (Below w.heap.size w W1 ∧ Blk W1 r 37 Z) := ⟨below_tr H.out.1 hb1, H.out.2.1.below hb1 H.out.2.1.lt⟩
    clear hb1
    obtain ⟨g, hg⟩ : ∃ g, W1.heap.size = g := ⟨_, rfl⟩
    have HG : Hid (W1.heap.size = g) := hg
    go_wp2_with (with_reducible change wpList _ _ _ ({ dst := some 59, op := _, type := _, pos := _, after := _, guard := _ } :: _) _ _; refine Hid.out ?_)
    show wpList _ _ _ _ _ _
    refine wpList_built rfl 37 _ rfl y.cells.toArray (by simp [Act.eval]; exact HBD.out) ?_
    go_wp2_with (with_reducible change wpList _ _ _ ({ dst := none, op := Op.store 37 _ _, type := _, pos := _, after := _, guard := _ } :: _) _ _; refine Hid.out ?_)
    show wpList _ _ _ _ _ _
    refine wpList_store_blk rfl 37 (.tmp 11) (.tmp 59) rfl g 0 37 Z y.cells rfl rfl (by rw [← HG.out]; exact Blk.new W1 _ _) (by rw [HZ.out, En.len zE_ok, En.len HY.out.2]; exact Nat.le_refl _) (info37 HY.out.2) (En.one _) ?_
    intro W2 hx hg2
    have H2 : Hid (Below w.heap.size w W2 ∧ Blk W2 r 37 Z ∧ Blk W2 g 37 y.cells ∧ r < W1.heap.size) := by
      have hb : Below W1.heap.size W1 W2 := below_gr (below_al W1 _) hg2.out (by rw [HG.out]; exact Nat.le_refl _)
      exact ⟨below_tr H1.out.1 hb, H1.out.2.below hb H1.out.2.lt, blk_all hx.out (by rw [HZ.out, En.len zE_ok, En.len HY.out.2]), H1.out.2.lt⟩
    clear hx hg2 hg
    have HL6 : Hid (g < W2.heap.size ∧ some g ≠ some r) := ⟨H2.out.2.2.1.lt, fun e => by cases e; have := H2.out.2.2.2; have := HG.out; omega⟩
    have HR6 : Hid (W2.rangeAt g 0 y.cells) := H2.out.2.2.1.range0
    have HX6 : Hid (y.ok ∧ Z.length = y.cells.length) := ⟨HY.out.2, by rw [HZ.out, En.len zE_ok, En.len HY.out.2]⟩
    have HZ6 : Hid (Blk W2 r 37 Z) := H2.out.2.1
    have HRL6 : Hid (r < W2.heap.size) := H2.out.2.1.lt
    have HN6 : Hid (l.length ≤ 5000) := by have := HM.out.2.2.1; show l.length ≤ 5000; omega
    have HES6 : Hid (∀ V, W2.grownBy V (some r) → EsR V (.slice a0 n cap) l) := fun V hV => HE.out.below (below_gr H2.out.1 hV H.out.2.2)
    go_wp2_with fail
    refine ra6 HL6 HR6 HX6 HZ6 HRL6 HN6 HES6 ?_
    intro V1 q0 v2 q4 v5 hv1 hv2 hv3
    have H7 : Hid (Blk V1 r 37 y.cells ∧ OwE V1 w.heap.size v5 (l ++ [y]) ∧ Below w.heap.size w V1) := ⟨hv1, hv2.mono H2.out.1.size, below_gr H2.out.1 hv3 H.out.2.2⟩
    clear hv1 hv2 hv3
    go_wp2
    refine ret_tct rfl rfl rfl H7.out.1 Tryd.underlying37 rfl (info37 HY.out.2) ?_
    rw [HV.out.1, HY.out.1]
    exact ⟨_, rfl, .inr H7.out.2.1, H7.out.2.2⟩
  · obtain ⟨b, off, rfl, hbl, hel⟩ := hr (by omega)
    have hxl := lastE_at hn (by omega)
    rw [hx] at hxl
    obtain ⟨m, hm⟩ : ∃ m, n - 1 = m := ⟨_, rfl⟩
    rw [hm] at hxl
    have q3 : (n : Int) - 1 = (m : Int) := by omega
    have q4 : (m : Int) < (n : Int) := by omega
    have q5 : m < n := by omega
    have q6 : 0 < (n : Int) := by omega
    have ct : A.cell? ⟨b, off + m * 36 + 1, none⟩ = some (iv x.tick) := (H.out.1.cell (p := ⟨b, off + m * 36 + 1, none⟩) hbl).trans (hel m x hxl 1 (iv x.tick) rfl)
    clear hok hr hn hx hxl hel hbl hm hn0
    go_enter Tryd.func15, Tryd.ntmps15
    by_cases h1 : tick < 0
    · have HV : Hid (q = (zE, 2)) := by show q = _; rw [← hq2]; exact if_pos (.inl (by omega))
      clear hq2 h4b
      go_wp2_with (with_reducible change wpList _ _ _ ({ dst := some 35, op := _, type := _, pos := _, after := _, guard := _ } :: _) _ _; refine Hid.out ?_)
      show wpList _ _ _ _ _ _
      refine wpList_built rfl 37 _ rfl zE.cells.toArray (by rw [← HBL]; simp) ?_
      go_wp2_with (with_reducible change wpList _ _ _ ({ dst := none, op := Op.store 37 _ _, type := _, pos := _, after := _, guard := _ } :: _) _ _; refine Hid.out ?_)
      show wpList _ _ _ _ _ _
      refine wpList_store_blk rfl 37 (.tmp 9) (.tmp 35) rfl r 0 37 Z zE.cells rfl rfl H.out.2.1 (by rw [HZ.out]; omega) (info37 zE_ok) (En.one _) ?_
      intro W2 hx hg
      have H2 : Hid (Blk W2 r 37 zE.cells ∧ Below w.heap.size w W2) := ⟨blk_all hx.out (by rw [HZ.out]), below_gr H.out.1 hg.out H.out.2.2⟩
      clear hx hg
      go_wp2
      refine ret_tct rfl rfl rfl H2.out.1 Tryd.underlying37 rfl (info37 zE_ok) ?_
      rw [HV.out]
      exact ⟨_, rfl, .inl ⟨rfl, rfl⟩, H2.out.2⟩
    by_cases h2 : 1099511627776 < tick
    · have HV : Hid (q = (zE, 2)) := by show q = _; rw [← hq2]; exact if_pos (.inr h2)
      have h1' : 0 ≤ tick := by omega
      clear hq2 h1 h4b
      go_wp2_with (with_reducible change wpList _ _ _ ({ dst := some 35, op := _, type := _, pos := _, after := _, guard := _ } :: _) _ _; refine Hid.out ?_)
      show wpList _ _ _ _ _ _
      refine wpList_built rfl 37 _ rfl zE.cells.toArray (by rw [← HBL]; simp) ?_
      go_wp2_with (with_reducible change wpList _ _ _ ({ dst := none, op := Op.store 37 _ _, type := _, pos := _, after := _, guard := _ } :: _) _ _; refine Hid.out ?_)
      show wpList _ _ _ _ _ _
      refine wpList_store_blk rfl 37 (.tmp 9) (.tmp 35) rfl r 0 37 Z zE.cells rfl rfl H.out.2.1 (by rw [HZ.out]; omega) (info37 zE_ok) (En.one _) ?_
      intro W2 hx hg
      have H2 : Hid (Blk W2 r 37 zE.cells ∧ Below w.heap.size w W2) := ⟨blk_all hx.out (by rw [HZ.out]), below_gr H.out.1 hg.out H.out.2.2⟩
      clear hx hg
      go_wp2
      refine ret_tct rfl rfl rfl H2.out.1 Tryd.underlying37 rfl (info37 zE_ok) ?_
      rw [HV.out]
      exact ⟨_, rfl, .inl ⟨rfl, rfl⟩, H2.out.2⟩
    have h1' : 0 ≤ tick := by omega
    have h2' : tick ≤ 1099511627776 := by omega
    by_cases h6 : tick < x.tick
    · have HV : Hid (q = (zE, 2)) := by show q = _; rw [← hq2]; exact if_pos (.inl h6)
      clear hq2 h1 h2 h4b
      go_wp2_with (with_reducible change wpList _ _ _ ({ dst := some 35, op := _, type := _, pos := _, after := _, guard := _ } :: _) _ _; refine Hid.out ?_)
      show wpList _ _ _ _ _ _
      refine wpList_built rfl 37 _ rfl zE.cells.toArray (by rw [← HBL]; simp) ?_
      go_wp2_with (with_reducible change wpList _ _ _ ({ dst := none, op := Op.store 37 _ _, type := _, pos := _, after := _, guard := _ } :: _) _ _; refine Hid.out ?_)
      show wpList _ _ _ _ _ _
      refine wpList_store_blk rfl 37 (.tmp 9) (.tmp 35) rfl r 0 37 Z zE.cells rfl rfl H.out.2.1 (by rw [HZ.out]; omega) (info37 zE_ok) (En.one _) ?_
      intro W2 hx hg
      have H2 : Hid (Blk W2 r 37 zE.cells ∧ Below w.heap.size w W2) := ⟨blk_all hx.out (by rw [HZ.out]), below_gr H.out.1 hg.out H.out.2.2⟩
      clear hx hg
      go_wp2
      refine ret_tct rfl rfl rfl H2.out.1 Tryd.underlying37 rfl (info37 zE_ok) ?_
      rw [HV.out]
      exact ⟨_, rfl, .inl ⟨rfl, rfl⟩, H2.out.2⟩
    have h6' : x.tick ≤ tick := by omega
    rw [if_neg (fun k => k.elim h6 h2)] at hq2
    clear h1 h2 h6
    by_cases h3 : (16 : Int) < (m1 : Int)
    · have HV : Hid (q = (zE, 3)) := by show q = _; rw [← hq2]; exact if_pos (.inl (by omega))
      clear hq2 h4b
      go_wp2_with (with_reducible change wpList _ _ _ ({ dst := some 50, op := _, type := _, pos := _, after := _, guard := _ } :: _) _ _; refine Hid.out ?_)
      show wpList _ _ _ _ _ _
      refine wpList_built rfl 37 _ rfl zE.cells.toArray (by rw [← HBL]; simp) ?_
      go_wp2_with (with_reducible change wpList _ _ _ ({ dst := none, op := Op.store 37 _ _, type := _, pos := _, after := _, guard := _ } :: _) _ _; refine Hid.out ?_)
      show wpList _ _ _ _ _ _
      refine wpList_store_blk rfl 37 (.tmp 9) (.tmp 50) rfl r 0 37 Z zE.cells rfl rfl H.out.2.1 (by rw [HZ.out]; omega) (info37 zE_ok) (En.one _) ?_
      intro W2 hx hg
      have H2 : Hid (Blk W2 r 37 zE.cells ∧ Below w.heap.size w W2) := ⟨blk_all hx.out (by rw [HZ.out]), below_gr H.out.1 hg.out H.out.2.2⟩
      clear hx hg
      go_wp2
      refine ret_tct rfl rfl rfl H2.out.1 Tryd.underlying37 rfl (info37 zE_ok) ?_
      rw [HV.out]
      exact ⟨_, rfl, .inl ⟨rfl, rfl⟩, H2.out.2⟩
    by_cases h4 : (512 : Int) < (m2 : Int)
    · have HV : Hid (q = (zE, 3)) := by show q = _; rw [← hq2]; exact if_pos (.inr (.inl (by omega)))
      have h3' : (m1 : Int) ≤ 16 := by omega
      clear hq2 h3 h4b
      go_wp2_with (with_reducible change wpList _ _ _ ({ dst := some 50, op := _, type := _, pos := _, after := _, guard := _ } :: _) _ _; refine Hid.out ?_)
      show wpList _ _ _ _ _ _
      refine wpList_built rfl 37 _ rfl zE.cells.toArray (by rw [← HBL]; simp) ?_
      go_wp2_with (with_reducible change wpList _ _ _ ({ dst := none, op := Op.store 37 _ _, type := _, pos := _, after := _, guard := _ } :: _) _ _; refine Hid.out ?_)
      show wpList _ _ _ _ _ _
      refine wpList_store_blk rfl 37 (.tmp 9) (.tmp 50) rfl r 0 37 Z zE.cells rfl rfl H.out.2.1 (by rw [HZ.out]; omega) (info37 zE_ok) (En.one _) ?_
      intro W2 hx hg
      have H2 : Hid (Blk W2 r 37 zE.cells ∧ Below w.heap.size w W2) := ⟨blk_all hx.out (by rw [HZ.out]), below_gr H.out.1 hg.out H.out.2.2⟩
      clear hx hg
      go_wp2
      refine ret_tct rfl rfl rfl H2.out.1 Tryd.underlying37 rfl (info37 zE_ok) ?_
      rw [HV.out]
      exact ⟨_, rfl, .inl ⟨rfl, rfl⟩, H2.out.2⟩
    by_cases h5 : (4096 : Int) ≤ (n : Int)
    · have HV : Hid (q = (zE, 3)) := by show q = _; rw [← hq2]; exact if_pos (.inr (.inr (by omega)))
      have h3' : (m1 : Int) ≤ 16 := by omega
      have h4' : (m2 : Int) ≤ 512 := by omega
      clear hq2 h3 h4 h4b
      go_wp2_with (with_reducible change wpList _ _ _ ({ dst := some 50, op := _, type := _, pos := _, after := _, guard := _ } :: _) _ _; refine Hid.out ?_)
      show wpList _ _ _ _ _ _
      refine wpList_built rfl 37 _ rfl zE.cells.toArray (by rw [← HBL]; simp) ?_
      go_wp2_with (with_reducible change wpList _ _ _ ({ dst := none, op := Op.store 37 _ _, type := _, pos := _, after := _, guard := _ } :: _) _ _; refine Hid.out ?_)
      show wpList _ _ _ _ _ _
      refine wpList_store_blk rfl 37 (.tmp 9) (.tmp 50) rfl r 0 37 Z zE.cells rfl rfl H.out.2.1 (by rw [HZ.out]; omega) (info37 zE_ok) (En.one _) ?_
      intro W2 hx hg
      have H2 : Hid (Blk W2 r 37 zE.cells ∧ Below w.heap.size w W2) := ⟨blk_all hx.out (by rw [HZ.out]), below_gr H.out.1 hg.out H.out.2.2⟩
      clear hx hg
      go_wp2
      refine ret_tct rfl rfl rfl H2.out.1 Tryd.underlying37 rfl (info37 zE_ok) ?_
      rw [HV.out]
      exact ⟨_, rfl, .inl ⟨rfl, rfl⟩, H2.out.2⟩
    have h3' : (m1 : Int) ≤ 16 := by omega
    have h4' : (m2 : Int) ≤ 512 := by omega
    have h5' : (n : Int) < 4096 := by omega
    rw [if_neg (by omega)] at hq2
    obtain ⟨D, hD⟩ : ∃ D, hdE l = D := ⟨_, rfl⟩
    have HV : Hid (q = (⟨(n : Int) + 1, tick, who, what, D⟩, 0) ∧ hdE l = D ∧ D.length = 32) := ⟨by rw [← hq2, ← hD], hD, by rw [← hD]; exact hdE_len l⟩
    obtain ⟨y, hy⟩ : ∃ y : En, (⟨(n : Int) + 1, tick, who, what, D⟩ : En) = y := ⟨_, rfl⟩
    have HY : Hid ((⟨(n : Int) + 1, tick, who, what, D⟩ : En) = y ∧ y.ok) := by
      refine ⟨hy, ?_⟩
      rw [← hy]
      exact ⟨HV.out.2.2, by show (n : Int) + 1 ≤ _; omega, HM.out.2.2.2, by show who.size ≤ _; rw [HM.out.1]; omega, by show what.size ≤ _; rw [HM.out.2.1]; omega⟩
    have HBD : Hid (Tryd.prog.built 37 [(0, iv ((n : Int) + 1)), (1, iv tick), (2, .string who), (3, .string what), (4, .agg (U D).toArray)] = some y.cells.toArray) := by rw [← hy]; exact built37y _ _ _ _ D HV.out.2.2
    clear hq2 h3 h4 h5 hD h4b hy
    go_wp2_with fail
    refine (refHead_is (HE.out.below H.out.1) (by rw [HM.out.2.2.1]; omega) HRZ.out D HV.out.2.1).mono ?_
    rintro e W1 ⟨rfl, hb1⟩
    have H1 : Hid (Below w.heap.size w W1 ∧ Blk W1 r 37 Z) := ⟨below_tr H.out.1 hb1, H.out.2.1.below hb1 H.out.2.1.lt⟩
    clear hb1
    obtain ⟨g, hg⟩ : ∃ g, W1.heap.size = g := ⟨_, rfl⟩
    have HG : Hid (W1.heap.size = g) := hg
    go_wp2_with (with_reducible change wpList _ _ _ ({ dst := some 59, op := _, type := _, pos := _, after := _, guard := _ } :: _) _ _; refine Hid.out ?_)
    show wpList _ _ _ _ _ _
    refine wpList_built rfl 37 _ rfl y.cells.toArray (by simp [Act.eval]; exact HBD.out) ?_
    go_wp2_with (with_reducible change wpList _ _ _ ({ dst := none, op := Op.store 37 _ _, type := _, pos := _, after := _, guard := _ } :: _) _ _; refine Hid.out ?_)
    show wpList _ _ _ _ _ _
    refine wpList_store_blk rfl 37 (.tmp 11) (.tmp 59) rfl g 0 37 Z y.cells rfl rfl (by rw [← HG.out]; exact Blk.new W1 _ _) (by rw [HZ.out, En.len zE_ok, En.len HY.out.2]; exact Nat.le_refl _) (info37 HY.out.2) (En.one _) ?_
    intro W2 hx hg2
    have H2 : Hid (Below w.heap.size w W2 ∧ Blk W2 r 37 Z ∧ Blk W2 g 37 y.cells ∧ r < W1.heap.size) := by
      have hb : Below W1.heap.size W1 W2 := below_gr (below_al W1 _) hg2.out (by rw [HG.out]; exact Nat.le_refl _)
      exact ⟨below_tr H1.out.1 hb, H1.out.2.below hb H1.out.2.lt, blk_all hx.out (by rw [HZ.out, En.len zE_ok, En.len HY.out.2]), H1.out.2.lt⟩
    clear hx hg2 hg
    have HL6 : Hid (g < W2.heap.size ∧ some g ≠ some r) := ⟨H2.out.2.2.1.lt, fun e => by cases e; have := H2.out.2.2.2; have := HG.out; omega⟩
    have HR6 : Hid (W2.rangeAt g 0 y.cells) := H2.out.2.2.1.range0
    have HX6 : Hid (y.ok ∧ Z.length = y.cells.length) := ⟨HY.out.2, by rw [HZ.out, En.len zE_ok, En.len HY.out.2]⟩
    have HZ6 : Hid (Blk W2 r 37 Z) := H2.out.2.1
    have HRL6 : Hid (r < W2.heap.size) := H2.out.2.1.lt
    have HN6 : Hid (l.length ≤ 5000) := by have := HM.out.2.2.1; show l.length ≤ 5000; omega
    have HES6 : Hid (∀ V, W2.grownBy V (some r) → EsR V (.slice (some ⟨b, off, none⟩) n cap) l) := fun V hV => HE.out.below (below_gr H2.out.1 hV H.out.2.2)
    go_wp2_with fail
    refine ra6 HL6 HR6 HX6 HZ6 HRL6 HN6 HES6 ?_
    intro V1 q0 v2 q4 v5 hv1 hv2 hv3
    have H7 : Hid (Blk V1 r 37 y.cells ∧ OwE V1 w.heap.size v5 (l ++ [y]) ∧ Below w.heap.size w V1) := ⟨hv1, hv2.mono H2.out.1.size, below_gr H2.out.1 hv3 H.out.2.2⟩
    clear hv1 hv2 hv3
    go_wp2
    refine ret_tct rfl rfl rfl H7.out.1 Tryd.underlying37 rfl (info37 HY.out.2) ?_
    rw [HV.out.1, HY.out.1]
    exact ⟨_, rfl, .inr H7.out.2.1, H7.out.2.2⟩
end Go.Proofs.YtmmpafaegmejlaaDoor.Oct

/- Layer 19 (audit): the law AuditPlays: what its loop keeps. -/
namespace Go.Proofs.YtmmpafaegmejlaaDoor.Oct
open Go.RowKit Sha
set_option linter.unusedSimpArgs false
set_option linter.unusedVariables false

theorem Lg.mono {w : World} {B B' L c : Nat} {v : Value} {l : List En} (h : Lg w B L c v l) (hB : B' ≤ B) : Lg w B' L c v l :=
  ⟨h.lg, h.ch, h.row.mono hB, h.sz, Nat.le_trans hB h.bl, Nat.le_trans hB h.bc, h.ne, h.nl, h.nc, h.len⟩
theorem rz_of_ok {l : List En} (h : ∀ i, i < l.length → okAt l i) : ∀ e ∈ l, e.rz := by
  intro e he
  obtain ⟨i, hi, he2⟩ := List.mem_iff_getElem.1 he
  have hg : l[i]? = some e := by rw [List.getElem?_eq_getElem hi, he2]
  have := (okAt_prev (h i hi) hg).2
  show e.who.size + e.what.size ≤ 200000
  omega
theorem tick_take {l : List En} (h : ∀ i, i < l.length → okAt l i) : ∀ k, k ≤ l.length → 0 ≤ (lastE (l.take k)).tick
  | 0, _ => by rw [List.take_zero]; exact Int.le_refl 0
  | k + 1, hk => by
    have ih := tick_take h k (by omega)
    obtain ⟨e, he⟩ : ∃ e, l[k]? = some e := ⟨_, List.getElem?_eq_getElem (by omega)⟩
    have h1 := h k (by omega) e he
    have hl : lastE (l.take (k + 1)) = e := by
      unfold lastE
      rw [List.take_add_one, he]
      simp
    rw [hl]
    unfold nxE at h1
    split at h1
    · have := congrArg Prod.snd h1
      cases this
    · rename_i h2
      omega
theorem tick_ok {l : List En} (h : ∀ i, i < l.length → okAt l i) : 0 ≤ (lastE l).tick := by
  have := tick_take h l.length (Nat.le_refl _)
  rwa [List.take_of_length_le (Nat.le_refl _)] at this
/-- what an Append leaves, and the reference's row apart from it -/
def CK (w : World) (B L c i : Nat) (es fs : List En) (vl : Value) (a4 : Option Addr) (c4 : Nat) (wr : World) : Prop :=
  CJ w B L c i es fs vl a4 c4 wr ∧ ∀ g, (Value.slice a4 es.length c4).ownBlock = some g → g ≠ c ∧ vl.ownBlock ≠ some g
theorem CK.below {w wr wr' : World} {B L c i : Nat} {es fs : List En} {vl : Value} {a4 : Option Addr} {c4 : Nat} (h : CK w B L c i es fs vl a4 c4 wr) (hb : Below wr.heap.size wr wr') : CK w B L c i es fs vl a4 c4 wr' := ⟨h.1.below hb, h.2⟩
theorem CI.app2 {w wr wr' : World} {B L c i : Nat} {es : List En} {vl : Value} {a4 : Option Addr} {c4 : Nat} {tick : Int} {who what : BA} {e : Ending} (h : CI w B L c i es vl a4 c4 wr) (hp : ApP wr B L c vl es (nxE es tick who what) e wr') : ∃ vl', CK w B L c i es (lA es (nxE es tick who what)) vl' a4 c4 wr' := by
  have hp' := hp
  obtain ⟨_, v', h1, h2, h3⟩ := hp
  have hS : ∀ k, SC c vl k → B ≤ k := fun k hk => by
    rcases hk with rfl | hk
    · exact h.1.bc
    · exact (h.1.row.lt hk).1
  refine ⟨v', ⟨h1, h.2.1.same fun g hg => h3.block g (h.2.1.lt hg).2 fun hk => ?_, lA_take _ _, (lA_len _ _).2, by have := (lA_len es (nxE es tick who what)).1; have := h.2.2.2.1; omega, ok_step h.2.2.2.2.1, h.2.2.2.2.2.1.trans (h3.toBelow (Nat.le_trans h.2.2.2.2.2.2.1 h.2.2.2.2.2.2.2) fun k hk => Nat.le_trans h.2.2.2.2.2.2.1 (hS k hk)), h.2.2.2.2.2.2.1, Nat.le_trans h.2.2.2.2.2.2.2 h3.size⟩, fun g hg => ⟨(h.2.2.1 g hg).1, fun hv => ?_⟩⟩
  · have := h.2.2.1 g hg
    rcases hk with hk | hk
    · exact this.1 hk
    · exact this.2 hk
  · rcases h2 with h2 | ⟨g2, h2, h4⟩
    · exact (h.2.2.1 g hg).2 (h2.symm.trans hv)
    · rw [hv] at h2
      cases h2
      have := (h.2.1.lt hg).2
      omega
theorem CK.ref {w W W' : World} {B L c i : Nat} {es fs : List En} {vl v' : Value} {a4 : Option Addr} {c4 : Nat} {q : En × Int} (h : CK w B L c i es fs vl a4 c4 W) (hfs : lA es q = fs) (hb : Below W.heap.size W W') (hv : (v' = .slice a4 es.length c4 ∧ lA es q = es) ∨ OwE W' W.heap.size v' (lA es q)) : ∃ a' c', v' = .slice a' fs.length c' ∧ CI w B L c (i + 1) fs vl a' c' W' := by
  have hh := (h.below hb).1
  rw [hfs] at hv
  rcases hv with ⟨rfl, rfl⟩ | ho
  · exact ⟨a4, c4, rfl, hh.1, hh.2.1, h.2, hh.2.2.2.2.1, hh.2.2.2.2.2.1, hh.2.2.2.2.2.2.1, hh.2.2.2.2.2.2.2.1, hh.2.2.2.2.2.2.2.2⟩
  · obtain ⟨a', c', rfl⟩ := ow_slice ho
    refine ⟨a', c', rfl, hh.1, ho.mono h.1.2.2.2.2.2.2.2.2, fun g hg => ?_, hh.2.2.2.2.1, hh.2.2.2.2.2.1, hh.2.2.2.2.2.2.1, hh.2.2.2.2.2.2.2.1, hh.2.2.2.2.2.2.2.2⟩
    have hl := (ho.lt hg).1
    refine ⟨fun e => ?_, fun e => ?_⟩
    · have := h.1.1.ch.lt; omega
    · have := (h.1.1.row.lt e).2; omega
/-- the log loaded anew -/
theorem CI.load {w W W' : World} {B L c L' c' i : Nat} {es : List En} {vl v' : Value} {a4 : Option Addr} {c4 : Nat} (h : CI w B L c i es vl a4 c4 W) (hb : Below W.heap.size W W') (hl : Lg W' W.heap.size L' c' v' es) : CI w B L' c' i es v' a4 c4 W' := by
  have hh := h.below hb
  refine ⟨hl.mono h.2.2.2.2.2.2.2, hh.2.1, fun g hg => ?_, hh.2.2.2.1, hh.2.2.2.2.1, hh.2.2.2.2.2.1, hh.2.2.2.2.2.2.1, hh.2.2.2.2.2.2.2⟩
  have hlt := (h.2.1.lt hg).2
  refine ⟨fun e => ?_, fun e => ?_⟩
  · have := hl.bc; omega
  · have := (hl.row.lt e).1; omega
end Go.Proofs.YtmmpafaegmejlaaDoor.Oct

/- Layer 19 (audit): the law AuditPlays. -/
namespace Go.Proofs.YtmmpafaegmejlaaDoor.Oct
open Go.RowKit Sha
set_option linter.unusedSimpArgs false
set_option linter.unusedVariables false

theorem CI.gr {w W W' : World} {B L c i g : Nat} {es : List En} {vl : Value} {a4 : Option Addr} {c4 : Nat} (h : CI w B L c i es vl a4 c4 W) (k : W.grownBy W' (some g)) (h1 : L ≠ g) (h2 : c ≠ g) (h3 : ∀ j, vl.ownBlock = some j → j ≠ g) (h4 : ∀ j, (Value.slice a4 es.length c4).ownBlock = some j → j ≠ g) (hg : w.heap.size ≤ g) : CI w B L c i es vl a4 c4 W' :=
  ⟨h.1.same (k.block L h.1.lg.lt (fun e => h1 (by cases e; rfl))) (k.block c h.1.ch.lt (fun e => h2 (by cases e; rfl))) (fun j hj => k.block j (h.1.row.lt hj).2 (fun e => h3 j hj (by cases e; rfl))), h.2.1.same (fun j hj => k.block j (h.2.1.lt hj).2 (fun e => h4 j hj (by cases e; rfl))), h.2.2.1, h.2.2.2.1, h.2.2.2.2.1, below_gr h.2.2.2.2.2.1 k hg, h.2.2.2.2.2.2.1, Nat.le_trans h.2.2.2.2.2.2.2 k.size⟩
/-- a row of one's own that is being spoilt -/
def SpI (W : World) (a : Option Addr) (m : Nat) (wq : World) : Prop := Below W.heap.size W wq ∧ (0 < m → ∃ p cur, a = some ⟨p, 0, none⟩ ∧ W.heap.size ≤ p ∧ Blk wq p 37 cur ∧ m * 36 ≤ cur.length)
theorem spI_of {W W' : World} {a : Option Addr} {c m : Nat} {l : List En} (h : OwE W' W.heap.size (.slice a m c) l) (hm : l.length = m) (hb : Below W.heap.size W W') : SpI W a m W' := by
  refine ⟨hb, fun hp => ?_⟩
  have hs := h.1.2
  rcases hs with ⟨h0, h1⟩ | ⟨g, cap, cur, h0, hB, hbl, hn, hc, hsz, ht⟩
  · omega
  · cases h0
    refine ⟨g, cur.toList, rfl, hB, hbl, ?_⟩
    have h2 := congrArg List.length ht
    rw [cellsE_len h.2, List.length_take] at h2
    rw [← hm]
    omega
set_option maxRecDepth 100000 in
set_option maxHeartbeats 8000000 in
theorem plays_law {w : World} {a : Option Addr} {n cap : Nat} {l : List ActV} (h : ArgA w a n cap l) (hk : KT w) (hs : ST w) : Calls Tryd.prog 3 #[.slice a n cap] w fun e w' => e = .returned (.bool true) ∧ Below w.heap.size w w' := by
  have HA : Hid (ArgA w a n cap l) := h
  have HK : Hid (KT w ∧ ST w) := ⟨hk, hs⟩
  have qn : (n : Int) ≤ 140737488355328 := by have := h.2.1; omega
  obtain ⟨Z9, hZ9, HZ9⟩ := zero29
  obtain ⟨Z, hZ, HZ⟩ := zero37
  have HZL : Hid (Z.length = 36) := by show _ = _; rw [HZ.out]; exact En.len zE_ok
  clear h hk hs HZ
  go_enter Tryd.func3, Tryd.ntmps3
  go_wp2_with fail
  refine (few_is HA.out).mono ?_
  rintro e X ⟨b, rfl, hbn, hbx⟩
  have HX : Hid (Below w.heap.size w X) := hbx
  clear hbx
  cases b
  · clear hbn
    go_wp2_with fail
    refine (lives_is X (HK.out.1.below HX.out) (HK.out.2.below HX.out)).mono ?_
    rintro e X2 ⟨rfl, hb2⟩
    have HF : Hid (Below w.heap.size w X2) := below_tr HX.out hb2
    clear hb2
    go_wp2
    go_ret
    exact ⟨rfl, HF.out⟩
  · have hn60 := hbn.out rfl
    clear hbn
    have HN60 : Hid (n ≤ 60) := hn60
    clear hn60
    go_wp2_with fail
    refine (new_log X).mono ?_
    rintro e X2 ⟨L0, k0, rfl, hlg, hb2⟩
    have H2 : Hid (CI w X.heap.size L0 k0 0 [] (.slice none 0 0) none 0 X2) := ⟨hlg.out, OwE.nil _ _, (fun g hg => nomatch hg), Nat.le_refl _, (fun j hj => absurd hj (Nat.not_lt_zero j)), below_tr HX.out hb2, HX.out.size, hb2.size⟩
    clear hlg hb2
    obtain ⟨B, hB⟩ : ∃ B, X.heap.size = B := ⟨_, rfl⟩
    rw [hB] at H2
    clear hB HX
    go_wp2
    go_loopw [22, 3, 4] (fun u t s wr => ∃ (i : Nat) (L c : Nat) (es : List En) (vl : Value) (a4 : Option Addr) (c4 m : Nat), u = iv (i : Int) ∧ t = .pointer (some ⟨L, 0, none⟩) ∧ s = .slice a4 m c4 ∧ Hid (i ≤ n ∧ es.length = m ∧ CI w B L c i es vl a4 c4 wr)) (fun u _ _ _ => n - (intOf u).toNat)
    case atStart => exact ⟨0, L0, k0, [], _, none, 0, 0, rfl, rfl, rfl, Nat.zero_le _, rfl, H2.out⟩
    case round =>
      clear H2 k0
      obtain ⟨W0, hW0⟩ : ∃ W0, W0 = wr := ⟨_, rfl⟩
      subst hW0
      obtain ⟨i, L, c, es, vl, a4, c4, m, rfl, rfl, rfl, HI⟩ := hrel
      by_cases hi : i = n
      · subst hi
        have HKW : Hid (KT W0 ∧ ST W0) := ⟨HK.out.1.below HI.out.2.2.2.2.2.2.2.1, HK.out.2.below HI.out.2.2.2.2.2.2.2.1⟩
        go_wp2_with fail
        refine (entries_is HI.out.2.2.1).mono ?_
        rintro e W3 ⟨v7, rfl, ho7, hb3⟩
        have H3 : Hid (EsR W3 v7 es ∧ CI w B L c i es vl a4 c4 W3) := ⟨ho7.out.esr, HI.out.2.2.below hb3⟩
        clear ho7 hb3
        go_wp2_with fail
        have hsm := same_is H3.out.1 H3.out.2.2.1.esr (by have := H3.out.2.1.len; omega) (by have := H3.out.2.1.len; omega) true ⟨fun _ => rfl, fun _ => rfl⟩
        rw [HI.out.2.1] at hsm
        refine hsm.mono ?_
        clear hsm
        rintro e W4 ⟨rfl, hb4⟩
        have H4 : Hid (Below w.heap.size w W4) := below_tr H3.out.2.2.2.2.2.2.1 hb4
        clear hb4
        go_wp2_with fail
        refine (lives_is W4 (HK.out.1.below H4.out) (HK.out.2.below H4.out)).mono ?_
        rintro e W5 ⟨rfl, hb5⟩
        have HF : Hid (Below w.heap.size w W5) := below_tr H4.out hb5
        clear hb5
        go_wp2
        go_ret
        exact ⟨rfl, HF.out⟩
      · have hlt : i < n := by have := HI.out.1; omega
        have q1 : (i : Int) < (n : Int) := by omega
        obtain ⟨x, hx⟩ : ∃ x, l[i]? = some x := ⟨_, List.getElem?_eq_getElem (by rw [HA.out.1]; exact hlt)⟩
        obtain ⟨b, off, rfl, hb, hel⟩ := HA.out.2.2.2 (by omega)
        have hok := HA.out.2.2.1 x (List.mem_of_getElem? hx)
        have HX : Hid (W0.rangeAt b (off + i * 4) x.cells ∧ i < n ∧ x.ok) := ⟨rangeAt_same (hel i x hx) (HI.out.2.2.2.2.2.2.2.1.block b hb), hlt, hok⟩
        obtain ⟨g6, hg6⟩ : ∃ g, W0.heap.size = g := ⟨_, rfl⟩
        have HG6 : Hid (W0.heap.size = g6) := hg6
        clear hi hlt hx hel hb hok
        go_wp2_with (with_reducible change wpList _ _ _ ({ dst := some 25, op := _, type := _, pos := _, after := _, guard := _ } :: _) _ _; refine Hid.out ?_)
        show wpList _ _ _ _ _ _
        refine wpList_load_mid rfl 29 (.tmp 24) rfl b (off + i * 4) rfl x.cells _ HX.out.1 Tryd.underlying29 rfl (size29 x) ?_
        go_wp2_with (with_reducible change wpList _ _ _ ({ dst := none, op := Op.store 29 _ _, type := _, pos := _, after := _, guard := _ } :: _) _ _; refine Hid.out ?_)
        show wpList _ _ _ _ _ _
        refine wpList_store_blk rfl 29 (.tmp 6) (.tmp 25) rfl g6 0 29 Z9 x.cells rfl rfl (by rw [← HG6.out]; exact Blk.new W0 _ _) (by rw [HZ9.out]; exact Nat.le_refl _) (size29 x) x.one ?_
        intro W1 hx1 hg1
        have H1 : Hid (CI w B L c i es vl a4 c4 W1 ∧ Blk W1 g6 29 x.cells ∧ KT W1 ∧ ST W1 ∧ c < g6 ∧ (∀ j, vl.ownBlock = some j → j < g6) ∧ es.length = m) := by
          have hb1 : Below W0.heap.size W0 W1 := below_gr (below_al W0 _) hg1.out (by rw [HG6.out]; exact Nat.le_refl _)
          have h := HI.out.2.2.below hb1
          exact ⟨h, blk_all hx1.out (by rw [HZ9.out]; rfl), HK.out.1.below h.2.2.2.2.2.1, HK.out.2.below h.2.2.2.2.2.1, by rw [← HG6.out]; exact HI.out.2.2.1.ch.lt, fun j hj => by rw [← HG6.out]; exact (HI.out.2.2.1.row.lt hj).2, HI.out.2.1⟩
        have c3 : W1.cell? ⟨g6, 3, none⟩ = some (.bool x.again) := H1.out.2.1.cell rfl
        clear hx1 hg1 hg6
        have HQ : Hid (i < n ∧ x.ok) := ⟨HX.out.2.1, HX.out.2.2⟩
        clear HX HI HG6
        obtain ⟨ag, hag⟩ : ∃ ag, x.again = ag := ⟨_, rfl⟩
        rw [hag] at c3
        clear hag
        cases ag
        · have HNG : Hid (g6 ≠ c ∧ (∀ j, vl.ownBlock = some j → j ≠ g6)) := ⟨by have := H1.out.2.2.2.2.1; omega, fun j hj => by have := H1.out.2.2.2.2.2.1 j hj; omega⟩
          have HC : Hid (CI w B L c i es vl a4 c4 W1 ∧ Blk W1 g6 29 x.cells ∧ KT W1 ∧ ST W1 ∧ es.length = m) := ⟨H1.out.1, H1.out.2.1, H1.out.2.2.1, H1.out.2.2.2.1, H1.out.2.2.2.2.2.2⟩
          clear H1
          have c0 : W1.cell? ⟨g6, 0, none⟩ = some (iv x.tick) := HC.out.2.1.cell rfl
          have c1 : W1.cell? ⟨g6, 1, none⟩ = some (.string x.who) := HC.out.2.1.cell rfl
          have c2' : W1.cell? ⟨g6, 2, none⟩ = some (.string x.what) := HC.out.2.1.cell rfl
          go_wp2_with fail
          refine (append_is HC.out.1.1 HC.out.2.2.1 HC.out.2.2.2.1 HC.out.1.2.2.2.2.2.2.2 x.tick x.who x.what HQ.out.2.2.1 HQ.out.2.2.2 HQ.out.2.1.2).mono ?_
          intro e W2 hap
          have he := hap.1
          subst he
          obtain ⟨vb, hj⟩ := HC.out.1.app2 hap
          obtain ⟨-, v2', -, -, hkeep⟩ := hap
          obtain ⟨q, hq⟩ : ∃ q, nxE es x.tick x.who x.what = q := ⟨_, rfl⟩
          have hqok : q.1.ok := by rw [← hq]; exact nxE_ok HC.out.1.1.row.2 HQ.out.2.2.1 HQ.out.2.2.2 HQ.out.2.1.2 (by have := HC.out.1.1.len; omega)
          rw [hq] at hj ⊢
          obtain ⟨y, k⟩ := q
          obtain ⟨fs, hfs⟩ : ∃ fs, lA es (y, k) = fs := ⟨_, rfl⟩
          rw [hfs] at hj
          have HJ : Hid (CK w B L c i es fs vb a4 c4 W2 ∧ Blk W2 g6 29 x.cells ∧ y.ok ∧ nxE es x.tick x.who x.what = (y, k) ∧ lA es (y, k) = fs) := ⟨hj, hkeep.blk HC.out.2.1 (fun hk => hk.elim (fun h => HNG.out.1 h) (fun h => HNG.out.2 _ h rfl)), hqok, hq, hfs⟩
          clear hj hkeep hq hqok hfs c0 c1 c2'
          dsimp only
          obtain ⟨g9, hg9⟩ : ∃ g, W2.heap.size = g := ⟨_, rfl⟩
          have HG9 : Hid (W2.heap.size = g9) := hg9
          go_wp2_with (with_reducible change wpList _ _ _ ({ dst := none, op := Op.store 37 _ _, type := _, pos := _, after := _, guard := _ } :: _) _ _; refine Hid.out ?_)
          show wpList _ _ _ _ _ _
          refine wpList_store_blk rfl 37 (.tmp 9) (.tmp 50) rfl g9 0 37 Z y.cells rfl rfl (by rw [← HG9.out]; exact Blk.new W2 _ _) (by rw [HZL.out, En.len HJ.out.2.2.1]; exact Nat.le_refl _) (info37 HJ.out.2.2.1) (En.one _) ?_
          intro W3 hx3 hg3
          obtain ⟨W4, hW4⟩ : ∃ W, W3.alloc (.cells Z.toArray 37) = W := ⟨_, rfl⟩
          obtain ⟨g11, hg11⟩ : ∃ g, W3.heap.size = g := ⟨_, rfl⟩
          have H4 : Hid (CK w B L c i es fs vb a4 c4 W4 ∧ Blk W4 g6 29 x.cells ∧ Blk W4 g9 37 y.cells ∧ Blk W4 g11 37 Z ∧ g9 < g11 ∧ CK w B L c i es fs vb a4 c4 W3 ∧ W3.heap.size = g11 ∧ W4.heap.size = g11 + 1) := by
            have hb3 : Below W2.heap.size W2 W3 := below_gr (below_al W2 _) hg3.out (by rw [HG9.out]; exact Nat.le_refl _)
            have h9 : Blk W3 g9 37 y.cells := blk_all hx3.out (by rw [HZL.out, En.len HJ.out.2.2.1])
            have hb4 : Below W3.heap.size W3 W4 := by rw [← hW4]; exact below_al _ _
            have h6 := HJ.out.2.1.below hb3 HJ.out.2.1.lt
            exact ⟨(HJ.out.1.below hb3).below hb4, h6.below hb4 h6.lt, h9.below hb4 h9.lt, by rw [← hW4, ← hg11]; exact Blk.new W3 _ _, by rw [← hg11]; exact h9.lt, HJ.out.1.below hb3, hg11, by rw [← hW4, ← hg11]; simp⟩
          have c0 : W4.cell? ⟨g6, 0, none⟩ = some (iv x.tick) := H4.out.2.1.cell rfl
          have c1 : W4.cell? ⟨g6, 1, none⟩ = some (.string x.who) := H4.out.2.1.cell rfl
          have c2' : W4.cell? ⟨g6, 2, none⟩ = some (.string x.what) := H4.out.2.1.cell rfl
          clear hx3 hg3 hg9
          go_wp2_with fail
          have hra := refAppend_is H4.out.1.1.2.1.esr (by have := H4.out.1.1.2.2.2.1; have := H4.out.1.1.2.2.2.2.1; have := HQ.out.1; have := HN60.out; omega) (rz_of_ok HC.out.1.2.2.2.2.1) (tick_ok HC.out.1.2.2.2.2.1) x.tick x.who x.what HQ.out.2.2.1 HQ.out.2.2.2 HQ.out.2.1.2
          rw [HJ.out.2.2.2.1] at hra
          have hem := HC.out.2.2.2.2
          subst hem
          refine hra.mono ?_
          clear hra
          rintro e W5 ⟨v5, rfl, hv5, hb5⟩
          have hno : ∀ j, v5.ownBlock = some j → j ≠ g11 := fun j hj => by
            rcases hv5 with ⟨rfl, _⟩ | ho
            · have := (H4.out.2.2.2.2.2.1.1.2.1.lt hj).2; have := H4.out.2.2.2.2.2.2.1; omega
            · have := (ho.lt hj).1; have := H4.out.2.2.2.2.2.2.2; omega
          obtain ⟨a5, c5, rfl, hci⟩ := H4.out.1.ref HJ.out.2.2.2.2 hb5 hv5
          have H5 : Hid (CI w B L c (i + 1) fs vb a5 c5 W5 ∧ Blk W5 g9 37 y.cells ∧ Blk W5 g11 37 Z ∧ (∀ j, (Value.slice a5 fs.length c5).ownBlock = some j → j ≠ g11)) := ⟨hci, H4.out.2.2.1.below hb5 H4.out.2.2.1.lt, H4.out.2.2.2.1.below hb5 H4.out.2.2.2.1.lt, hno⟩
          clear hno hci hv5 hb5 c0 c1 c2' hW4 hg11
          dsimp only
          obtain ⟨k5, hk5⟩ : ∃ k, fs.length = k := ⟨_, rfl⟩
          rw [hk5]
          go_wp2_with (with_reducible change wpList _ _ _ ({ dst := none, op := Op.store 37 _ _, type := _, pos := _, after := _, guard := _ } :: _) _ _; refine Hid.out ?_)
          show wpList _ _ _ _ _ _
          refine wpList_store_blk rfl 37 (.tmp 11) (.tmp 62) rfl g11 0 37 Z y.cells rfl rfl H5.out.2.2.1 (by rw [HZL.out, En.len HJ.out.2.2.1]; exact Nat.le_refl _) (info37 HJ.out.2.2.1) (En.one _) ?_
          intro W6 hx6 hg6'
          have H6 : Hid (CI w B L c (i + 1) fs vb a5 c5 W6 ∧ Blk W6 g9 37 y.cells ∧ Blk W6 g11 37 y.cells ∧ KT W6 ∧ ST W6 ∧ fs.length = k5) := by
            have hk3 := H4.out.2.2.2.2.2.1.1
            have h3s := H4.out.2.2.2.2.2.2.1
            have hci : CI w B L c (i + 1) fs vb a5 c5 W6 := H5.out.1.gr hg6'.out (by have := hk3.1.lg.lt; omega) (by have := hk3.1.ch.lt; omega) (fun j hj => by have := (hk3.1.row.lt hj).2; omega) H5.out.2.2.2 (by have := hk3.2.2.2.2.2.2.1.size; omega)
            exact ⟨hci, H5.out.2.1.kept hg6'.out (fun e => by cases e; have := H4.out.2.2.2.2.1; omega), blk_all hx6.out (by rw [HZL.out, En.len HJ.out.2.2.1]), HK.out.1.below hci.2.2.2.2.2.1, HK.out.2.below hci.2.2.2.2.2.1, hk5⟩
          have HY : Hid y.ok := HJ.out.2.2.1
          clear hx6 hg6' H5 H4 HJ
          go_wp2_with (with_reducible change wpList _ _ _ ({ dst := some 64, op := _, type := _, pos := _, after := _, guard := _ } :: _) _ _; refine Hid.out ?_)
          show wpList _ _ _ _ _ _
          refine wpList_load_mid rfl 37 (.tmp 9) rfl g9 0 rfl y.cells _ H6.out.2.1.range0 Tryd.underlying37 rfl (info37 HY.out) ?_
          go_wp2_with (with_reducible change wpList _ _ _ ({ dst := some 65, op := _, type := _, pos := _, after := _, guard := _ } :: _) _ _; refine Hid.out ?_)
          show wpList _ _ _ _ _ _
          refine wpList_load_mid rfl 37 (.tmp 11) rfl g11 0 rfl y.cells _ H6.out.2.2.1.range0 Tryd.underlying37 rfl (info37 HY.out) ?_
          have hne := ne_en y HY.out
          obtain ⟨D, hD⟩ : ∃ D, hdE fs = D := ⟨_, rfl⟩
          have HD : Hid (hdE fs = D ∧ D.length = 32) := ⟨hD, by rw [← hD]; exact hdE_len fs⟩
          clear hD
          go_wp2_with fail
          refine (headL_is H6.out.1.1 H6.out.2.2.2.1 H6.out.2.2.2.2.1 D HD.out.1).mono ?_
          rintro e W7 ⟨rfl, hb7⟩
          have H7 : Hid (CI w B L c (i + 1) fs vb a5 c5 W7) := H6.out.1.below hb7
          clear hb7 hne
          go_wp2_with fail
          have hrh := refHead_is H7.out.2.1.esr (by have := H7.out.1.len; omega) (rz_of_ok H7.out.2.2.2.2.1) D HD.out.1
          rw [H6.out.2.2.2.2.2] at hrh
          refine hrh.mono ?_
          clear hrh
          rintro e W8 ⟨rfl, hb8⟩
          have H8 : Hid (CI w B L c (i + 1) fs vb a5 c5 W8) := H7.out.below hb8
          clear hb8 H7
          have hnz : ∀ W, (binOp .neq 35 (.agg (U D).toArray) (.agg (U D).toArray)).run Tryd.prog W = .ok (.bool false) W := fun W => by rw [neHb D D HD.out.2 HD.out.2 W, decide_eq_true rfl]; rfl
          go_wp2_with fail
          refine (entries_is H8.out.1).mono ?_
          rintro e W9 ⟨v13, rfl, ho13, hb9⟩
          obtain ⟨a13, c13, rfl⟩ := ow_slice ho13.out
          have hes13 := ho13.out.esr
          have hsp0 := ho13.out
          rw [hk5] at hsp0
          have hsp := spI_of hsp0 hk5 hb9
          have H9 : Hid (SpI W8 a13 k5 W9 ∧ CI w B L c (i + 1) fs vb a5 c5 W9 ∧ EsR W9 (.slice a13 fs.length c13) fs) := ⟨hsp, H8.out.below hb9, hes13⟩
          clear ho13 hb9 hes13 hsp hsp0 hnz
          go_wp2_with fail
          have hsm := same_is H9.out.2.2 H9.out.2.1.2.1.esr (by have := H9.out.2.1.1.len; omega) (by have := H9.out.2.1.1.len; omega) true ⟨fun _ => rfl, fun _ => rfl⟩
          rw [H6.out.2.2.2.2.2] at hsm
          refine hsm.mono ?_
          clear hsm
          rintro e WA ⟨rfl, hbA⟩
          have HA2 : Hid (SpI W8 a13 k5 WA) := by
            refine ⟨below_tr H9.out.1.1 hbA, fun hp => ?_⟩
            obtain ⟨p, cur, e1, e2, e3, e4⟩ := H9.out.1.2 hp
            exact ⟨p, cur, e1, e2, e3.below hbA e3.lt, e4⟩
          have qk5 : (k5 : Int) ≤ 5000 := by have := H8.out.1.len; have := H6.out.2.2.2.2.2; omega
          clear hbA H9
          go_wp2
          go_loopw [87] (fun u wq => ∃ j : Nat, u = iv (j : Int) ∧ Hid (j ≤ k5 ∧ SpI W8 a13 k5 wq)) (fun u _ => k5 - (intOf u).toNat)
          case atStart => exact ⟨0, rfl, Nat.zero_le _, HA2.out⟩
          case round =>
            clear HA2
            obtain ⟨j, rfl, HJ2⟩ := hrel
            by_cases hj : j = k5
            · subst hj
              have HF : Hid (i + 1 ≤ n ∧ fs.length = j ∧ CI w B L c (i + 1) fs vb a5 c5 wr) := ⟨HQ.out.1, H6.out.2.2.2.2.2, H8.out.below HJ2.out.2.1⟩
              go_wp2
              go_roundw
              case rel => exact ⟨i + 1, L, c, fs, vb, a5, c5, j, rfl, rfl, rfl, HF.out⟩
              case measure => show n - (i + 1) < n - i; have := HQ.out.1; omega
            · have hjm : j < k5 := by have := HJ2.out.1; omega
              have q2 : (j : Int) < (k5 : Int) := by omega
              obtain ⟨p, cur, rfl, hp1, hp2, hp3⟩ := HJ2.out.2.2 (by omega)
              have HP : Hid (W8.heap.size ≤ p ∧ Blk wr p 37 cur ∧ k5 * 36 ≤ cur.length ∧ j < k5) := ⟨hp1, hp2, hp3, hjm⟩
              clear hj hjm hp1 hp2 hp3
              go_wp2_with (with_reducible change wpList _ _ _ ({ dst := none, op := Op.store 9 _ _, type := _, pos := _, after := _, guard := _ } :: _) _ _; refine Hid.out ?_)
              show wpList _ _ _ _ _ _
              refine wpList_store1 rfl 9 (.tmp 93) _ rfl p (j * 36 + 3) 37 cur (.string ⟨#[115, 112, 111, 105, 108, 116]⟩) rfl rfl HP.out.2.1 (by have := HP.out.2.2.1; have := HP.out.2.2.2; omega) (by kernel_rfl) rfl rfl ?_
              intro WB hxB hgB
              have HF : Hid (j + 1 ≤ k5 ∧ SpI W8 (some ⟨p, 0, none⟩) k5 WB) := by
                refine ⟨HP.out.2.2.2, below_gr HJ2.out.2.1 hgB.out HP.out.1, fun _ => ⟨p, _, rfl, HP.out.1, hxB.out, ?_⟩⟩
                have h1 := HP.out.2.2.1
                have h2 := HP.out.2.2.2
                rw [List.length_append, List.length_append, List.length_take, List.length_drop, List.length_singleton]
                omega
              clear hxB hgB
              go_wp2
              go_roundw
              case rel => exact ⟨j + 1, rfl, HF.out⟩
              case measure => show k5 - (j + 1) < k5 - j; have := HP.out.2.2.2; omega
        · go_wp2_with fail
          refine (entries_is H1.out.1.1).mono ?_
          rintro e Y1 ⟨v7, rfl, ho7, hb3⟩
          have HY1 : Hid (EsR Y1 v7 es ∧ Below W1.heap.size W1 Y1) := ⟨ho7.out.esr, hb3⟩
          clear ho7 hb3 c3
          go_wp2_with fail
          refine (load_is HY1.out.1 H1.out.1.1.sz H1.out.1.1.len (H1.out.2.2.1.below HY1.out.2) (H1.out.2.2.2.1.below HY1.out.2)).mono ?_
          intro e Y2 hld
          rcases hld with ⟨⟨j, hj1, hj2⟩, _⟩ | ⟨_, L2, c2, vl2, rfl, hlg, hb4⟩
          · exact absurd (H1.out.1.2.2.2.2.1 j hj1) hj2
          have hcl := (H1.out.1.below HY1.out.2).load hb4 hlg
          have hbb := below_tr HY1.out.2 hb4
          have HNG : Hid (g6 ≠ c2 ∧ (∀ j, vl2.ownBlock = some j → j ≠ g6)) := by
            have h6 := H1.out.2.1.lt
            have h7 := HY1.out.2.size
            exact ⟨by have := hlg.bc; omega, fun j hj => by have := (hlg.row.lt hj).1; omega⟩
          have HC : Hid (CI w B L2 c2 i es vl2 a4 c4 Y2 ∧ Blk Y2 g6 29 x.cells ∧ KT Y2 ∧ ST Y2 ∧ es.length = m) := ⟨hcl, H1.out.2.1.below hbb H1.out.2.1.lt, H1.out.2.2.1.below hbb, H1.out.2.2.2.1.below hbb, H1.out.2.2.2.2.2.2⟩
          clear hlg hb4 hcl hbb HY1 H1
          dsimp only
          have c0 : Y2.cell? ⟨g6, 0, none⟩ = some (iv x.tick) := HC.out.2.1.cell rfl
          have c1 : Y2.cell? ⟨g6, 1, none⟩ = some (.string x.who) := HC.out.2.1.cell rfl
          have c2' : Y2.cell? ⟨g6, 2, none⟩ = some (.string x.what) := HC.out.2.1.cell rfl
          go_wp2_with fail
          refine (append_is HC.out.1.1 HC.out.2.2.1 HC.out.2.2.2.1 HC.out.1.2.2.2.2.2.2.2 x.tick x.who x.what HQ.out.2.2.1 HQ.out.2.2.2 HQ.out.2.1.2).mono ?_
          intro e W2 hap
          have he := hap.1
          subst he
          obtain ⟨vb, hj⟩ := HC.out.1.app2 hap
          obtain ⟨-, v2', -, -, hkeep⟩ := hap
          obtain ⟨q, hq⟩ : ∃ q, nxE es x.tick x.who x.what = q := ⟨_, rfl⟩
          have hqok : q.1.ok := by rw [← hq]; exact nxE_ok HC.out.1.1.row.2 HQ.out.2.2.1 HQ.out.2.2.2 HQ.out.2.1.2 (by have := HC.out.1.1.len; omega)
          rw [hq] at hj ⊢
          obtain ⟨y, k⟩ := q
          obtain ⟨fs, hfs⟩ : ∃ fs, lA es (y, k) = fs := ⟨_, rfl⟩
          rw [hfs] at hj
          have HJ : Hid (CK w B L2 c2 i es fs vb a4 c4 W2 ∧ Blk W2 g6 29 x.cells ∧ y.ok ∧ nxE es x.tick x.who x.what = (y, k) ∧ lA es (y, k) = fs) := ⟨hj, hkeep.blk HC.out.2.1 (fun hk => hk.elim (fun h => HNG.out.1 h) (fun h => HNG.out.2 _ h rfl)), hqok, hq, hfs⟩
          clear hj hkeep hq hqok hfs c0 c1 c2'
          dsimp only
          obtain ⟨g9, hg9⟩ : ∃ g, W2.heap.size = g := ⟨_, rfl⟩
          have HG9 : Hid (W2.heap.size = g9) := hg9
          go_wp2_with (with_reducible change wpList _ _ _ ({ dst := none, op := Op.store 37 _ _, type := _, pos := _, after := _, guard := _ } :: _) _ _; refine Hid.out ?_)
          show wpList _ _ _ _ _ _
          refine wpList_store_blk rfl 37 (.tmp 9) (.tmp 50) rfl g9 0 37 Z y.cells rfl rfl (by rw [← HG9.out]; exact Blk.new W2 _ _) (by rw [HZL.out, En.len HJ.out.2.2.1]; exact Nat.le_refl _) (info37 HJ.out.2.2.1) (En.one _) ?_
          intro W3 hx3 hg3
          obtain ⟨W4, hW4⟩ : ∃ W, W3.alloc (.cells Z.toArray 37) = W := ⟨_, rfl⟩
          obtain ⟨g11, hg11⟩ : ∃ g, W3.heap.size = g := ⟨_, rfl⟩
          have H4 : Hid (CK w B L2 c2 i es fs vb a4 c4 W4 ∧ Blk W4 g6 29 x.cells ∧ Blk W4 g9 37 y.cells ∧ Blk W4 g11 37 Z ∧ g9 < g11 ∧ CK w B L2 c2 i es fs vb a4 c4 W3 ∧ W3.heap.size = g11 ∧ W4.heap.size = g11 + 1) := by
            have hb3 : Below W2.heap.size W2 W3 := below_gr (below_al W2 _) hg3.out (by rw [HG9.out]; exact Nat.le_refl _)
            have h9 : Blk W3 g9 37 y.cells := blk_all hx3.out (by rw [HZL.out, En.len HJ.out.2.2.1])
            have hb4 : Below W3.heap.size W3 W4 := by rw [← hW4]; exact below_al _ _
            have h6 := HJ.out.2.1.below hb3 HJ.out.2.1.lt
            exact ⟨(HJ.out.1.below hb3).below hb4, h6.below hb4 h6.lt, h9.below hb4 h9.lt, by rw [← hW4, ← hg11]; exact Blk.new W3 _ _, by rw [← hg11]; exact h9.lt, HJ.out.1.below hb3, hg11, by rw [← hW4, ← hg11]; simp⟩
          have c0 : W4.cell? ⟨g6, 0, none⟩ = some (iv x.tick) := H4.out.2.1.cell rfl
          have c1 : W4.cell? ⟨g6, 1, none⟩ = some (.string x.who) := H4.out.2.1.cell rfl
          have c2' : W4.cell? ⟨g6, 2, none⟩ = some (.string x.what) := H4.out.2.1.cell rfl
          clear hx3 hg3 hg9
          go_wp2_with fail
          have hra := refAppend_is H4.out.1.1.2.1.esr (by have := H4.out.1.1.2.2.2.1; have := H4.out.1.1.2.2.2.2.1; have := HQ.out.1; have := HN60.out; omega) (rz_of_ok HC.out.1.2.2.2.2.1) (tick_ok HC.out.1.2.2.2.2.1) x.tick x.who x.what HQ.out.2.2.1 HQ.out.2.2.2 HQ.out.2.1.2
          rw [HJ.out.2.2.2.1] at hra
          have hem := HC.out.2.2.2.2
          subst hem
          refine hra.mono ?_
          clear hra
          rintro e W5 ⟨v5, rfl, hv5, hb5⟩
          have hno : ∀ j, v5.ownBlock = some j → j ≠ g11 := fun j hj => by
            rcases hv5 with ⟨rfl, _⟩ | ho
            · have := (H4.out.2.2.2.2.2.1.1.2.1.lt hj).2; have := H4.out.2.2.2.2.2.2.1; omega
            · have := (ho.lt hj).1; have := H4.out.2.2.2.2.2.2.2; omega
          obtain ⟨a5, c5, rfl, hci⟩ := H4.out.1.ref HJ.out.2.2.2.2 hb5 hv5
          have H5 : Hid (CI w B L2 c2 (i + 1) fs vb a5 c5 W5 ∧ Blk W5 g9 37 y.cells ∧ Blk W5 g11 37 Z ∧ (∀ j, (Value.slice a5 fs.length c5).ownBlock = some j → j ≠ g11)) := ⟨hci, H4.out.2.2.1.below hb5 H4.out.2.2.1.lt, H4.out.2.2.2.1.below hb5 H4.out.2.2.2.1.lt, hno⟩
          clear hno hci hv5 hb5 c0 c1 c2' hW4 hg11
          dsimp only
          obtain ⟨k5, hk5⟩ : ∃ k, fs.length = k := ⟨_, rfl⟩
          rw [hk5]
          go_wp2_with (with_reducible change wpList _ _ _ ({ dst := none, op := Op.store 37 _ _, type := _, pos := _, after := _, guard := _ } :: _) _ _; refine Hid.out ?_)
          show wpList _ _ _ _ _ _
          refine wpList_store_blk rfl 37 (.tmp 11) (.tmp 62) rfl g11 0 37 Z y.cells rfl rfl H5.out.2.2.1 (by rw [HZL.out, En.len HJ.out.2.2.1]; exact Nat.le_refl _) (info37 HJ.out.2.2.1) (En.one _) ?_
          intro W6 hx6 hg6'
          have H6 : Hid (CI w B L2 c2 (i + 1) fs vb a5 c5 W6 ∧ Blk W6 g9 37 y.cells ∧ Blk W6 g11 37 y.cells ∧ KT W6 ∧ ST W6 ∧ fs.length = k5) := by
            have hk3 := H4.out.2.2.2.2.2.1.1
            have h3s := H4.out.2.2.2.2.2.2.1
            have hci : CI w B L2 c2 (i + 1) fs vb a5 c5 W6 := H5.out.1.gr hg6'.out (by have := hk3.1.lg.lt; omega) (by have := hk3.1.ch.lt; omega) (fun j hj => by have := (hk3.1.row.lt hj).2; omega) H5.out.2.2.2 (by have := hk3.2.2.2.2.2.2.1.size; omega)
            exact ⟨hci, H5.out.2.1.kept hg6'.out (fun e => by cases e; have := H4.out.2.2.2.2.1; omega), blk_all hx6.out (by rw [HZL.out, En.len HJ.out.2.2.1]), HK.out.1.below hci.2.2.2.2.2.1, HK.out.2.below hci.2.2.2.2.2.1, hk5⟩
          have HY : Hid y.ok := HJ.out.2.2.1
          clear hx6 hg6' H5 H4 HJ
          go_wp2_with (with_reducible change wpList _ _ _ ({ dst := some 64, op := _, type := _, pos := _, after := _, guard := _ } :: _) _ _; refine Hid.out ?_)
          show wpList _ _ _ _ _ _
          refine wpList_load_mid rfl 37 (.tmp 9) rfl g9 0 rfl y.cells _ H6.out.2.1.range0 Tryd.underlying37 rfl (info37 HY.out) ?_
          go_wp2_with (with_reducible change wpList _ _ _ ({ dst := some 65, op := _, type := _, pos := _, after := _, guard := _ } :: _) _ _; refine Hid.out ?_)
          show wpList _ _ _ _ _ _
          refine wpList_load_mid rfl 37 (.tmp 11) rfl g11 0 rfl y.cells _ H6.out.2.2.1.range0 Tryd.underlying37 rfl (info37 HY.out) ?_
          have hne := ne_en y HY.out
          obtain ⟨D, hD⟩ : ∃ D, hdE fs = D := ⟨_, rfl⟩
          have HD : Hid (hdE fs = D ∧ D.length = 32) := ⟨hD, by rw [← hD]; exact hdE_len fs⟩
          clear hD
          go_wp2_with fail
          refine (headL_is H6.out.1.1 H6.out.2.2.2.1 H6.out.2.2.2.2.1 D HD.out.1).mono ?_
          rintro e W7 ⟨rfl, hb7⟩
          have H7 : Hid (CI w B L2 c2 (i + 1) fs vb a5 c5 W7) := H6.out.1.below hb7
          clear hb7 hne
          go_wp2_with fail
          have hrh := refHead_is H7.out.2.1.esr (by have := H7.out.1.len; omega) (rz_of_ok H7.out.2.2.2.2.1) D HD.out.1
          rw [H6.out.2.2.2.2.2] at hrh
          refine hrh.mono ?_
          clear hrh
          rintro e W8 ⟨rfl, hb8⟩
          have H8 : Hid (CI w B L2 c2 (i + 1) fs vb a5 c5 W8) := H7.out.below hb8
          clear hb8 H7
          have hnz : ∀ W, (binOp .neq 35 (.agg (U D).toArray) (.agg (U D).toArray)).run Tryd.prog W = .ok (.bool false) W := fun W => by rw [neHb D D HD.out.2 HD.out.2 W, decide_eq_true rfl]; rfl
          go_wp2_with fail
          refine (entries_is H8.out.1).mono ?_
          rintro e W9 ⟨v13, rfl, ho13, hb9⟩
          obtain ⟨a13, c13, rfl⟩ := ow_slice ho13.out
          have hes13 := ho13.out.esr
          have hsp0 := ho13.out
          rw [hk5] at hsp0
          have hsp := spI_of hsp0 hk5 hb9
          have H9 : Hid (SpI W8 a13 k5 W9 ∧ CI w B L2 c2 (i + 1) fs vb a5 c5 W9 ∧ EsR W9 (.slice a13 fs.length c13) fs) := ⟨hsp, H8.out.below hb9, hes13⟩
          clear ho13 hb9 hes13 hsp hsp0 hnz
          go_wp2_with fail
          have hsm := same_is H9.out.2.2 H9.out.2.1.2.1.esr (by have := H9.out.2.1.1.len; omega) (by have := H9.out.2.1.1.len; omega) true ⟨fun _ => rfl, fun _ => rfl⟩
          rw [H6.out.2.2.2.2.2] at hsm
          refine hsm.mono ?_
          clear hsm
          rintro e WA ⟨rfl, hbA⟩
          have HA2 : Hid (SpI W8 a13 k5 WA) := by
            refine ⟨below_tr H9.out.1.1 hbA, fun hp => ?_⟩
            obtain ⟨p, cur, e1, e2, e3, e4⟩ := H9.out.1.2 hp
            exact ⟨p, cur, e1, e2, e3.below hbA e3.lt, e4⟩
          have qk5 : (k5 : Int) ≤ 5000 := by have := H8.out.1.len; have := H6.out.2.2.2.2.2; omega
          clear hbA H9
          go_wp2
          go_loopw [87] (fun u wq => ∃ j : Nat, u = iv (j : Int) ∧ Hid (j ≤ k5 ∧ SpI W8 a13 k5 wq)) (fun u _ => k5 - (intOf u).toNat)
          case atStart => exact ⟨0, rfl, Nat.zero_le _, HA2.out⟩
          case round =>
            clear HA2
            obtain ⟨j, rfl, HJ2⟩ := hrel
            by_cases hj : j = k5
            · subst hj
              have HF : Hid (i + 1 ≤ n ∧ fs.length = j ∧ CI w B L2 c2 (i + 1) fs vb a5 c5 wr) := ⟨HQ.out.1, H6.out.2.2.2.2.2, H8.out.below HJ2.out.2.1⟩
              go_wp2
              go_roundw
              case rel => exact ⟨i + 1, L2, c2, fs, vb, a5, c5, j, rfl, rfl, rfl, HF.out⟩
              case measure => show n - (i + 1) < n - i; have := HQ.out.1; omega
            · have hjm : j < k5 := by have := HJ2.out.1; omega
              have q2 : (j : Int) < (k5 : Int) := by omega
              obtain ⟨p, cur, rfl, hp1, hp2, hp3⟩ := HJ2.out.2.2 (by omega)
              have HP : Hid (W8.heap.size ≤ p ∧ Blk wr p 37 cur ∧ k5 * 36 ≤ cur.length ∧ j < k5) := ⟨hp1, hp2, hp3, hjm⟩
              clear hj hjm hp1 hp2 hp3
              go_wp2_with (with_reducible change wpList _ _ _ ({ dst := none, op := Op.store 9 _ _, type := _, pos := _, after := _, guard := _ } :: _) _ _; refine Hid.out ?_)
              show wpList _ _ _ _ _ _
              refine wpList_store1 rfl 9 (.tmp 93) _ rfl p (j * 36 + 3) 37 cur (.string ⟨#[115, 112, 111, 105, 108, 116]⟩) rfl rfl HP.out.2.1 (by have := HP.out.2.2.1; have := HP.out.2.2.2; omega) (by kernel_rfl) rfl rfl ?_
              intro WB hxB hgB
              have HF : Hid (j + 1 ≤ k5 ∧ SpI W8 (some ⟨p, 0, none⟩) k5 WB) := by
                refine ⟨HP.out.2.2.2, below_gr HJ2.out.2.1 hgB.out HP.out.1, fun _ => ⟨p, _, rfl, HP.out.1, hxB.out, ?_⟩⟩
                have h1 := HP.out.2.2.1
                have h2 := HP.out.2.2.2
                rw [List.length_append, List.length_append, List.length_take, List.length_drop, List.length_singleton]
                omega
              clear hxB hgB
              go_wp2
              go_roundw
              case rel => exact ⟨j + 1, rfl, HF.out⟩
              case measure => show k5 - (j + 1) < k5 - j; have := HP.out.2.2.2; omega
end Go.Proofs.YtmmpafaegmejlaaDoor.Oct
