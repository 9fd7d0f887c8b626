/-
  Layer 20 (review): ReviewMonotone: its drawn region; plain facts.
-/
import Derived.Test.YtaecigpjcbjcbaaView
namespace Go.Proofs.Ytaecigpjcbjcbaa.Oct
open Go.RowKit
set_option linter.unusedSimpArgs false
set_option linter.unusedVariables false

theorem step_al {ops : Array Oper} {o : Oper} {a : Act} {w : World} {K : Act → World → Prop} {Q : Exit → Act → World → Prop} {E : Prop} (hw : Region.wanted o (yielded ops a.tmps) = true) (t : TypeId) (hop : o.op = .alloc t) (Z : List Value) (hz : ∀ W, (zeroValue t).run Try.prog W = .ok (.agg Z.toArray) W)
    (hk : K (a.put o.dst (.pointer (some ⟨w.heap.size, 0, none⟩))) (w.alloc (.cells Z.toArray t))) : if Region.wanted o (yielded ops a.tmps) = true then Oper.wp Try.prog o a w K Q else E := by
  rw [if_pos hw]
  unfold Oper.wp execOp
  simp [hop, Instr.alloc, hz, Value.cells, newRow, Result.andThen]
  exact hk
/-- what the region leaves: two copies -/
def Two (A : World) (cs : List Value) (m l : Nat) (V : World) : Prop := Blk V m 43 cs ∧ Blk V l 43 cs ∧ m ≠ l ∧ A.heap.size ≤ m ∧ A.heap.size ≤ l ∧ Below A.heap.size A V
theorem step_stB {ops : Array Oper} {o : Oper} {a : Act} {w : World} {K : Act → World → Prop} {Q : Exit → Act → World → Prop} {E : Prop} (hw : Region.wanted o (yielded ops a.tmps) = true) (t : TypeId) (x y : Operand) (hop : o.op = .store t x y) (b : Nat) (cs : List Value) (T : TypeId) (L : List Value) (hx : a.eval x = .pointer (some ⟨b, 0, none⟩)) (hy : a.eval y = .agg cs.toArray) (hb : Blk w b T L) (hkl : cs.length = L.length)
    (hi : (Try.prog.info? t).map (·.size) = some cs.length) (h1 : ∀ v ∈ cs, v.oneCell' = true) (hk : ∀ V, Hid (Blk V b T cs) → Hid (w.grownBy V (some b)) → K (a.put o.dst undef) V) : if Region.wanted o (yielded ops a.tmps) = true then Oper.wp Try.prog o a w K Q else E := by
  rw [if_pos hw]
  refine wp_store_mid t x y hop b 0 cs.toArray hx hy (by simpa using hb.there 0 cs.length (by omega)) (by simpa using hi) (all_oneCell_toArray h1) ?_
  have e := Blk.setCells cs 0 w L hb (by omega)
  refine hk _ ?_ e.2
  have h2 := e.1
  rw [List.take_zero, List.nil_append, List.drop_of_length_le (by omega), List.append_nil] at h2
  show Blk _ _ _ _
  simpa using h2
set_option maxRecDepth 100000 in
set_option maxHeartbeats 4000000 in
theorem mono4 {Q : Exit → Act → World → Prop} {x0 x1 x2 x4 x5 x6 x7 x8 x9 x10 x11 x12 x13 x14 x15 x16 x17 x18 x19 x20 x21 x22 x23 x24 x25 x26 x27 x28 x29 x30 x31 x32 x33 x34 x35 x36 x37 x38 x39 x40 x41 x42 x43 x44 x45 x46 x47 x48 x49 x50 x51 x52 x53 x54 x55 x56 x57 x58 x59 x60 x61 x62 x63 : Value} {ds : List Deferred} {A : World} {g : Nat} {p : Pp}
    (HL : Hid (A.rangeAt g 0 p.cells ∧ g < A.heap.size ∧ p.patch.length = 32))
    (hQ : ∀ V1 m l, Two A p.cells m l V1 → Q .normal { tmps := #[x0, x1, x2, .pointer (some ⟨g, 0, none⟩), x4, x5, x6, x7, .pointer (some ⟨m, 0, none⟩), .pointer (some ⟨l, 0, none⟩), x10, x11, x12, x13, x14, x15, x16, x17, x18, x19, x20, x21, x22, x23, x24, x25, x26, .agg p.cells.toArray, .agg p.cells.toArray, x29, x30, x31, x32, x33, x34, x35, x36, x37, x38, x39, x40, x41, x42, x43, x44, x45, x46, x47, x48, x49, x50, x51, x52, x53, x54, x55, x56, x57, x58, x59, x60, x61, x62, x63], defers := ds } V1) :
    (Code.region 4 #[{ dst := some 27, op := Op.load 43 (Operand.tmp 3), type := 43, pos := "law.go:187", after := #[], guard := none }, { dst := some 28, op := Op.load 43 (Operand.tmp 3), type := 43, pos := "law.go:187", after := #[{ on := 4, ground := Ground.gcOnly Departure.lateStores }], guard := none }, { dst := some 8, op := Op.alloc 43, type := 0, pos := "law.go:187", after := #[], guard := none }, { dst := some 9, op := Op.alloc 43, type := 0, pos := "law.go:187", after := #[], guard := none }, { dst := none, op := Op.store 43 (Operand.tmp 8) (Operand.tmp 27), type := 0, pos := "law.go:187", after := #[{ on := 2, ground := Ground.data }, { on := 0, ground := Ground.data }, { on := 0, ground := Ground.phase }, { on := 1, ground := Ground.textOnly Departure.lateStores }, { on := 2, ground := Ground.phase }, { on := 3, ground := Ground.phase }], guard := none }, { dst := none, op := Op.store 43 (Operand.tmp 9) (Operand.tmp 28), type := 0, pos := "law.go:187", after := #[{ on := 3, ground := Ground.data }, { on := 1, ground := Ground.data }, { on := 4, ground := Ground.chain }, { on := 0, ground := Ground.phase }, { on := 1, ground := Ground.phase }, { on := 2, ground := Ground.phase }, { on := 3, ground := Ground.phase }, { on := 4, ground := Ground.phase }], guard := none }] true).wp Try.prog Q { tmps := #[x0, x1, x2, .pointer (some ⟨g, 0, none⟩), x4, x5, x6, x7, x8, x9, x10, x11, x12, x13, x14, x15, x16, x17, x18, x19, x20, x21, x22, x23, x24, x25, x26, x27, x28, x29, x30, x31, x32, x33, x34, x35, x36, x37, x38, x39, x40, x41, x42, x43, x44, x45, x46, x47, x48, x49, x50, x51, x52, x53, x54, x55, x56, x57, x58, x59, x60, x61, x62, x63], defers := ds } A := by
  refine Code.wp_mono (Q := fun x a' w' => match x with | .normal => Q .normal a' w' | _ => False) (by intro x a' w' h; cases x <;> first | exact h | exact h.elim) ?_
  refine wp_region_held (S := fun V => Below A.heap.size A V) (by kernel_rfl) ?_
  have hS0 : Hid (Below A.heap.size A A.drew) := below_drew0 A
  change wpAnyH Try.prog .any _ _ (fun V => Below A.heap.size A V) 6 (Array.replicate 6 false) _ A.drew
  obtain ⟨V0, hV0⟩ : ∃ V0, A.drew = V0 := ⟨_, rfl⟩
  rw [hV0]
  rw [hV0] at hS0
  clear hV0
  refine wpAnyH_take (i := 0) (oi := { dst := some 27, op := Op.load 43 (Operand.tmp 3), type := 43, pos := "law.go:187", after := #[], guard := none }) (v := .agg p.cells.toArray) rfl (by kernel_rfl) (by kernel_rfl) (by kernel_rfl) (fun _ _ _ h => h.elim) (yieldsIf_load_mid (by rfl) _ _ rfl _ _ rfl (p.cells) _ (fun V hV => rangeAt_same (HL.out.1) ((show Below A.heap.size A V from hV).block _ (HL.out.2.1))) Try.underlying43 rfl (by rw [Pp.length HL.out.2.2]; exact size43)) hS0.out ?_
  simp only [Act.put, List.setIfInBounds_toArray, List.set_cons_zero, List.set_cons_succ]
  refine wpAnyH_take (i := 1) (oi := { dst := some 28, op := Op.load 43 (Operand.tmp 3), type := 43, pos := "law.go:187", after := #[{ on := 4, ground := Ground.gcOnly Departure.lateStores }], guard := none }) (v := .agg p.cells.toArray) rfl (by kernel_rfl) (by kernel_rfl) (by kernel_rfl) (fun _ _ _ h => h.elim) (yieldsIf_load_mid (by rfl) _ _ rfl _ _ rfl (p.cells) _ (fun V hV => rangeAt_same (HL.out.1) ((show Below A.heap.size A V from hV).block _ (HL.out.2.1))) Try.underlying43 rfl (by rw [Pp.length HL.out.2.2]; exact size43)) hS0.out ?_
  simp only [Act.put, List.setIfInBounds_toArray, List.set_cons_zero, List.set_cons_succ]
  refine wpAnyH_ready (rs := [2, 3]) (by kernel_rfl) (by simp) (AllReadyH.cons (i := 2) (o := { dst := some 8, op := Op.alloc 43, type := 0, pos := "law.go:187", after := #[], guard := none }) rfl ?_ (AllReadyH.cons (i := 3) (o := { dst := some 9, op := Op.alloc 43, type := 0, pos := "law.go:187", after := #[], guard := none }) rfl ?_ AllReadyH.nil))
  · intro K1 hK1
    refine step_al (by rfl) 43 rfl Pp.zero.cells zero43 ?_
    obtain ⟨V1, hv1⟩ : ∃ V, V0.alloc (.cells Pp.zero.cells.toArray 43) = V := ⟨_, rfl⟩
    obtain ⟨m, hq1⟩ : ∃ m, V0.heap.size = m := ⟨_, rfl⟩
    have hS1 : Hid (Below A.heap.size A V1) := by rw [← hv1]; exact below_tr hS0.out (below_al _ _)
    have hX1 : Hid (Blk V1 m 43 Pp.zero.cells ∧ A.heap.size ≤ m) := by rw [← hv1, ← hq1]; exact ⟨by simpa using Blk.new V0 Pp.zero.cells.toArray 43, hS0.out.size⟩
    rw [hv1, hq1]
    clear hv1 hq1
    refine hK1.out _ _ hS1.out ?_
    clear hK1
    intro _
    try simp only [Act.put, List.setIfInBounds_toArray, List.set_cons_zero, List.set_cons_succ]
    refine wpAnyH_ready (rs := [3]) (by kernel_rfl) (by simp) (AllReadyH.cons (i := 3) (o := { dst := some 9, op := Op.alloc 43, type := 0, pos := "law.go:187", after := #[], guard := none }) rfl ?_ AllReadyH.nil)
    · intro K1 hK1
      refine step_al (by rfl) 43 rfl Pp.zero.cells zero43 ?_
      obtain ⟨V2, hv2⟩ : ∃ V, V1.alloc (.cells Pp.zero.cells.toArray 43) = V := ⟨_, rfl⟩
      obtain ⟨l, hq2⟩ : ∃ m, V1.heap.size = m := ⟨_, rfl⟩
      have hS2 : Hid (Below A.heap.size A V2) := by rw [← hv2]; exact below_tr hS1.out (below_al _ _)
      have hX2 : Hid (Blk V2 l 43 Pp.zero.cells ∧ A.heap.size ≤ l) := by rw [← hv2, ← hq2]; exact ⟨by simpa using Blk.new V1 Pp.zero.cells.toArray 43, hS1.out.size⟩
      have hY2 : Hid (Blk V2 m 43 Pp.zero.cells ∧ A.heap.size ≤ m) := by rw [← hv2]; exact ⟨hX1.out.1.alloc _, hX1.out.2⟩
      have hNE : Hid (m ≠ l) := by show _ ≠ _; have := hX1.out.1.lt; omega
      rw [hv2, hq2]
      clear hv2 hq2
      refine hK1.out _ _ hS2.out ?_
      clear hK1
      intro _
      try simp only [Act.put, List.setIfInBounds_toArray, List.set_cons_zero, List.set_cons_succ]
      refine wpAnyH_ready (rs := [4]) (by kernel_rfl) (by simp) (AllReadyH.cons (i := 4) (o := { dst := none, op := Op.store 43 (Operand.tmp 8) (Operand.tmp 27), type := 0, pos := "law.go:187", after := #[{ on := 2, ground := Ground.data }, { on := 0, ground := Ground.data }, { on := 0, ground := Ground.phase }, { on := 1, ground := Ground.textOnly Departure.lateStores }, { on := 2, ground := Ground.phase }, { on := 3, ground := Ground.phase }], guard := none }) rfl ?_ AllReadyH.nil)
      · intro K1 hK1
        refine step_stB (by rfl) 43 (.tmp 8) (.tmp 27) rfl m p.cells 43 _ rfl rfl hY2.out.1 (by rw [Pp.length HL.out.2.2, zero_len]) (by rw [Pp.length HL.out.2.2]; exact size43) (Pp.one _) ?_
        intro V3 hr3 hg3
        have hS3 : Hid (Below A.heap.size A V3) := hS2.out.grown hg3.out hS2.out.size (fun j hj => by cases hj; exact hY2.out.2)
        have hX3 : Hid (Blk V3 m 43 p.cells ∧ A.heap.size ≤ m) := ⟨hr3.out, hY2.out.2⟩
        have hY3 : Hid (Blk V3 l 43 Pp.zero.cells ∧ A.heap.size ≤ l) := ⟨hX2.out.1.kept hg3.out (fun hk => by cases hk; exact hNE.out rfl), hX2.out.2⟩
        clear hr3 hg3
        refine hK1.out _ _ hS3.out ?_
        clear hK1
        intro _
        try simp only [Act.put, List.setIfInBounds_toArray, List.set_cons_zero, List.set_cons_succ]
        refine wpAnyH_ready (rs := [5]) (by kernel_rfl) (by simp) (AllReadyH.cons (i := 5) (o := { dst := none, op := Op.store 43 (Operand.tmp 9) (Operand.tmp 28), type := 0, pos := "law.go:187", after := #[{ on := 3, ground := Ground.data }, { on := 1, ground := Ground.data }, { on := 4, ground := Ground.chain }, { on := 0, ground := Ground.phase }, { on := 1, ground := Ground.phase }, { on := 2, ground := Ground.phase }, { on := 3, ground := Ground.phase }, { on := 4, ground := Ground.phase }], guard := none }) rfl ?_ AllReadyH.nil)
        · intro K1 hK1
          refine step_stB (by rfl) 43 (.tmp 9) (.tmp 28) rfl l p.cells 43 _ rfl rfl hY3.out.1 (by rw [Pp.length HL.out.2.2, zero_len]) (by rw [Pp.length HL.out.2.2]; exact size43) (Pp.one _) ?_
          intro V4 hr4 hg4
          have hS4 : Hid (Below A.heap.size A V4) := hS3.out.grown hg4.out hS3.out.size (fun j hj => by cases hj; exact hY3.out.2)
          have hX4 : Hid (Blk V4 l 43 p.cells ∧ A.heap.size ≤ l) := ⟨hr4.out, hY3.out.2⟩
          have hY4 : Hid (Blk V4 m 43 p.cells ∧ A.heap.size ≤ m) := ⟨hX3.out.1.kept hg4.out (fun hk => by cases hk; exact hNE.out rfl), hX3.out.2⟩
          clear hr4 hg4
          refine hK1.out _ _ hS4.out ?_
          clear hK1
          intro _
          try simp only [Act.put, List.setIfInBounds_toArray, List.set_cons_zero, List.set_cons_succ]
          refine wpAnyH_done (by kernel_rfl) ?_ _
          exact hQ V4 m l ⟨hY4.out.1, hX4.out.1, hNE.out, hY4.out.2, hX4.out.2, hS4.out⟩
  · intro K1 hK1
    refine step_al (by rfl) 43 rfl Pp.zero.cells zero43 ?_
    obtain ⟨V1, hv1⟩ : ∃ V, V0.alloc (.cells Pp.zero.cells.toArray 43) = V := ⟨_, rfl⟩
    obtain ⟨l, hq1⟩ : ∃ m, V0.heap.size = m := ⟨_, rfl⟩
    have hS1 : Hid (Below A.heap.size A V1) := by rw [← hv1]; exact below_tr hS0.out (below_al _ _)
    have hX1 : Hid (Blk V1 l 43 Pp.zero.cells ∧ A.heap.size ≤ l) := by rw [← hv1, ← hq1]; exact ⟨by simpa using Blk.new V0 Pp.zero.cells.toArray 43, hS0.out.size⟩
    rw [hv1, hq1]
    clear hv1 hq1
    refine hK1.out _ _ hS1.out ?_
    clear hK1
    intro _
    try simp only [Act.put, List.setIfInBounds_toArray, List.set_cons_zero, List.set_cons_succ]
    refine wpAnyH_ready (rs := [2]) (by kernel_rfl) (by simp) (AllReadyH.cons (i := 2) (o := { dst := some 8, op := Op.alloc 43, type := 0, pos := "law.go:187", after := #[], guard := none }) rfl ?_ AllReadyH.nil)
    · intro K1 hK1
      refine step_al (by rfl) 43 rfl Pp.zero.cells zero43 ?_
      obtain ⟨V2, hv2⟩ : ∃ V, V1.alloc (.cells Pp.zero.cells.toArray 43) = V := ⟨_, rfl⟩
      obtain ⟨m, hq2⟩ : ∃ m, V1.heap.size = m := ⟨_, rfl⟩
      have hS2 : Hid (Below A.heap.size A V2) := by rw [← hv2]; exact below_tr hS1.out (below_al _ _)
      have hX2 : Hid (Blk V2 m 43 Pp.zero.cells ∧ A.heap.size ≤ m) := by rw [← hv2, ← hq2]; exact ⟨by simpa using Blk.new V1 Pp.zero.cells.toArray 43, hS1.out.size⟩
      have hY2 : Hid (Blk V2 l 43 Pp.zero.cells ∧ A.heap.size ≤ l) := by rw [← hv2]; exact ⟨hX1.out.1.alloc _, hX1.out.2⟩
      have hNE : Hid (l ≠ m) := by show _ ≠ _; have := hX1.out.1.lt; omega
      rw [hv2, hq2]
      clear hv2 hq2
      refine hK1.out _ _ hS2.out ?_
      clear hK1
      intro _
      try simp only [Act.put, List.setIfInBounds_toArray, List.set_cons_zero, List.set_cons_succ]
      refine wpAnyH_ready (rs := [4]) (by kernel_rfl) (by simp) (AllReadyH.cons (i := 4) (o := { dst := none, op := Op.store 43 (Operand.tmp 8) (Operand.tmp 27), type := 0, pos := "law.go:187", after := #[{ on := 2, ground := Ground.data }, { on := 0, ground := Ground.data }, { on := 0, ground := Ground.phase }, { on := 1, ground := Ground.textOnly Departure.lateStores }, { on := 2, ground := Ground.phase }, { on := 3, ground := Ground.phase }], guard := none }) rfl ?_ AllReadyH.nil)
      · intro K1 hK1
        refine step_stB (by rfl) 43 (.tmp 8) (.tmp 27) rfl m p.cells 43 _ rfl rfl hX2.out.1 (by rw [Pp.length HL.out.2.2, zero_len]) (by rw [Pp.length HL.out.2.2]; exact size43) (Pp.one _) ?_
        intro V3 hr3 hg3
        have hS3 : Hid (Below A.heap.size A V3) := hS2.out.grown hg3.out hS2.out.size (fun j hj => by cases hj; exact hX2.out.2)
        have hX3 : Hid (Blk V3 m 43 p.cells ∧ A.heap.size ≤ m) := ⟨hr3.out, hX2.out.2⟩
        have hY3 : Hid (Blk V3 l 43 Pp.zero.cells ∧ A.heap.size ≤ l) := ⟨hY2.out.1.kept hg3.out (fun hk => by cases hk; exact hNE.out.symm rfl), hY2.out.2⟩
        clear hr3 hg3
        refine hK1.out _ _ hS3.out ?_
        clear hK1
        intro _
        try simp only [Act.put, List.setIfInBounds_toArray, List.set_cons_zero, List.set_cons_succ]
        refine wpAnyH_ready (rs := [5]) (by kernel_rfl) (by simp) (AllReadyH.cons (i := 5) (o := { dst := none, op := Op.store 43 (Operand.tmp 9) (Operand.tmp 28), type := 0, pos := "law.go:187", after := #[{ on := 3, ground := Ground.data }, { on := 1, ground := Ground.data }, { on := 4, ground := Ground.chain }, { on := 0, ground := Ground.phase }, { on := 1, ground := Ground.phase }, { on := 2, ground := Ground.phase }, { on := 3, ground := Ground.phase }, { on := 4, ground := Ground.phase }], guard := none }) rfl ?_ AllReadyH.nil)
        · intro K1 hK1
          refine step_stB (by rfl) 43 (.tmp 9) (.tmp 28) rfl l p.cells 43 _ rfl rfl hY3.out.1 (by rw [Pp.length HL.out.2.2, zero_len]) (by rw [Pp.length HL.out.2.2]; exact size43) (Pp.one _) ?_
          intro V4 hr4 hg4
          have hS4 : Hid (Below A.heap.size A V4) := hS3.out.grown hg4.out hS3.out.size (fun j hj => by cases hj; exact hY3.out.2)
          have hX4 : Hid (Blk V4 l 43 p.cells ∧ A.heap.size ≤ l) := ⟨hr4.out, hY3.out.2⟩
          have hY4 : Hid (Blk V4 m 43 p.cells ∧ A.heap.size ≤ m) := ⟨hX3.out.1.kept hg4.out (fun hk => by cases hk; exact hNE.out.symm rfl), hX3.out.2⟩
          clear hr4 hg4
          refine hK1.out _ _ hS4.out ?_
          clear hK1
          intro _
          try simp only [Act.put, List.setIfInBounds_toArray, List.set_cons_zero, List.set_cons_succ]
          refine wpAnyH_done (by kernel_rfl) ?_ _
          exact hQ V4 m l ⟨hY4.out.1, hX4.out.1, hNE.out.symm, hY4.out.2, hX4.out.2, hS4.out⟩
#print axioms mono4
theorem Pp.set_y {p : Pp} (h : p.patch.length = 32) (a : Option Addr) (n c : Nat) : p.cells.set 36 (.slice a n c) = ({ p with y := ⟨a, n, c⟩ } : Pp).cells := by
  simp only [Pp.cells, List.set_cons_succ]
  rw [List.set_append_right _ _ (by rw [U_length, h]; omega), U_length, h]
  rfl
theorem Pp.set_n {p : Pp} (h : p.patch.length = 32) (a : Option Addr) (n c : Nat) : p.cells.set 37 (.slice a n c) = ({ p with n := ⟨a, n, c⟩ } : Pp).cells := by
  simp only [Pp.cells, List.set_cons_succ]
  rw [List.set_append_right _ _ (by rw [U_length, h]; omega), U_length, h]
  rfl
theorem oths_snoc_le (one s : BA) (l : List BA) : (othsL one l).length ≤ (othsL one (l ++ [s])).length := by
  rw [othsL_snoc]
  split
  · exact Nat.le_refl _
  · unfold addK
    split <;> simp
theorem pass_more {yes no : List BA} {au : BA} {op : Bool} {q : Po} (u : BA) (h : passB yes no au op q = true) : passB (yes ++ [u]) no au op q = true := by
  unfold passB at *
  simp only [Bool.and_eq_true, decide_eq_true_eq] at *
  have := oths_snoc_le au u yes
  exact ⟨⟨h.1.1, by have := h.1.2; omega⟩, h.2⟩
theorem pass_less {yes no : List BA} {au : BA} {op : Bool} {q : Po} (u : BA) (h : passB yes no au op q = false) : passB yes (no ++ [u]) au op q = false := by
  rw [← Bool.not_eq_true] at *
  intro h2
  apply h
  unfold passB at *
  simp only [Bool.and_eq_true, decide_eq_true_eq, Bool.or_eq_true, beq_iff_eq] at *
  have := oths_snoc_le au u no
  exact ⟨h2.1, h2.2.imp id (fun e => by omega)⟩
/-- texts as cells -/
def strC (l : List BA) : List Value := l.map fun s => .string s
theorem strC_one (l : List BA) : ∀ u ∈ strC l, u.oneCell' = true := by
  intro u hu
  obtain ⟨s, _, rfl⟩ := List.mem_map.1 hu
  rfl
theorem Strs.of {w : World} {a : Option Addr} {n : Nat} {l : List BA} (h : Rd w 9 1 a n (strC l)) : Strs w a n l := by
  refine ⟨by have := h.1; simpa [strC] using this, fun hp => ?_⟩
  obtain ⟨g, off, e, hr, hc⟩ := h.2.2 hp
  exact ⟨g, off, e, hr.lt, fun i x hx => hc i _ (by simp [strC, hx])⟩
theorem Bs.txt {B : Nat} {w : World} {v : Value} {n : Nat} {l : List BA} (h : Bs 9 1 B w v n (strC l)) (hz : ∀ x ∈ l, x.size ≤ 140737488355328) (hn : n ≤ 1000000) : ∃ s : Sl, v = .slice s.a s.n s.c ∧ Txt w s l ∧ s.n = n ∧ Rd w 9 1 s.a s.n (strC l) := by
  obtain ⟨a, cap, rfl, _, hrd, _⟩ := h.read
  exact ⟨⟨a, n, cap⟩, rfl, ⟨Strs.of hrd, by show n ≤ _; omega, hz⟩, rfl, hrd⟩
end Go.Proofs.Ytaecigpjcbjcbaa.Oct
