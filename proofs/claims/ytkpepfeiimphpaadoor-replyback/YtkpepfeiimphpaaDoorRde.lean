/-
  Layer 24 (reply): Read of the program.
-/
import Derived.Test.YtkpepfeiimphpaaDoorRal
namespace Go.Proofs.YtkpepfeiimphpaaDoor.Oct
open Go.RowKit
set_option linter.unusedSimpArgs false
set_option linter.unusedVariables false

theorem step_stB {ops : Array Oper} {o : Oper} {a : Act} {w : World} {K : Act → World → Prop} {Q : Exit → Act → World → Prop} {E : Prop} (hw : Region.wanted o (yielded ops a.tmps) = true) (t : TypeId) (x y : Operand) (hop : o.op = .store t x y) (b : Nat) (cs : List Value) (T : TypeId) (L : List Value) (hx : a.eval x = .pointer (some ⟨b, 0, none⟩)) (hy : a.eval y = .agg cs.toArray) (hb : Blk w b T L) (hkl : cs.length = L.length)
    (hi : (Tryd.prog.info? t).map (·.size) = some cs.length) (h1 : ∀ v ∈ cs, v.oneCell' = true) (hk : ∀ V, Hid (Blk V b T cs) → Hid (w.grownBy V (some b)) → K (a.put o.dst undef) V) : if Region.wanted o (yielded ops a.tmps) = true then Oper.wp Tryd.prog o a w K Q else E := by
  rw [if_pos hw]
  refine wp_store_mid t x y hop b 0 cs.toArray hx hy (by simpa using hb.there 0 cs.length (by omega)) (by simpa using hi) (all_oneCell_toArray h1) ?_
  have e := Blk.setCells cs 0 w L hb (by omega)
  refine hk _ ?_ e.2
  have h2 := e.1
  rw [List.take_zero, List.nil_append, List.drop_of_length_le (by omega), List.append_nil] at h2
  show Blk _ _ _ _
  simpa using h2
set_option maxRecDepth 100000 in
set_option maxHeartbeats 4000000 in
theorem rd5 {Q : Exit → Act → World → Prop} {x0 x1 x3 x4 x6 x7 x8 x9 x10 x11 x12 x13 x14 x15 x16 x17 : Value} {ds : List Deferred} {A : World} {b g a : Nat} {s ty bo : BA} {st : Int} {cl : Bool}
    (HX : Hid (Blk A g 44 (rdc s (a : Int) st ty bo cl))) (HZ : Hid (Blk A b 23 (rpc 0 e0 e0 false))) (HL : Hid (g < A.heap.size ∧ some g ≠ some b))
    (hQ : ∀ V1, Blk V1 b 23 (rpc st ty bo cl) → A.grownBy V1 (some b) → Q .normal { tmps := #[x0, x1, .pointer (some ⟨b, 0, none⟩), iv (a : Int), iv 0, .pointer (some ⟨g, 0, none⟩), x6, x7, x8, x9, x10, x11, x12, x13, .pointer (some ⟨g, 2, none⟩), .agg (rpc st ty bo cl).toArray, .pointer (some ⟨g, 1, none⟩), iv (a : Int)], defers := ds } V1) :
    (Code.region 5 #[{ dst := some 14, op := Op.fieldAddr 44 (Operand.tmp 5) 2, type := 0, pos := "read.go:34", after := #[], guard := none }, { dst := some 15, op := Op.load 23 (Operand.tmp 14), type := 23, pos := "read.go:34", after := #[{ on := 0, ground := Ground.data }], guard := none }, { dst := some 16, op := Op.fieldAddr 44 (Operand.tmp 5) 1, type := 0, pos := "read.go:34", after := #[{ on := 4, ground := Ground.gcOnly Departure.lateStores }], guard := none }, { dst := some 17, op := Op.load 3 (Operand.tmp 16), type := 3, pos := "read.go:34", after := #[{ on := 2, ground := Ground.data }, { on := 4, ground := Ground.gcOnly Departure.lateStores }], guard := none }, { dst := none, op := Op.store 23 (Operand.tmp 2) (Operand.tmp 15), type := 0, pos := "read.go:34", after := #[{ on := 1, ground := Ground.data }, { on := 0, ground := Ground.phase }, { on := 1, ground := Ground.phase }, { on := 2, ground := Ground.textOnly Departure.lateStores }, { on := 3, ground := Ground.textOnly Departure.lateStores }], guard := none }, { dst := some 3, op := Op.assign (Operand.tmp 17), type := 3, pos := "read.go:34", after := #[{ on := 3, ground := Ground.data }, { on := 4, ground := Ground.chain }, { on := 0, ground := Ground.phase }, { on := 1, ground := Ground.phase }, { on := 2, ground := Ground.phase }, { on := 3, ground := Ground.phase }, { on := 4, ground := Ground.phase }], guard := none }, { dst := some 4, op := Op.assign (Operand.const (Value.int IntKind.i64 0)), type := 25, pos := "read.go:34", after := #[{ on := 5, ground := Ground.chain }, { on := 0, ground := Ground.phase }, { on := 1, ground := Ground.phase }, { on := 2, ground := Ground.phase }, { on := 3, ground := Ground.phase }, { on := 4, ground := Ground.phase }, { on := 5, ground := Ground.phase }], guard := none }] true).wp Tryd.prog Q { tmps := #[x0, x1, .pointer (some ⟨b, 0, none⟩), x3, x4, .pointer (some ⟨g, 0, none⟩), x6, x7, x8, x9, x10, x11, x12, x13, x14, x15, x16, x17], defers := ds } A := by
  refine Code.wp_mono (Q := fun x a' w' => match x with | .normal => Q .normal a' w' | _ => False) (by intro x a' w' h; cases x <;> first | exact h | exact h.elim) ?_
  refine wp_region_held (S := fun V => A.grownBy V (some b)) (by kernel_rfl) ?_
  have hS0 : Hid (A.grownBy A.drew (some b)) := grown_drewN A 1 _
  change wpAnyH Tryd.prog .any _ _ (fun V => A.grownBy V (some b)) 7 (Array.replicate 7 false) _ A.drew
  obtain ⟨V0, hV0⟩ : ∃ V0, A.drew = V0 := ⟨_, rfl⟩
  rw [hV0]
  rw [hV0] at hS0
  have hZ0 : Hid (Blk V0 b 23 (rpc 0 e0 e0 false)) := by rw [← hV0]; exact HZ.out
  clear hV0
  refine wpAnyH_take (i := 0) (oi := { dst := some 14, op := Op.fieldAddr 44 (Operand.tmp 5) 2, type := 0, pos := "read.go:34", after := #[], guard := none }) (v := .pointer (some ⟨g, 2, none⟩)) rfl (by kernel_rfl) (by kernel_rfl) (by kernel_rfl) (fun _ _ _ h => h.elim) (Or.inl ⟨by rfl, ?y1⟩) hS0.out ?_
  case y1 =>
    intro V hV
    go_simp
  simp only [Act.put, List.setIfInBounds_toArray, List.set_cons_zero, List.set_cons_succ]
  refine wpAnyH_take (i := 1) (oi := { dst := some 15, op := Op.load 23 (Operand.tmp 14), type := 23, pos := "read.go:34", after := #[{ on := 0, ground := Ground.data }], guard := none }) (v := .agg (rpc st ty bo cl).toArray) rfl (by kernel_rfl) (by kernel_rfl) (by kernel_rfl) (fun _ _ _ h => h.elim) (yieldsIf_load_mid (by rfl) _ _ rfl _ _ rfl (rpc st ty bo cl) _ (fun V hV => rangeAt_same (by have := HX.out.range 2 4; simpa using this) ((show A.grownBy V (some b) from hV).block _ (HL.out.1) (HL.out.2))) Tryd.underlying23 rfl (size23)) hS0.out ?_
  simp only [Act.put, List.setIfInBounds_toArray, List.set_cons_zero, List.set_cons_succ]
  refine wpAnyH_take (i := 2) (oi := { dst := some 16, op := Op.fieldAddr 44 (Operand.tmp 5) 1, type := 0, pos := "read.go:34", after := #[{ on := 4, ground := Ground.gcOnly Departure.lateStores }], guard := none }) (v := .pointer (some ⟨g, 1, none⟩)) rfl (by kernel_rfl) (by kernel_rfl) (by kernel_rfl) (fun _ _ _ h => h.elim) (Or.inl ⟨by rfl, ?y2⟩) hS0.out ?_
  case y2 =>
    intro V hV
    go_simp
  simp only [Act.put, List.setIfInBounds_toArray, List.set_cons_zero, List.set_cons_succ]
  refine wpAnyH_take (i := 3) (oi := { dst := some 17, op := Op.load 3 (Operand.tmp 16), type := 3, pos := "read.go:34", after := #[{ on := 2, ground := Ground.data }, { on := 4, ground := Ground.gcOnly Departure.lateStores }], guard := none }) (v := iv (a : Int)) rfl (by kernel_rfl) (by kernel_rfl) (by kernel_rfl) (fun _ _ _ h => h.elim) (Or.inl ⟨by rfl, ?y3⟩) hS0.out ?_
  case y3 =>
    intro V hV
    have hc : V.cell? ⟨g, 1, none⟩ = some (iv (a : Int)) := (World.cell?_of_block (a := ⟨g, 1, none⟩) ((show A.grownBy V (some b) from hV).block g HL.out.1 HL.out.2)).trans (HX.out.cell rfl)
    go_simp
  simp only [Act.put, List.setIfInBounds_toArray, List.set_cons_zero, List.set_cons_succ]
  refine wpAnyH_ready (rs := [4]) (by kernel_rfl) (by simp) (AllReadyH.cons (i := 4) (o := { dst := none, op := Op.store 23 (Operand.tmp 2) (Operand.tmp 15), type := 0, pos := "read.go:34", after := #[{ on := 1, ground := Ground.data }, { on := 0, ground := Ground.phase }, { on := 1, ground := Ground.phase }, { on := 2, ground := Ground.textOnly Departure.lateStores }, { on := 3, ground := Ground.textOnly Departure.lateStores }], guard := none }) rfl ?_ AllReadyH.nil)
  · intro K1 hK1
    refine step_stB (by rfl) 23 (.tmp 2) (.tmp 15) rfl b (rpc st ty bo cl) 23 _ rfl rfl hZ0.out (by rfl) size23 (rpc_one _ _ _ _) ?_
    intro V1 hX1 hg1
    have hS1 : Hid (A.grownBy V1 (some b)) := grown_tr hS0.out hg1.out
    clear hg1
    refine hK1.out _ _ hS1.out ?_
    clear hK1
    intro _
    try simp only [Act.put, List.setIfInBounds_toArray, List.set_cons_zero, List.set_cons_succ]
    refine wpAnyH_take (i := 5) (oi := { dst := some 3, op := Op.assign (Operand.tmp 17), type := 3, pos := "read.go:34", after := #[{ on := 3, ground := Ground.data }, { on := 4, ground := Ground.chain }, { on := 0, ground := Ground.phase }, { on := 1, ground := Ground.phase }, { on := 2, ground := Ground.phase }, { on := 3, ground := Ground.phase }, { on := 4, ground := Ground.phase }], guard := none }) (v := iv (a : Int)) rfl (by kernel_rfl) (by kernel_rfl) (by kernel_rfl) (fun _ _ _ h => h.elim) (Or.inl ⟨by rfl, ?y4⟩) hS1.out ?_
    case y4 =>
      intro V hV
      go_simp
    simp only [Act.put, List.setIfInBounds_toArray, List.set_cons_zero, List.set_cons_succ]
    refine wpAnyH_take (i := 6) (oi := { dst := some 4, op := Op.assign (Operand.const (Value.int IntKind.i64 0)), type := 25, pos := "read.go:34", after := #[{ on := 5, ground := Ground.chain }, { on := 0, ground := Ground.phase }, { on := 1, ground := Ground.phase }, { on := 2, ground := Ground.phase }, { on := 3, ground := Ground.phase }, { on := 4, ground := Ground.phase }, { on := 5, ground := Ground.phase }], guard := none }) (v := iv 0) rfl (by kernel_rfl) (by kernel_rfl) (by kernel_rfl) (fun _ _ _ h => h.elim) (Or.inl ⟨by rfl, ?y5⟩) hS1.out ?_
    case y5 =>
      intro V hV
      go_simp
    simp only [Act.put, List.setIfInBounds_toArray, List.set_cons_zero, List.set_cons_succ]
    refine wpAnyH_done (by kernel_rfl) ?_ _
    exact hQ V1 hX1.out hS1.out
#print axioms rd5
theorem size44 : (Tryd.prog.info? 44).map (·.size) = some 6 := by kernel_rfl
theorem rdc_one (s : BA) (a st : Int) (ty bo : BA) (cl : Bool) : ∀ v ∈ rdc s a st ty bo cl, v.oneCell' = true := by
  intro v hv
  simp only [List.mem_cons, List.not_mem_nil, or_false] at hv
  rcases hv with rfl | rfl | rfl | rfl | rfl | rfl <;> rfl
set_option maxRecDepth 100000 in
set_option maxHeartbeats 2000000 in
theorem read_is (s : BA) (hs : s.size ≤ 140000) (w : World) (hp : PT w) (hm : MX w) (hx : SX w) : Calls Tryd.prog 12 #[.string s] w fun e w' => RdP s.data.toList e ∧ Below w.heap.size w w' := by
  obtain ⟨b, hb⟩ : ∃ b, w.heap.size = b := ⟨_, rfl⟩
  obtain ⟨A1, hA1⟩ : ∃ A, w.alloc (.cells #[iv 0, .string e0, .string e0, .bool false] 23) = A := ⟨_, rfl⟩
  obtain ⟨g, hg⟩ : ∃ g, A1.heap.size = g := ⟨_, rfl⟩
  have hB1 : Below w.heap.size w A1 := by rw [← hA1]; exact below_al _ _
  have HB1 : Hid (Below w.heap.size w A1) := hB1
  have HZ : Hid (Blk A1 b 23 (rpc 0 e0 e0 false) ∧ w.heap.size ≤ b) := ⟨by rw [← hA1, ← hb]; exact Blk.new w _ _, by omega⟩
  have HPM : Hid (PT A1 ∧ MX A1) := ⟨hp.below hB1, hm.below hB1⟩
  have HX : Hid (SX A1) := hx.below hB1
  have HS : Hid (s.size ≤ 140000) := hs
  clear hp hm hx hs hB1
  go_enter Tryd.func12, Tryd.ntmps12
  go_wp2_with (with_reducible change wpList _ _ _ ({ dst := none, op := Op.store 44 _ _, type := _, pos := _, after := _, guard := _ } :: _) _ _; refine Hid.out ?_)
  show wpList _ _ _ _ _ _
  refine wpList_store_blk rfl 44 (.tmp 5) (.tmp 8) rfl g 0 44 _ (rdc s ((0 : Nat) : Int) 0 e0 e0 false) rfl rfl (by rw [← hg]; exact Blk.new A1 _ _) (by show 6 ≤ 6; exact Nat.le_refl _) size44 (rdc_one _ _ _ _ _ _) ?_
  intro W1 hx1 hg1
  have HR : Hid (RQ A1 W1 g (rdc s ((0 : Nat) : Int) 0 e0 e0 false)) := by
    have e := below_al A1 (Obj.cells #[.string ⟨#[]⟩, iv 0, iv 0, .string ⟨#[]⟩, .string ⟨#[]⟩, .bool false] 44)
    refine ⟨HPM.out.1, HPM.out.2, ?_, by simpa using hx1.out, by omega⟩
    obtain ⟨a1, a2, a3, a4, a5⟩ := hg1.out
    obtain ⟨b1, b2, b3, b4, b5⟩ := e
    exact ⟨a1.trans b1, a2.trans b2, a3.trans b3, Nat.le_trans b4 a4, fun k hk => (a5 k (Nat.lt_of_lt_of_le hk b4) (by simp; omega)).trans (b5 k hk)⟩
  clear hx1 hg1 hA1 hb
  have HG : Hid (A1.heap.size = g) := hg
  clear hg
  go_wp2_with fail
  refine (readAll_is HR.out HX.out HS.out).mono ?_
  rintro e W2 (⟨st, ty, bo, cl, a, rfl, hr, h1, h2, ha⟩ | ⟨h1, a, X, rfl, hr⟩)
  · have HR2 : Hid (RQ A1 W2 g (rdc s (a : Int) st ty bo cl)) := hr
    have HE : Hid ((prL st ty bo cl).2 = 0 ∧ (prL st ty bo cl).1 = s.data.toList.take a ∧ a ≤ s.size) := ⟨h1, h2, ha⟩
    clear hr h1 h2 ha HR
    go_wp2_with fail
    refine (is_nil W2).mono ?_
    rintro e X ⟨rfl, rfl⟩
    go_wp2_with fail
    refine rd5 HR2.out.x (HZ.out.1.below HR2.out.bl HZ.out.1.lt) ⟨HR2.out.x.lt, fun h => by injection h with h; have := HZ.out.1.lt; have := HG.out; omega⟩ ?_
    intro W3 hz hg
    have HB : Hid (Below w.heap.size w W3 ∧ Blk W3 b 23 (rpc st ty bo cl)) := by
      refine ⟨?_, hz⟩
      have e := below_tr HB1.out HR2.out.bl
      obtain ⟨a1, a2, a3, a4, a5⟩ := hg
      obtain ⟨b1, b2, b3, b4, b5⟩ := e
      exact ⟨a1.trans b1, a2.trans b2, a3.trans b3, Nat.le_trans b4 a4, fun k hk => (a5 k (Nat.lt_of_lt_of_le hk b4) (by have := HZ.out.2; simp; omega)).trans (b5 k hk)⟩
    clear hz hg HR2
    go_wp2
    refine rret23uu rfl rfl rfl rfl HB.out.2 ⟨.inl ⟨st, ty, bo, cl, ?_, HE.out.1, ?_⟩, HB.out.1⟩
    · have hl : (prL st ty bo cl).1.length = a := by
        rw [HE.out.2.1, List.length_take]
        have h3 : s.data.toList.length = s.size := rfl
        have := HE.out.2.2
        omega
      rw [hl]
      rfl
    · unfold aftB
      rw [List.isPrefixOf_iff_prefix, HE.out.2.1]
      exact List.take_prefix _ _
  · have HR2 : Hid (RQ A1 W2 g X) := hr
    have HE : Hid (∀ (st : Int) (ty bo : BA) (cl : Bool), (prL st ty bo cl).2 = 0 → aftB s.data.toList (prL st ty bo cl).1 = false) := h1
    clear hr h1 HR
    go_wp2_with fail
    refine (is_gv (a : Int) W2).mono ?_
    rintro e W3 ⟨rfl, hb⟩
    have HR3 : Hid (RQ A1 W3 g X) := HR2.out.below hb
    clear hb HR2
    go_wp2_with (with_reducible change wpList _ _ _ ({ dst := none, op := Op.store 23 _ _, type := _, pos := _, after := _, guard := _ } :: _) _ _; refine Hid.out ?_)
    show wpList _ _ _ _ _ _
    refine wpList_store_blk rfl 23 (.tmp 2) (.tmp 13) rfl b 0 23 _ (rpc 0 e0 e0 false) rfl rfl (HZ.out.1.below HR3.out.bl HZ.out.1.lt) (by decide) size23 (rpc_one _ _ _ _) ?_
    intro W4 hz hg
    have HB : Hid (Below w.heap.size w W4 ∧ Blk W4 b 23 (rpc 0 e0 e0 false)) := by
      refine ⟨?_, by simpa using hz.out⟩
      have e := below_tr HB1.out HR3.out.bl
      obtain ⟨a1, a2, a3, a4, a5⟩ := hg.out
      obtain ⟨b1, b2, b3, b4, b5⟩ := e
      exact ⟨a1.trans b1, a2.trans b2, a3.trans b3, Nat.le_trans b4 a4, fun k hk => (a5 k (Nat.lt_of_lt_of_le hk b4) (by have := HZ.out.2; simp; omega)).trans (b5 k hk)⟩
    clear hz hg HR3
    go_wp2
    refine rret23uu rfl rfl rfl rfl HB.out.2 ⟨.inr ⟨rfl, HE.out⟩, HB.out.1⟩
#print axioms read_is
end Go.Proofs.YtkpepfeiimphpaaDoor.Oct
