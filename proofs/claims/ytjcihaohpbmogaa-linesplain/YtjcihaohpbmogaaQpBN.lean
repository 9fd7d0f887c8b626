/-
  Layer 11 (lines): do: an addition.
-/
import Derived.Test.YtjcihaohpbmogaaQpAW
import Derived.Test.YtjcihaohpbmogaaQpAT
import Derived.Test.YtjcihaohpbmogaaQpAR
/- Layer 11 (lines): do: an addition. -/
namespace Go.Proofs.Ytjcihaohpbmogaa.Oct
open Go.RowKit
set_option maxRecDepth 100000
set_option linter.unusedSimpArgs false
set_option linter.unusedVariables false
set_option linter.unusedSectionVars false

theorem step_bz {ops : Array Oper} {op : Oper} {a : Act} {w : World} {K : Act → World → Prop} {Q : Exit → Act → World → Prop} {E : Prop} (hw : Region.wanted op (yielded ops a.tmps) = true) (T : TypeId) (hop : op.op = .buildSlice T 0 #[]) (r : Value) (W' : World) (hr : (Instr.buildSlice T 0 #[]).run Try.prog w = .ok r W')
    (hk : K (a.put op.dst r) W') : if Region.wanted op (yielded ops a.tmps) = true then Oper.wp Try.prog op a w K Q else E := by
  rw [if_pos hw]
  unfold Oper.wp execOp
  simp only [hop, List.map_toArray, List.map_nil, Sem.run_bind, Sem.run_pure, Result.andThen_ok, hr]
  exact hk
theorem step_ap {ops : Array Oper} {op : Oper} {a : Act} {w : World} {K : Act → World → Prop} {Q : Exit → Act → World → Prop} {E : Prop} (hw : Region.wanted op (yielded ops a.tmps) = true) (t k : TypeId) (m x : Operand) (hop : op.op = .call { callee := .builtin .append, args := #[m, x], argTypes := #[t, k] }) (vm vx : Value) (hm : a.eval m = vm) (hx : a.eval x = vx) (r : Value) (W' : World)
    (hr : (Builtin.append_ #[t, k] op.type #[vm, vx]).run Try.prog w = .ok r W') (hk : K (a.put op.dst r) W') : if Region.wanted op (yielded ops a.tmps) = true then Oper.wp Try.prog op a w K Q else E := by
  rw [if_pos hw]
  unfold Oper.wp execOp
  simp only [hop, resolve, invoke, builtin, Sem.run_bind, Sem.run_pure, Result.andThen_ok, List.map_toArray, List.map_cons, List.map_nil, hm, hx, hr]
  exact hk
theorem wpList_ap {ops : Array Oper} {rest : List Oper} {o : Oper} {a : Act} {w : World} {Q : Exit → Act → World → Prop} (hg : o.guard = none) (t k : TypeId) (m x : Operand) (hop : o.op = .call { callee := .builtin .append, args := #[m, x], argTypes := #[t, k] }) (vm vx : Value) (hm : a.eval m = vm) (hx : a.eval x = vx) (r : Value) (W' : World)
    (hr : (Builtin.append_ #[t, k] o.type #[vm, vx]).run Try.prog w = .ok r W') (hK : wpList Try.prog ops Q rest (a.put o.dst r) W') : wpList Try.prog ops Q (o :: rest) a w := by
  refine wpList_plain hg fun K' hK' => ?_
  unfold Oper.wp execOp
  simp only [hop, resolve, invoke, builtin, Sem.run_bind, Sem.run_pure, Result.andThen_ok, List.map_toArray, List.map_cons, List.map_nil, hm, hx, hr]
  exact hK' _ _ hK
theorem blk_type {w : World} {g s t : Nat} {L M : List Value} (h : Blk w g s L) (k : Blk w g t M) : s = t := by
  unfold Blk at h k
  rw [h] at k
  cases k
  rfl
theorem VsR.grown0 {w w' : World} {a : Option Addr} {n b t : Nat} {vs : List Vx} (h : VsR w a n vs) (hb : Blk w b t []) (hg : w.grownBy w' (some b)) : VsR w' a n vs := by
  by_cases hn : 0 < n
  · refine h.same hg.size fun g off e => hg.block g ?_ fun e2 => ?_
    · obtain ⟨g', off', e', hlt, _⟩ := h.2.2 hn
      rw [e'] at e
      cases e
      exact hlt
    · obtain ⟨g', off', e', hlt, hr⟩ := h.2.2 hn
      rw [e'] at e
      cases e
      cases e2
      obtain ⟨v, hv⟩ : ∃ v, vs[0]? = some v := ⟨_, List.getElem?_eq_getElem (by rw [h.1]; exact hn)⟩
      have h33 := Vx.len (h.2.1 v (List.mem_of_getElem? hv)).1
      obtain ⟨x, hx⟩ : ∃ x, v.cells[0]? = some x := ⟨_, List.getElem?_eq_getElem (by omega)⟩
      have hc := hr 0 v hv 0 x hx
      unfold Blk at hb
      have : w.cell? ⟨b, off + 0 * 33 + 0, none⟩ = none := by
        unfold World.cell?
        simp [hb]
      rw [this] at hc
      cases hc
  · obtain rfl : n = 0 := by omega
    have : vs = [] := List.length_eq_zero_iff.1 h.1
    subst this
    exact VsR.nil _ _
def VsA (w : World) (B : Nat) (a : Option Addr) (n : Nat) (vs : List Vx) : Prop := VsR w a n vs ∧ ∀ g off, a = some ⟨g, off, none⟩ → B ≤ g
set_option maxRecDepth 100000 in
set_option maxHeartbeats 4000000 in
theorem do3 {Q : Exit → Act → World → Prop} {x1 x2 x4 x5 x6 x7 x8 x9 x10 x11 x12 x13 x14 x15 x16 x17 x18 x19 x20 x21 x22 x23 x24 x25 x26 x27 x28 x29 x30 x31 x32 x33 x34 x35 x36 x37 x38 x39 x40 x41 x42 x43 x44 : Value} {ds : List Deferred} {A : World} {p d : Nat} {G : Gm} {XU XD : List Value} {a ta : Option Addr} {n c tn tc : Nat} {ids : List Vx} {ts : List BA} {E : Int} {PS : List PL}
    (HL : Hid (d < A.heap.size ∧ ¬ d ∈ G.bl p)) (HR1 : Hid (A.rangeAt d 1 XU ∧ (Try.prog.info? 34).map (·.size) = some XU.length)) (HR2 : Hid (A.rangeAt d 34 XD ∧ (Try.prog.info? 34).map (·.size) = some XD.length)) (c67 : A.cell? ⟨d, 67, none⟩ = some (.slice a n c)) (c68 : A.cell? ⟨d, 68, none⟩ = some (.slice ta tn tc)) (HR3 : Hid (VsR A a n ids ∧ n ≤ 1000000)) (HR4 : Hid (TsR A ta tn ts ∧ tn ≤ 1000000)) (HADD : Hid (∀ V a1 c1 a2 c2, Below A.heap.size A V → VsR V a1 n ids → TsR V a2 tn ts → Calls Try.prog 22 #[.pointer (some ⟨p, 0, none⟩), .agg XU.toArray, .agg XD.toArray, .slice a1 n c1, .slice a2 tn c2] V fun e w' => e = .returned (iv E) ∧ ∃ G', GAfter V p G G' w' ∧ G'.ps = PS))
    (hQ : ∀ V3 r1 r2 a1 c1 a2 c2 G', Keep (fun k => k ∈ G.bl p) A V3 → (GAt V3 p G' ∧ G'.ps = PS ∧ ∀ k ∈ G'.bl p, k ∈ G.bl p ∨ A.heap.size ≤ k) → Q .normal { tmps := #[.pointer (some ⟨p, 0, none⟩), x1, x2, .pointer (some ⟨d, 0, none⟩), iv E, x5, x6, x7, x8, .pointer (some ⟨p, 0, none⟩), .pointer (some ⟨d, 1, none⟩), .agg XU.toArray, .pointer (some ⟨d, 34, none⟩), .agg XD.toArray, .slice (some ⟨r1, 0, none⟩) 0 0, .pointer (some ⟨d, 67, none⟩), .slice a n c, .slice a1 n c1, .slice (some ⟨r2, 0, none⟩) 0 0, .pointer (some ⟨d, 68, none⟩), .slice ta tn tc, .slice a2 tn c2, iv E, x23, x24, x25, x26, x27, x28, x29, x30, x31, x32, x33, x34, x35, x36, x37, x38, x39, x40, x41, x42, x43, x44], defers := ds } V3) :
    (Code.region 3 #[{ dst := some 9, op := Op.move (Operand.tmp 0), type := 25, pos := "law.go:50", after := #[], guard := none }, { dst := some 10, op := Op.fieldAddr 38 (Operand.tmp 3) 1, type := 0, pos := "law.go:50", after := #[], guard := none }, { dst := some 11, op := Op.load 34 (Operand.tmp 10), type := 34, pos := "law.go:50", after := #[{ on := 1, ground := Ground.data }], guard := none }, { dst := some 12, op := Op.fieldAddr 38 (Operand.tmp 3) 2, type := 0, pos := "law.go:50", after := #[], guard := none }, { dst := some 13, op := Op.load 34 (Operand.tmp 12), type := 34, pos := "law.go:50", after := #[{ on := 3, ground := Ground.data }], guard := none }, { dst := some 14, op := Op.buildSlice 35 0 #[], type := 35, pos := "law.go:50", after := #[], guard := none }, { dst := some 15, op := Op.fieldAddr 38 (Operand.tmp 3) 3, type := 0, pos := "law.go:50", after := #[], guard := none }, { dst := some 16, op := Op.load 35 (Operand.tmp 15), type := 35, pos := "law.go:50", after := #[{ on := 6, ground := Ground.data }], guard := none }, { dst := some 17, op := Op.call { callee := Callee.builtin Builtin.append, args := #[Operand.tmp 14, Operand.tmp 16], argTypes := #[35, 35] }, type := 35, pos := "law.go:50", after := #[{ on := 5, ground := Ground.data }, { on := 7, ground := Ground.data }], guard := none }, { dst := some 18, op := Op.buildSlice 36 0 #[], type := 36, pos := "law.go:50", after := #[], guard := none }, { dst := some 19, op := Op.fieldAddr 38 (Operand.tmp 3) 4, type := 0, pos := "law.go:50", after := #[], guard := none }, { dst := some 20, op := Op.load 36 (Operand.tmp 19), type := 36, pos := "law.go:50", after := #[{ on := 10, ground := Ground.data }], guard := none }, { dst := some 21, op := Op.call { callee := Callee.builtin Builtin.append, args := #[Operand.tmp 18, Operand.tmp 20], argTypes := #[36, 36] }, type := 36, pos := "law.go:50", after := #[{ on := 9, ground := Ground.data }, { on := 11, ground := Ground.data }, { on := 8, ground := Ground.chain }], guard := none }, { dst := some 22, op := Op.call { callee := Callee.value (Operand.func 22), args := #[Operand.tmp 9, Operand.tmp 11, Operand.tmp 13, Operand.tmp 17, Operand.tmp 21], argTypes := #[25, 34, 34, 35, 36] }, type := 40, pos := "law.go:50", after := #[{ on := 0, ground := Ground.data }, { on := 2, ground := Ground.data }, { on := 4, ground := Ground.data }, { on := 8, ground := Ground.data }, { on := 12, ground := Ground.data }, { on := 12, ground := Ground.chain }], guard := none }, { dst := some 4, op := Op.assign (Operand.tmp 22), type := 40, pos := "law.go:50", after := #[{ on := 13, ground := Ground.data }, { on := 13, ground := Ground.chain }, { on := 0, ground := Ground.phase }, { on := 1, ground := Ground.phase }, { on := 2, ground := Ground.phase }, { on := 3, ground := Ground.phase }, { on := 4, ground := Ground.phase }, { on := 5, ground := Ground.phase }, { on := 6, ground := Ground.phase }, { on := 7, ground := Ground.phase }, { on := 8, ground := Ground.phase }, { on := 9, ground := Ground.phase }, { on := 10, ground := Ground.phase }, { on := 11, ground := Ground.phase }, { on := 12, ground := Ground.phase }, { on := 13, ground := Ground.phase }], guard := none }] true).wp Try.prog Q { tmps := #[.pointer (some ⟨p, 0, none⟩), x1, x2, .pointer (some ⟨d, 0, none⟩), x4, x5, x6, x7, x8, x9, x10, x11, x12, x13, x14, x15, x16, x17, x18, x19, x20, x21, x22, x23, x24, x25, x26, x27, x28, x29, x30, x31, x32, x33, x34, x35, x36, x37, x38, x39, x40, x41, x42, x43, x44], defers := ds } A := by
  refine Code.wp_mono (Q := fun x a' w' => match x with | .normal => Q .normal a' w' | _ => False) (by intro x a' w' h; cases x <;> first | exact h | exact h.elim) ?_
  refine wp_region_held (S := fun V => Keep (fun k => k ∈ G.bl p) A V) (by kernel_rfl) ?_
  have hS0 : Hid (Keep (fun k => k ∈ G.bl p) A A.drew) := (Keep.refl _ A).drew
  change wpAnyH Try.prog .any _ _ (fun V => Keep (fun k => k ∈ G.bl p) A V) 15 (Array.replicate 15 false) _ A.drew
  obtain ⟨V0, hV0⟩ : ∃ V0, A.drew = V0 := ⟨_, rfl⟩
  rw [hV0]
  rw [hV0] at hS0
  have hL0 : Hid (Below A.heap.size A V0) := by
    show Below _ _ _
    rw [← hV0]
    exact below_drew0 A
  clear hV0
  refine wpAnyH_take (i := 0) (oi := { dst := some 9, op := Op.move (Operand.tmp 0), type := 25, pos := "law.go:50", after := #[], guard := none }) (v := .pointer (some ⟨p, 0, none⟩)) rfl (by kernel_rfl) (by kernel_rfl) (by kernel_rfl) (fun _ _ _ h => h.elim) (Or.inl ⟨by rfl, ?y1⟩) hS0.out ?_
  case y1 =>
    intro V hV
    go_simp
  simp only [Act.put, List.setIfInBounds_toArray, List.set_cons_zero, List.set_cons_succ]
  refine wpAnyH_take (i := 1) (oi := { dst := some 10, op := Op.fieldAddr 38 (Operand.tmp 3) 1, type := 0, pos := "law.go:50", after := #[], guard := none }) (v := .pointer (some ⟨d, 1, none⟩)) rfl (by kernel_rfl) (by kernel_rfl) (by kernel_rfl) (fun _ _ _ h => h.elim) (Or.inl ⟨by rfl, ?y2⟩) hS0.out ?_
  case y2 =>
    intro V hV
    go_simp
  simp only [Act.put, List.setIfInBounds_toArray, List.set_cons_zero, List.set_cons_succ]
  refine wpAnyH_take (i := 2) (oi := { dst := some 11, op := Op.load 34 (Operand.tmp 10), type := 34, pos := "law.go:50", after := #[{ on := 1, ground := Ground.data }], guard := none }) (v := .agg XU.toArray) rfl (by kernel_rfl) (by kernel_rfl) (by kernel_rfl) (fun _ _ _ h => h.elim) (yieldsIf_load_mid (by rfl) _ _ rfl _ _ rfl (XU) _ (fun V hV => rangeAt_same (HR1.out.1) ((show Keep (fun k => k ∈ G.bl p) A V from hV).block _ (HL.out.1) (HL.out.2))) Try.underlying34 rfl (HR1.out.2)) hS0.out ?_
  simp only [Act.put, List.setIfInBounds_toArray, List.set_cons_zero, List.set_cons_succ]
  refine wpAnyH_take (i := 3) (oi := { dst := some 12, op := Op.fieldAddr 38 (Operand.tmp 3) 2, type := 0, pos := "law.go:50", after := #[], guard := none }) (v := .pointer (some ⟨d, 34, none⟩)) rfl (by kernel_rfl) (by kernel_rfl) (by kernel_rfl) (fun _ _ _ h => h.elim) (Or.inl ⟨by rfl, ?y3⟩) hS0.out ?_
  case y3 =>
    intro V hV
    go_simp
  simp only [Act.put, List.setIfInBounds_toArray, List.set_cons_zero, List.set_cons_succ]
  refine wpAnyH_take (i := 4) (oi := { dst := some 13, op := Op.load 34 (Operand.tmp 12), type := 34, pos := "law.go:50", after := #[{ on := 3, ground := Ground.data }], guard := none }) (v := .agg XD.toArray) rfl (by kernel_rfl) (by kernel_rfl) (by kernel_rfl) (fun _ _ _ h => h.elim) (yieldsIf_load_mid (by rfl) _ _ rfl _ _ rfl (XD) _ (fun V hV => rangeAt_same (HR2.out.1) ((show Keep (fun k => k ∈ G.bl p) A V from hV).block _ (HL.out.1) (HL.out.2))) Try.underlying34 rfl (HR2.out.2)) hS0.out ?_
  simp only [Act.put, List.setIfInBounds_toArray, List.set_cons_zero, List.set_cons_succ]
  refine wpAnyH_take (i := 6) (oi := { dst := some 15, op := Op.fieldAddr 38 (Operand.tmp 3) 3, type := 0, pos := "law.go:50", after := #[], guard := none }) (v := .pointer (some ⟨d, 67, none⟩)) rfl (by kernel_rfl) (by kernel_rfl) (by kernel_rfl) (fun _ _ _ h => h.elim) (Or.inl ⟨by rfl, ?y4⟩) hS0.out ?_
  case y4 =>
    intro V hV
    go_simp
  simp only [Act.put, List.setIfInBounds_toArray, List.set_cons_zero, List.set_cons_succ]
  refine wpAnyH_take (i := 7) (oi := { dst := some 16, op := Op.load 35 (Operand.tmp 15), type := 35, pos := "law.go:50", after := #[{ on := 6, ground := Ground.data }], guard := none }) (v := .slice a n c) rfl (by kernel_rfl) (by kernel_rfl) (by kernel_rfl) (fun _ _ _ h => h.elim) (Or.inl ⟨by rfl, ?y5⟩) hS0.out ?_
  case y5 =>
    intro V hV
    have hc : V.cell? ⟨d, 67, none⟩ = some (.slice a n c) := (cell_same ((show Keep (fun k => k ∈ G.bl p) A V from hV).block _ HL.out.1 HL.out.2)).trans c67
    go_simp
  simp only [Act.put, List.setIfInBounds_toArray, List.set_cons_zero, List.set_cons_succ]
  refine wpAnyH_take (i := 10) (oi := { dst := some 19, op := Op.fieldAddr 38 (Operand.tmp 3) 4, type := 0, pos := "law.go:50", after := #[], guard := none }) (v := .pointer (some ⟨d, 68, none⟩)) rfl (by kernel_rfl) (by kernel_rfl) (by kernel_rfl) (fun _ _ _ h => h.elim) (Or.inl ⟨by rfl, ?y6⟩) hS0.out ?_
  case y6 =>
    intro V hV
    go_simp
  simp only [Act.put, List.setIfInBounds_toArray, List.set_cons_zero, List.set_cons_succ]
  refine wpAnyH_take (i := 11) (oi := { dst := some 20, op := Op.load 36 (Operand.tmp 19), type := 36, pos := "law.go:50", after := #[{ on := 10, ground := Ground.data }], guard := none }) (v := .slice ta tn tc) rfl (by kernel_rfl) (by kernel_rfl) (by kernel_rfl) (fun _ _ _ h => h.elim) (Or.inl ⟨by rfl, ?y7⟩) hS0.out ?_
  case y7 =>
    intro V hV
    have hc : V.cell? ⟨d, 68, none⟩ = some (.slice ta tn tc) := (cell_same ((show Keep (fun k => k ∈ G.bl p) A V from hV).block _ HL.out.1 HL.out.2)).trans c68
    go_simp
  simp only [Act.put, List.setIfInBounds_toArray, List.set_cons_zero, List.set_cons_succ]
  refine wpAnyH_ready (rs := [5, 9]) (by kernel_rfl) (by simp) (AllReadyH.cons (i := 5) (o := { dst := some 14, op := Op.buildSlice 35 0 #[], type := 35, pos := "law.go:50", after := #[], guard := none }) rfl ?_ (AllReadyH.cons (i := 9) (o := { dst := some 18, op := Op.buildSlice 36 0 #[], type := 36, pos := "law.go:50", after := #[], guard := none }) rfl ?_ AllReadyH.nil))
  · intro K1 hK1
    refine step_bz (by rfl) 35 rfl _ _ (bs35z _) ?_
    obtain ⟨V1, hv1⟩ : ∃ V, V0.alloc (.cells #[] 34) = V := ⟨_, rfl⟩
    obtain ⟨r1, hr1⟩ : ∃ m, V0.heap.size = m := ⟨_, rfl⟩
    have hb1 : Below V0.heap.size V0 V1 := by rw [← hv1]; exact below_al _ _
    have hL1 : Hid (Below A.heap.size A V1) := below_tr hL0.out hb1
    have hS1 : Hid (Keep (fun k => k ∈ G.bl p) A V1) := Keep.below hL1.out
    have hz1 : Hid (Blk V1 r1 34 [] ∧ A.heap.size ≤ r1) := by
      refine ⟨?_, ?_⟩
      · rw [← hv1, ← hr1]; exact Blk.new V0 _ _
      · rw [← hr1]; exact (hL0.out).size
    rw [hv1, hr1]
    clear hv1 hr1 hb1
    refine hK1.out _ _ hS1.out ?_
    clear hK1
    intro _
    try simp only [Act.put, List.setIfInBounds_toArray, List.set_cons_zero, List.set_cons_succ]
    refine wpAnyH_ready (rs := [8, 9]) (by kernel_rfl) (by simp) (AllReadyH.cons (i := 8) (o := { dst := some 17, op := Op.call { callee := Callee.builtin Builtin.append, args := #[Operand.tmp 14, Operand.tmp 16], argTypes := #[35, 35] }, type := 35, pos := "law.go:50", after := #[{ on := 5, ground := Ground.data }, { on := 7, ground := Ground.data }], guard := none }) rfl ?_ (AllReadyH.cons (i := 9) (o := { dst := some 18, op := Op.buildSlice 36 0 #[], type := 36, pos := "law.go:50", after := #[], guard := none }) rfl ?_ AllReadyH.nil))
    · intro K1 hK1
      obtain ⟨a1, c1, V2, hr2, hv2, ha2, hg2⟩ := cp_ids V1 35 r1 n c a ids (hz1.out).1 (HR3.out.1.below hL1.out) HR3.out.2
      refine step_ap (by rfl) 35 35 _ _ rfl _ _ rfl rfl _ _ hr2 ?_
      have hL2 : Hid (Below A.heap.size A V2) := (hL1.out).grown hg2 (hL1.out).size (fun k hk => by have e := Option.some.inj hk; have := (hz1.out).2; omega)
      have hS2 : Hid (Keep (fun k => k ∈ G.bl p) A V2) := Keep.below hL2.out
      have hq2 : Hid (VsA V2 A.heap.size a1 n ids) := ⟨hv2, fun g off h => Nat.le_trans (hz1.out).2 (ha2 g off h)⟩
      clear ha2 hr2 hv2 hg2
      refine hK1.out _ _ hS2.out ?_
      clear hK1
      intro _
      try simp only [Act.put, List.setIfInBounds_toArray, List.set_cons_zero, List.set_cons_succ]
      refine wpAnyH_ready (rs := [9]) (by kernel_rfl) (by simp) (AllReadyH.cons (i := 9) (o := { dst := some 18, op := Op.buildSlice 36 0 #[], type := 36, pos := "law.go:50", after := #[], guard := none }) rfl ?_ AllReadyH.nil)
      · intro K1 hK1
        refine step_bz (by rfl) 36 rfl _ _ (bs36z _) ?_
        obtain ⟨V3, hv3⟩ : ∃ V, V2.alloc (.cells #[] 9) = V := ⟨_, rfl⟩
        obtain ⟨r2, hr3⟩ : ∃ m, V2.heap.size = m := ⟨_, rfl⟩
        have hb3 : Below V2.heap.size V2 V3 := by rw [← hv3]; exact below_al _ _
        have hL3 : Hid (Below A.heap.size A V3) := below_tr hL2.out hb3
        have hS3 : Hid (Keep (fun k => k ∈ G.bl p) A V3) := Keep.below hL3.out
        have hz3 : Hid (Blk V3 r2 9 [] ∧ A.heap.size ≤ r2) := by
          refine ⟨?_, ?_⟩
          · rw [← hv3, ← hr3]; exact Blk.new V2 _ _
          · rw [← hr3]; exact (hL2.out).size
        have hq3 : Hid (VsA V3 A.heap.size a1 n ids) := ⟨(hq2.out).1.below hb3, (hq2.out).2⟩
        rw [hv3, hr3]
        clear hv3 hr3 hb3
        refine hK1.out _ _ hS3.out ?_
        clear hK1
        intro _
        try simp only [Act.put, List.setIfInBounds_toArray, List.set_cons_zero, List.set_cons_succ]
        refine wpAnyH_ready (rs := [12]) (by kernel_rfl) (by simp) (AllReadyH.cons (i := 12) (o := { dst := some 21, op := Op.call { callee := Callee.builtin Builtin.append, args := #[Operand.tmp 18, Operand.tmp 20], argTypes := #[36, 36] }, type := 36, pos := "law.go:50", after := #[{ on := 9, ground := Ground.data }, { on := 11, ground := Ground.data }, { on := 8, ground := Ground.chain }], guard := none }) rfl ?_ AllReadyH.nil)
        · intro K1 hK1
          obtain ⟨a2, c2, V4, hr4, hv4, hg4⟩ := cp_texts V3 36 r2 tn tc ta ts (hz3.out).1 (HR4.out.1.below hL3.out) HR4.out.2
          refine step_ap (by rfl) 36 36 _ _ rfl _ _ rfl rfl _ _ hr4 ?_
          have hL4 : Hid (Below A.heap.size A V4) := (hL3.out).grown hg4 (hL3.out).size (fun k hk => by have e := Option.some.inj hk; have := (hz3.out).2; omega)
          have hS4 : Hid (Keep (fun k => k ∈ G.bl p) A V4) := Keep.below hL4.out
          have hq4 : Hid (VsA V4 A.heap.size a1 n ids) := ⟨(hq3.out).1.grown0 (hz3.out).1 hg4, (hq3.out).2⟩
          have ht4 : Hid (TsR V4 a2 tn ts) := hv4
          clear hr4 hv4 hg4
          refine hK1.out _ _ hS4.out ?_
          clear hK1
          intro _
          try simp only [Act.put, List.setIfInBounds_toArray, List.set_cons_zero, List.set_cons_succ]
          refine wpAnyH_ready (rs := [13]) (by kernel_rfl) (by simp) (AllReadyH.cons (i := 13) (o := { dst := some 22, op := Op.call { callee := Callee.value (Operand.func 22), args := #[Operand.tmp 9, Operand.tmp 11, Operand.tmp 13, Operand.tmp 17, Operand.tmp 21], argTypes := #[25, 34, 34, 35, 36] }, type := 40, pos := "law.go:50", after := #[{ on := 0, ground := Ground.data }, { on := 2, ground := Ground.data }, { on := 4, ground := Ground.data }, { on := 8, ground := Ground.data }, { on := 12, ground := Ground.data }, { on := 12, ground := Ground.chain }], guard := none }) rfl ?_ AllReadyH.nil)
          · intro K1 hK1
            rw [if_pos (by rfl)]
            have HC5 := HADD.out V4 a1 c1 a2 c2 (hL4.out) (hq4.out).1 (ht4.out)
            go_wp2_with fail
            refine HC5.mono ?_
            rintro e V5 ⟨rfl, G', hga5, hps5⟩
            dsimp only
            clear HC5
            have hS5 : Hid (Keep (fun k => k ∈ G.bl p) A V5) := (hS4.out).trans hga5.2.2 (fun _ h _ => h)
            have hX5 : Hid (GAt V5 p G' ∧ G'.ps = PS ∧ ∀ k ∈ G'.bl p, k ∈ G.bl p ∨ A.heap.size ≤ k) := ⟨hga5.1, hps5, fun k hk => (hga5.2.1 k hk).imp id (fun h => Nat.le_trans (hL4.out).size h)⟩
            clear hga5 hps5
            refine hK1.out _ _ hS5.out ?_
            clear hK1
            intro _
            try simp only [Act.put, List.setIfInBounds_toArray, List.set_cons_zero, List.set_cons_succ]
            refine wpAnyH_take (i := 14) (oi := { dst := some 4, op := Op.assign (Operand.tmp 22), type := 40, pos := "law.go:50", after := #[{ on := 13, ground := Ground.data }, { on := 13, ground := Ground.chain }, { on := 0, ground := Ground.phase }, { on := 1, ground := Ground.phase }, { on := 2, ground := Ground.phase }, { on := 3, ground := Ground.phase }, { on := 4, ground := Ground.phase }, { on := 5, ground := Ground.phase }, { on := 6, ground := Ground.phase }, { on := 7, ground := Ground.phase }, { on := 8, ground := Ground.phase }, { on := 9, ground := Ground.phase }, { on := 10, ground := Ground.phase }, { on := 11, ground := Ground.phase }, { on := 12, ground := Ground.phase }, { on := 13, ground := Ground.phase }], guard := none }) (v := iv E) rfl (by kernel_rfl) (by kernel_rfl) (by kernel_rfl) (fun _ _ _ h => h.elim) (Or.inl ⟨by rfl, ?y8⟩) hS5.out ?_
            case y8 =>
              intro V hV
              go_simp
            simp only [Act.put, List.setIfInBounds_toArray, List.set_cons_zero, List.set_cons_succ]
            refine wpAnyH_done (by kernel_rfl) ?_ _
            exact hQ V5 r1 r2 a1 c1 a2 c2 G' hS5.out hX5.out
    · intro K1 hK1
      refine step_bz (by rfl) 36 rfl _ _ (bs36z _) ?_
      obtain ⟨V2, hv2⟩ : ∃ V, V1.alloc (.cells #[] 9) = V := ⟨_, rfl⟩
      obtain ⟨r2, hr2⟩ : ∃ m, V1.heap.size = m := ⟨_, rfl⟩
      have hb2 : Below V1.heap.size V1 V2 := by rw [← hv2]; exact below_al _ _
      have hL2 : Hid (Below A.heap.size A V2) := below_tr hL1.out hb2
      have hS2 : Hid (Keep (fun k => k ∈ G.bl p) A V2) := Keep.below hL2.out
      have hz2 : Hid (Blk V2 r2 9 [] ∧ A.heap.size ≤ r2) := by
        refine ⟨?_, ?_⟩
        · rw [← hv2, ← hr2]; exact Blk.new V1 _ _
        · rw [← hr2]; exact (hL1.out).size
      have ho2 : Hid (Blk V2 r1 34 [] ∧ A.heap.size ≤ r1) := ⟨(hz1.out).1.below hb2 (hz1.out).1.lt, (hz1.out).2⟩
      rw [hv2, hr2]
      clear hv2 hr2 hb2
      refine hK1.out _ _ hS2.out ?_
      clear hK1
      intro _
      try simp only [Act.put, List.setIfInBounds_toArray, List.set_cons_zero, List.set_cons_succ]
      refine wpAnyH_ready (rs := [8]) (by kernel_rfl) (by simp) (AllReadyH.cons (i := 8) (o := { dst := some 17, op := Op.call { callee := Callee.builtin Builtin.append, args := #[Operand.tmp 14, Operand.tmp 16], argTypes := #[35, 35] }, type := 35, pos := "law.go:50", after := #[{ on := 5, ground := Ground.data }, { on := 7, ground := Ground.data }], guard := none }) rfl ?_ AllReadyH.nil)
      · intro K1 hK1
        obtain ⟨a1, c1, V3, hr3, hv3, ha3, hg3⟩ := cp_ids V2 35 r1 n c a ids (ho2.out).1 (HR3.out.1.below hL2.out) HR3.out.2
        refine step_ap (by rfl) 35 35 _ _ rfl _ _ rfl rfl _ _ hr3 ?_
        have hL3 : Hid (Below A.heap.size A V3) := (hL2.out).grown hg3 (hL2.out).size (fun k hk => by have e := Option.some.inj hk; have := (ho2.out).2; omega)
        have hS3 : Hid (Keep (fun k => k ∈ G.bl p) A V3) := Keep.below hL3.out
        have hq3 : Hid (VsA V3 A.heap.size a1 n ids) := ⟨hv3, fun g off h => Nat.le_trans (ho2.out).2 (ha3 g off h)⟩
        have ho3 : Hid (Blk V3 r2 9 [] ∧ A.heap.size ≤ r2) := ⟨(hz2.out).1.kept hg3 (fun h => by have e := Option.some.inj h; subst e; have := blk_type (hz2.out).1 (ho2.out).1; cases this), (hz2.out).2⟩
        clear ha3 hr3 hv3 hg3
        refine hK1.out _ _ hS3.out ?_
        clear hK1
        intro _
        try simp only [Act.put, List.setIfInBounds_toArray, List.set_cons_zero, List.set_cons_succ]
        refine wpAnyH_ready (rs := [12]) (by kernel_rfl) (by simp) (AllReadyH.cons (i := 12) (o := { dst := some 21, op := Op.call { callee := Callee.builtin Builtin.append, args := #[Operand.tmp 18, Operand.tmp 20], argTypes := #[36, 36] }, type := 36, pos := "law.go:50", after := #[{ on := 9, ground := Ground.data }, { on := 11, ground := Ground.data }, { on := 8, ground := Ground.chain }], guard := none }) rfl ?_ AllReadyH.nil)
        · intro K1 hK1
          obtain ⟨a2, c2, V4, hr4, hv4, hg4⟩ := cp_texts V3 36 r2 tn tc ta ts (ho3.out).1 (HR4.out.1.below hL3.out) HR4.out.2
          refine step_ap (by rfl) 36 36 _ _ rfl _ _ rfl rfl _ _ hr4 ?_
          have hL4 : Hid (Below A.heap.size A V4) := (hL3.out).grown hg4 (hL3.out).size (fun k hk => by have e := Option.some.inj hk; have := (ho3.out).2; omega)
          have hS4 : Hid (Keep (fun k => k ∈ G.bl p) A V4) := Keep.below hL4.out
          have hq4 : Hid (VsA V4 A.heap.size a1 n ids) := ⟨(hq3.out).1.grown0 (ho3.out).1 hg4, (hq3.out).2⟩
          have ht4 : Hid (TsR V4 a2 tn ts) := hv4
          clear hr4 hv4 hg4
          refine hK1.out _ _ hS4.out ?_
          clear hK1
          intro _
          try simp only [Act.put, List.setIfInBounds_toArray, List.set_cons_zero, List.set_cons_succ]
          refine wpAnyH_ready (rs := [13]) (by kernel_rfl) (by simp) (AllReadyH.cons (i := 13) (o := { dst := some 22, op := Op.call { callee := Callee.value (Operand.func 22), args := #[Operand.tmp 9, Operand.tmp 11, Operand.tmp 13, Operand.tmp 17, Operand.tmp 21], argTypes := #[25, 34, 34, 35, 36] }, type := 40, pos := "law.go:50", after := #[{ on := 0, ground := Ground.data }, { on := 2, ground := Ground.data }, { on := 4, ground := Ground.data }, { on := 8, ground := Ground.data }, { on := 12, ground := Ground.data }, { on := 12, ground := Ground.chain }], guard := none }) rfl ?_ AllReadyH.nil)
          · intro K1 hK1
            rw [if_pos (by rfl)]
            have HC5 := HADD.out V4 a1 c1 a2 c2 (hL4.out) (hq4.out).1 (ht4.out)
            go_wp2_with fail
            refine HC5.mono ?_
            rintro e V5 ⟨rfl, G', hga5, hps5⟩
            dsimp only
            clear HC5
            have hS5 : Hid (Keep (fun k => k ∈ G.bl p) A V5) := (hS4.out).trans hga5.2.2 (fun _ h _ => h)
            have hX5 : Hid (GAt V5 p G' ∧ G'.ps = PS ∧ ∀ k ∈ G'.bl p, k ∈ G.bl p ∨ A.heap.size ≤ k) := ⟨hga5.1, hps5, fun k hk => (hga5.2.1 k hk).imp id (fun h => Nat.le_trans (hL4.out).size h)⟩
            clear hga5 hps5
            refine hK1.out _ _ hS5.out ?_
            clear hK1
            intro _
            try simp only [Act.put, List.setIfInBounds_toArray, List.set_cons_zero, List.set_cons_succ]
            refine wpAnyH_take (i := 14) (oi := { dst := some 4, op := Op.assign (Operand.tmp 22), type := 40, pos := "law.go:50", after := #[{ on := 13, ground := Ground.data }, { on := 13, ground := Ground.chain }, { on := 0, ground := Ground.phase }, { on := 1, ground := Ground.phase }, { on := 2, ground := Ground.phase }, { on := 3, ground := Ground.phase }, { on := 4, ground := Ground.phase }, { on := 5, ground := Ground.phase }, { on := 6, ground := Ground.phase }, { on := 7, ground := Ground.phase }, { on := 8, ground := Ground.phase }, { on := 9, ground := Ground.phase }, { on := 10, ground := Ground.phase }, { on := 11, ground := Ground.phase }, { on := 12, ground := Ground.phase }, { on := 13, ground := Ground.phase }], guard := none }) (v := iv E) rfl (by kernel_rfl) (by kernel_rfl) (by kernel_rfl) (fun _ _ _ h => h.elim) (Or.inl ⟨by rfl, ?y9⟩) hS5.out ?_
            case y9 =>
              intro V hV
              go_simp
            simp only [Act.put, List.setIfInBounds_toArray, List.set_cons_zero, List.set_cons_succ]
            refine wpAnyH_done (by kernel_rfl) ?_ _
            exact hQ V5 r1 r2 a1 c1 a2 c2 G' hS5.out hX5.out
  · intro K1 hK1
    refine step_bz (by rfl) 36 rfl _ _ (bs36z _) ?_
    obtain ⟨V1, hv1⟩ : ∃ V, V0.alloc (.cells #[] 9) = V := ⟨_, rfl⟩
    obtain ⟨r2, hr1⟩ : ∃ m, V0.heap.size = m := ⟨_, rfl⟩
    have hb1 : Below V0.heap.size V0 V1 := by rw [← hv1]; exact below_al _ _
    have hL1 : Hid (Below A.heap.size A V1) := below_tr hL0.out hb1
    have hS1 : Hid (Keep (fun k => k ∈ G.bl p) A V1) := Keep.below hL1.out
    have hz1 : Hid (Blk V1 r2 9 [] ∧ A.heap.size ≤ r2) := by
      refine ⟨?_, ?_⟩
      · rw [← hv1, ← hr1]; exact Blk.new V0 _ _
      · rw [← hr1]; exact (hL0.out).size
    rw [hv1, hr1]
    clear hv1 hr1 hb1
    refine hK1.out _ _ hS1.out ?_
    clear hK1
    intro _
    try simp only [Act.put, List.setIfInBounds_toArray, List.set_cons_zero, List.set_cons_succ]
    refine wpAnyH_ready (rs := [5]) (by kernel_rfl) (by simp) (AllReadyH.cons (i := 5) (o := { dst := some 14, op := Op.buildSlice 35 0 #[], type := 35, pos := "law.go:50", after := #[], guard := none }) rfl ?_ AllReadyH.nil)
    · intro K1 hK1
      refine step_bz (by rfl) 35 rfl _ _ (bs35z _) ?_
      obtain ⟨V2, hv2⟩ : ∃ V, V1.alloc (.cells #[] 34) = V := ⟨_, rfl⟩
      obtain ⟨r1, hr2⟩ : ∃ m, V1.heap.size = m := ⟨_, rfl⟩
      have hb2 : Below V1.heap.size V1 V2 := by rw [← hv2]; exact below_al _ _
      have hL2 : Hid (Below A.heap.size A V2) := below_tr hL1.out hb2
      have hS2 : Hid (Keep (fun k => k ∈ G.bl p) A V2) := Keep.below hL2.out
      have hz2 : Hid (Blk V2 r1 34 [] ∧ A.heap.size ≤ r1) := by
        refine ⟨?_, ?_⟩
        · rw [← hv2, ← hr2]; exact Blk.new V1 _ _
        · rw [← hr2]; exact (hL1.out).size
      have ho2 : Hid (Blk V2 r2 9 [] ∧ A.heap.size ≤ r2) := ⟨(hz1.out).1.below hb2 (hz1.out).1.lt, (hz1.out).2⟩
      rw [hv2, hr2]
      clear hv2 hr2 hb2
      refine hK1.out _ _ hS2.out ?_
      clear hK1
      intro _
      try simp only [Act.put, List.setIfInBounds_toArray, List.set_cons_zero, List.set_cons_succ]
      refine wpAnyH_ready (rs := [8]) (by kernel_rfl) (by simp) (AllReadyH.cons (i := 8) (o := { dst := some 17, op := Op.call { callee := Callee.builtin Builtin.append, args := #[Operand.tmp 14, Operand.tmp 16], argTypes := #[35, 35] }, type := 35, pos := "law.go:50", after := #[{ on := 5, ground := Ground.data }, { on := 7, ground := Ground.data }], guard := none }) rfl ?_ AllReadyH.nil)
      · intro K1 hK1
        obtain ⟨a1, c1, V3, hr3, hv3, ha3, hg3⟩ := cp_ids V2 35 r1 n c a ids (hz2.out).1 (HR3.out.1.below hL2.out) HR3.out.2
        refine step_ap (by rfl) 35 35 _ _ rfl _ _ rfl rfl _ _ hr3 ?_
        have hL3 : Hid (Below A.heap.size A V3) := (hL2.out).grown hg3 (hL2.out).size (fun k hk => by have e := Option.some.inj hk; have := (hz2.out).2; omega)
        have hS3 : Hid (Keep (fun k => k ∈ G.bl p) A V3) := Keep.below hL3.out
        have hq3 : Hid (VsA V3 A.heap.size a1 n ids) := ⟨hv3, fun g off h => Nat.le_trans (hz2.out).2 (ha3 g off h)⟩
        have ho3 : Hid (Blk V3 r2 9 [] ∧ A.heap.size ≤ r2) := ⟨(ho2.out).1.kept hg3 (fun h => by have e := Option.some.inj h; subst e; have := blk_type (ho2.out).1 (hz2.out).1; cases this), (ho2.out).2⟩
        clear ha3 hr3 hv3 hg3
        refine hK1.out _ _ hS3.out ?_
        clear hK1
        intro _
        try simp only [Act.put, List.setIfInBounds_toArray, List.set_cons_zero, List.set_cons_succ]
        refine wpAnyH_ready (rs := [12]) (by kernel_rfl) (by simp) (AllReadyH.cons (i := 12) (o := { dst := some 21, op := Op.call { callee := Callee.builtin Builtin.append, args := #[Operand.tmp 18, Operand.tmp 20], argTypes := #[36, 36] }, type := 36, pos := "law.go:50", after := #[{ on := 9, ground := Ground.data }, { on := 11, ground := Ground.data }, { on := 8, ground := Ground.chain }], guard := none }) rfl ?_ AllReadyH.nil)
        · intro K1 hK1
          obtain ⟨a2, c2, V4, hr4, hv4, hg4⟩ := cp_texts V3 36 r2 tn tc ta ts (ho3.out).1 (HR4.out.1.below hL3.out) HR4.out.2
          refine step_ap (by rfl) 36 36 _ _ rfl _ _ rfl rfl _ _ hr4 ?_
          have hL4 : Hid (Below A.heap.size A V4) := (hL3.out).grown hg4 (hL3.out).size (fun k hk => by have e := Option.some.inj hk; have := (ho3.out).2; omega)
          have hS4 : Hid (Keep (fun k => k ∈ G.bl p) A V4) := Keep.below hL4.out
          have hq4 : Hid (VsA V4 A.heap.size a1 n ids) := ⟨(hq3.out).1.grown0 (ho3.out).1 hg4, (hq3.out).2⟩
          have ht4 : Hid (TsR V4 a2 tn ts) := hv4
          clear hr4 hv4 hg4
          refine hK1.out _ _ hS4.out ?_
          clear hK1
          intro _
          try simp only [Act.put, List.setIfInBounds_toArray, List.set_cons_zero, List.set_cons_succ]
          refine wpAnyH_ready (rs := [13]) (by kernel_rfl) (by simp) (AllReadyH.cons (i := 13) (o := { dst := some 22, op := Op.call { callee := Callee.value (Operand.func 22), args := #[Operand.tmp 9, Operand.tmp 11, Operand.tmp 13, Operand.tmp 17, Operand.tmp 21], argTypes := #[25, 34, 34, 35, 36] }, type := 40, pos := "law.go:50", after := #[{ on := 0, ground := Ground.data }, { on := 2, ground := Ground.data }, { on := 4, ground := Ground.data }, { on := 8, ground := Ground.data }, { on := 12, ground := Ground.data }, { on := 12, ground := Ground.chain }], guard := none }) rfl ?_ AllReadyH.nil)
          · intro K1 hK1
            rw [if_pos (by rfl)]
            have HC5 := HADD.out V4 a1 c1 a2 c2 (hL4.out) (hq4.out).1 (ht4.out)
            go_wp2_with fail
            refine HC5.mono ?_
            rintro e V5 ⟨rfl, G', hga5, hps5⟩
            dsimp only
            clear HC5
            have hS5 : Hid (Keep (fun k => k ∈ G.bl p) A V5) := (hS4.out).trans hga5.2.2 (fun _ h _ => h)
            have hX5 : Hid (GAt V5 p G' ∧ G'.ps = PS ∧ ∀ k ∈ G'.bl p, k ∈ G.bl p ∨ A.heap.size ≤ k) := ⟨hga5.1, hps5, fun k hk => (hga5.2.1 k hk).imp id (fun h => Nat.le_trans (hL4.out).size h)⟩
            clear hga5 hps5
            refine hK1.out _ _ hS5.out ?_
            clear hK1
            intro _
            try simp only [Act.put, List.setIfInBounds_toArray, List.set_cons_zero, List.set_cons_succ]
            refine wpAnyH_take (i := 14) (oi := { dst := some 4, op := Op.assign (Operand.tmp 22), type := 40, pos := "law.go:50", after := #[{ on := 13, ground := Ground.data }, { on := 13, ground := Ground.chain }, { on := 0, ground := Ground.phase }, { on := 1, ground := Ground.phase }, { on := 2, ground := Ground.phase }, { on := 3, ground := Ground.phase }, { on := 4, ground := Ground.phase }, { on := 5, ground := Ground.phase }, { on := 6, ground := Ground.phase }, { on := 7, ground := Ground.phase }, { on := 8, ground := Ground.phase }, { on := 9, ground := Ground.phase }, { on := 10, ground := Ground.phase }, { on := 11, ground := Ground.phase }, { on := 12, ground := Ground.phase }, { on := 13, ground := Ground.phase }], guard := none }) (v := iv E) rfl (by kernel_rfl) (by kernel_rfl) (by kernel_rfl) (fun _ _ _ h => h.elim) (Or.inl ⟨by rfl, ?y10⟩) hS5.out ?_
            case y10 =>
              intro V hV
              go_simp
            simp only [Act.put, List.setIfInBounds_toArray, List.set_cons_zero, List.set_cons_succ]
            refine wpAnyH_done (by kernel_rfl) ?_ _
            exact hQ V5 r1 r2 a1 c1 a2 c2 G' hS5.out hX5.out
end Go.Proofs.Ytjcihaohpbmogaa.Oct
