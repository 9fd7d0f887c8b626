/-
  Layer 19 (audit): the very same entries?
  Layer 19 (audit): the law AuditChain.
  Layer 19 (audit): the law AuditChain.
  Layer 19 (audit): one entry says something else.
  Layer 19 (audit): the law AuditTurned.
  Layer 19 (audit): the reference's Digest: its drawn regions.
  Layer 19 (audit): the reference's Digest and Head.
-/
import Derived.Test.YtmmpafaegmejlaaDoorPkC
import Derived.Test.YtmmpafaegmejlaaDoorORef
import Derived.Test.YtmmpafaegmejlaaDoorRefIs
/- Layer 19 (audit): the very same entries? -/
namespace Go.Proofs.YtmmpafaegmejlaaDoor.Oct
open Go.RowKit Sha
set_option linter.unusedSimpArgs false
set_option linter.unusedVariables false

theorem yl_ne37 {o : Oper} {a : Act} (V : World) (p q : Operand) (x y : Array Value) (E : Bool) (hop : o.op = .binOp .neq 37 p q 37) (hx : a.eval p = .agg x) (hy : a.eval q = .agg y) (h : ∀ W, (binOp .neq 37 (.agg x) (.agg y)).run Tryd.prog W = .ok (.bool E) W) : (execOp a.eval o).run Tryd.prog V = .ok (.value (.bool E)) V := by
  unfold execOp
  simp only [hop, hx, hy, Sem.run_bind, Sem.run_pure]
  have hg : (eqGuard BinOp.neq 37 p q (.agg x) (.agg y)).run Tryd.prog V = .ok () V := run_eqGuard_agg V .neq 37 p q x y (by kernel_rfl)
  rw [hg]
  simp only [Result.andThen_ok, h]
set_option maxRecDepth 100000 in
set_option maxHeartbeats 4000000 in
theorem sm6 {Q : Exit → Act → World → Prop} {x2 x3 x4 x6 x7 x8 x9 x10 x11 x12 x13 x14 x15 x16 x17 x18 x19 x20 x21 x22 x23 x24 x25 : Value} {ds : List Deferred} {A : World} {b1 o1 b2 o2 n c1 c2 i : Nat} {x y : En} {E : Bool}
    (HX : Hid (x.ok ∧ y.ok)) (HR : Hid (A.rangeAt b1 (o1 + i * 36) x.cells ∧ A.rangeAt b2 (o2 + i * 36) y.cells ∧ b1 < A.heap.size ∧ b2 < A.heap.size)) (HNE : Hid (∀ W, (binOp .neq 37 (.agg x.cells.toArray) (.agg y.cells.toArray)).run Tryd.prog W = .ok (.bool E) W)) (q1 : (i : Int) < (n : Int)) (q2 : i < n)
    (hQ : ∀ V1, Below A.heap.size A V1 → Q .normal { tmps := #[.slice (some ⟨b1, o1, none⟩) n c1, .slice (some ⟨b2, o2, none⟩) n c2, x2, x3, x4, iv (i : Int), x6, x7, x8, x9, x10, x11, x12, x13, x14, x15, x16, .slice (some ⟨b1, o1, none⟩) n c1, iv (i : Int), .pointer (some ⟨b1, o1 + i * 36, none⟩), .agg x.cells.toArray, .slice (some ⟨b2, o2, none⟩) n c2, iv (i : Int), .pointer (some ⟨b2, o2 + i * 36, none⟩), .agg y.cells.toArray, .bool E], defers := ds } V1) :
    (Code.region 6 #[{ dst := some 17, op := Op.move (Operand.tmp 0), type := 27, pos := "ref.go:80", after := #[], guard := none }, { dst := some 18, op := Op.move (Operand.tmp 5), type := 3, pos := "ref.go:80", after := #[], guard := none }, { dst := some 19, op := Op.indexAddr 27 (Operand.tmp 17) (Operand.tmp 18), type := 0, pos := "ref.go:80", after := #[{ on := 0, ground := Ground.data }, { on := 1, ground := Ground.data }], guard := none }, { dst := some 20, op := Op.load 37 (Operand.tmp 19), type := 37, pos := "ref.go:80", after := #[{ on := 2, ground := Ground.data }], guard := none }, { dst := some 21, op := Op.move (Operand.tmp 1), type := 27, pos := "ref.go:80", after := #[], guard := none }, { dst := some 22, op := Op.move (Operand.tmp 5), type := 3, pos := "ref.go:80", after := #[], guard := none }, { dst := some 23, op := Op.indexAddr 27 (Operand.tmp 21) (Operand.tmp 22), type := 0, pos := "ref.go:80", after := #[{ on := 4, ground := Ground.data }, { on := 5, ground := Ground.data }], guard := none }, { dst := some 24, op := Op.load 37 (Operand.tmp 23), type := 37, pos := "ref.go:80", after := #[{ on := 6, ground := Ground.data }], guard := none }, { dst := some 25, op := Op.binOp BinOp.neq 37 (Operand.tmp 20) (Operand.tmp 24) 37, type := 4, pos := "ref.go:80", after := #[{ on := 3, ground := Ground.data }, { on := 7, ground := Ground.data }], guard := none }] true).wp Tryd.prog Q { tmps := #[.slice (some ⟨b1, o1, none⟩) n c1, .slice (some ⟨b2, o2, none⟩) n c2, x2, x3, x4, iv (i : Int), x6, x7, x8, x9, x10, x11, x12, x13, x14, x15, x16, x17, x18, x19, x20, x21, x22, x23, x24, x25], defers := ds } A := by
  refine Code.wp_mono (Q := fun x a' w' => match x with | .normal => Q .normal a' w' | _ => False) (by intro x a' w' h; cases x <;> first | exact h | exact h.elim) ?_
  refine wp_region_held (S := fun V => Below A.heap.size A V) (by kernel_rfl) ?_
  have hS0 : Hid (Below A.heap.size A A.drew) := below_drew0 A
  change wpAnyH Tryd.prog .any _ _ (fun V => Below A.heap.size A V) 9 (Array.replicate 9 false) _ A.drew
  obtain ⟨V0, hV0⟩ : ∃ V0, A.drew = V0 := ⟨_, rfl⟩
  rw [hV0]
  rw [hV0] at hS0
  clear hV0
  refine wpAnyH_take (i := 0) (oi := { dst := some 17, op := Op.move (Operand.tmp 0), type := 27, pos := "ref.go:80", after := #[], guard := none }) (v := .slice (some ⟨b1, o1, none⟩) n c1) rfl (by kernel_rfl) (by kernel_rfl) (by kernel_rfl) (fun _ _ _ h => h.elim) (Or.inl ⟨by rfl, ?y1⟩) hS0.out ?_
  case y1 =>
    intro V hV
    go_simp
  simp only [Act.put, List.setIfInBounds_toArray, List.set_cons_zero, List.set_cons_succ]
  refine wpAnyH_take (i := 1) (oi := { dst := some 18, op := Op.move (Operand.tmp 5), type := 3, pos := "ref.go:80", after := #[], guard := none }) (v := iv (i : Int)) rfl (by kernel_rfl) (by kernel_rfl) (by kernel_rfl) (fun _ _ _ h => h.elim) (Or.inl ⟨by rfl, ?y2⟩) hS0.out ?_
  case y2 =>
    intro V hV
    go_simp
  simp only [Act.put, List.setIfInBounds_toArray, List.set_cons_zero, List.set_cons_succ]
  refine wpAnyH_take (i := 2) (oi := { dst := some 19, op := Op.indexAddr 27 (Operand.tmp 17) (Operand.tmp 18), type := 0, pos := "ref.go:80", after := #[{ on := 0, ground := Ground.data }, { on := 1, ground := Ground.data }], guard := none }) (v := .pointer (some ⟨b1, o1 + i * 36, none⟩)) rfl (by kernel_rfl) (by kernel_rfl) (by kernel_rfl) (fun _ _ _ h => h.elim) (Or.inl ⟨by rfl, ?y3⟩) hS0.out ?_
  case y3 =>
    intro V hV
    have hcmp := q1
    have hcmp2 := q2
    go_simp
  simp only [Act.put, List.setIfInBounds_toArray, List.set_cons_zero, List.set_cons_succ]
  refine wpAnyH_take (i := 3) (oi := { dst := some 20, op := Op.load 37 (Operand.tmp 19), type := 37, pos := "ref.go:80", after := #[{ on := 2, ground := Ground.data }], guard := none }) (v := .agg x.cells.toArray) rfl (by kernel_rfl) (by kernel_rfl) (by kernel_rfl) (fun _ _ _ h => h.elim) (yieldsIf_load_mid (by rfl) _ _ rfl _ _ rfl (x.cells) _ (fun V hV => rangeAt_same (HR.out.1) ((show Below A.heap.size A V from hV).block _ (HR.out.2.2.1))) Tryd.underlying37 rfl (info37 HX.out.1)) hS0.out ?_
  simp only [Act.put, List.setIfInBounds_toArray, List.set_cons_zero, List.set_cons_succ]
  refine wpAnyH_take (i := 4) (oi := { dst := some 21, op := Op.move (Operand.tmp 1), type := 27, pos := "ref.go:80", after := #[], guard := none }) (v := .slice (some ⟨b2, o2, none⟩) n c2) rfl (by kernel_rfl) (by kernel_rfl) (by kernel_rfl) (fun _ _ _ h => h.elim) (Or.inl ⟨by rfl, ?y4⟩) hS0.out ?_
  case y4 =>
    intro V hV
    go_simp
  simp only [Act.put, List.setIfInBounds_toArray, List.set_cons_zero, List.set_cons_succ]
  refine wpAnyH_take (i := 5) (oi := { dst := some 22, op := Op.move (Operand.tmp 5), type := 3, pos := "ref.go:80", after := #[], guard := none }) (v := iv (i : Int)) rfl (by kernel_rfl) (by kernel_rfl) (by kernel_rfl) (fun _ _ _ h => h.elim) (Or.inl ⟨by rfl, ?y5⟩) hS0.out ?_
  case y5 =>
    intro V hV
    go_simp
  simp only [Act.put, List.setIfInBounds_toArray, List.set_cons_zero, List.set_cons_succ]
  refine wpAnyH_take (i := 6) (oi := { dst := some 23, op := Op.indexAddr 27 (Operand.tmp 21) (Operand.tmp 22), type := 0, pos := "ref.go:80", after := #[{ on := 4, ground := Ground.data }, { on := 5, ground := Ground.data }], guard := none }) (v := .pointer (some ⟨b2, o2 + i * 36, none⟩)) rfl (by kernel_rfl) (by kernel_rfl) (by kernel_rfl) (fun _ _ _ h => h.elim) (Or.inl ⟨by rfl, ?y6⟩) hS0.out ?_
  case y6 =>
    intro V hV
    have hcmp := q1
    have hcmp2 := q2
    go_simp
  simp only [Act.put, List.setIfInBounds_toArray, List.set_cons_zero, List.set_cons_succ]
  refine wpAnyH_take (i := 7) (oi := { dst := some 24, op := Op.load 37 (Operand.tmp 23), type := 37, pos := "ref.go:80", after := #[{ on := 6, ground := Ground.data }], guard := none }) (v := .agg y.cells.toArray) rfl (by kernel_rfl) (by kernel_rfl) (by kernel_rfl) (fun _ _ _ h => h.elim) (yieldsIf_load_mid (by rfl) _ _ rfl _ _ rfl (y.cells) _ (fun V hV => rangeAt_same (HR.out.2.1) ((show Below A.heap.size A V from hV).block _ (HR.out.2.2.2))) Tryd.underlying37 rfl (info37 HX.out.2)) hS0.out ?_
  simp only [Act.put, List.setIfInBounds_toArray, List.set_cons_zero, List.set_cons_succ]
  refine wpAnyH_take (i := 8) (oi := { dst := some 25, op := Op.binOp BinOp.neq 37 (Operand.tmp 20) (Operand.tmp 24) 37, type := 4, pos := "ref.go:80", after := #[{ on := 3, ground := Ground.data }, { on := 7, ground := Ground.data }], guard := none }) (v := .bool E) rfl (by kernel_rfl) (by kernel_rfl) (by kernel_rfl) (fun _ _ _ h => h.elim) (Or.inl ⟨by rfl, ?y7⟩) hS0.out ?_
  case y7 =>
    intro V hV
    exact yl_ne37 V _ _ _ _ _ rfl rfl rfl HNE.out
  simp only [Act.put, List.setIfInBounds_toArray, List.set_cons_zero, List.set_cons_succ]
  refine wpAnyH_done (by kernel_rfl) ?_ _
  exact hQ V0 hS0.out
theorem take_step {α : Type} {l r : List α} {i : Nat} {x y : α} (h : l.take i = r.take i) (hx : l[i]? = some x) (hy : r[i]? = some y) (e : x = y) : l.take (i + 1) = r.take (i + 1) := by
  rw [List.take_add_one, List.take_add_one, h, hx, hy, e]
set_option maxRecDepth 100000 in
set_option maxHeartbeats 2000000 in
theorem same_is {w : World} {v1 v2 : Value} {l r : List En} (h1 : EsR w v1 l) (h2 : EsR w v2 r) (hl : l.length ≤ 1000000) (hr : r.length ≤ 1000000) (R : Bool) (hR : R = true ↔ l = r) : Calls Tryd.prog 18 #[v1, v2] w fun e w' => e = .returned (.bool R) ∧ Below w.heap.size w w' := by
  obtain ⟨k1, a1, c1, rfl, m1, z1, p1⟩ := h1
  obtain ⟨k2, a2, c2, rfl, m2, z2, p2⟩ := h2
  obtain ⟨n, hn⟩ : ∃ n, l.length = n := ⟨_, rfl⟩
  obtain ⟨n2, hn2⟩ : ∃ n, r.length = n := ⟨_, rfl⟩
  have qn : (n : Int) ≤ 1000000 := by omega
  have qn2 : (n2 : Int) ≤ 1000000 := by omega
  rw [hn] at p1
  rw [hn2] at p2
  rw [hn, hn2]
  have H1 : Hid (l.length = n ∧ (∀ e ∈ l, e.ok) ∧ (0 < n → ∃ b off, a1 = some ⟨b, off, none⟩ ∧ b < w.heap.size ∧ ∀ i e, l[i]? = some e → w.rangeAt b (off + i * 36) e.cells)) := ⟨hn, k1, p1⟩
  have H2 : Hid (r.length = n2 ∧ (∀ e ∈ r, e.ok) ∧ (0 < n2 → ∃ b off, a2 = some ⟨b, off, none⟩ ∧ b < w.heap.size ∧ ∀ i e, r[i]? = some e → w.rangeAt b (off + i * 36) e.cells)) := ⟨hn2, k2, p2⟩
  have HR : Hid (R = true ↔ l = r) := hR
  clear k1 k2 m1 m2 z1 z2 p1 p2 hl hr hR hn hn2
  by_cases hne : n = n2
  · subst hne
    clear qn2
    go_enter Tryd.func18, Tryd.ntmps18
    go_wp2
    go_loopw [5] (fun u wr => ∃ i : Nat, u = iv (i : Int) ∧ Hid (i ≤ n ∧ l.take i = r.take i ∧ Below w.heap.size w wr)) (fun u _ => n - (intOf u).toNat)
    case atStart => exact ⟨0, rfl, Nat.zero_le _, by simp, Below.refl _ _⟩
    case round =>
      obtain ⟨i, rfl, HI⟩ := hrel
      by_cases hi : i = n
      · have q1 : (n : Int) ≤ (i : Int) := by omega
        have HF : Hid (R = true ∧ Below w.heap.size w wr) := by
          refine ⟨HR.out.2 ?_, HI.out.2.2⟩
          have := HI.out.2.1
          rw [hi, List.take_of_length_le (by rw [H1.out.1]; exact Nat.le_refl _), List.take_of_length_le (by rw [H2.out.1]; exact Nat.le_refl _)] at this
          exact this
        clear hi HI
        go_wp2
        go_ret
        exact ⟨by rw [HF.out.1]; rfl, HF.out.2⟩
      · have q2 : i < n := by have := HI.out.1; omega
        have q1 : (i : Int) < (n : Int) := by omega
        obtain ⟨x, hx⟩ : ∃ x, l[i]? = some x := ⟨_, List.getElem?_eq_getElem (by rw [H1.out.1]; exact q2)⟩
        obtain ⟨y, hy⟩ : ∃ x, r[i]? = some x := ⟨_, List.getElem?_eq_getElem (by rw [H2.out.1]; exact q2)⟩
        obtain ⟨b1, o1, rfl, hb1, e1⟩ := H1.out.2.2 (by omega)
        obtain ⟨b2, o2, rfl, hb2, e2⟩ := H2.out.2.2 (by omega)
        have HX : Hid (x.ok ∧ y.ok) := ⟨H1.out.2.1 x (List.mem_of_getElem? hx), H2.out.2.1 y (List.mem_of_getElem? hy)⟩
        have HG : Hid (wr.rangeAt b1 (o1 + i * 36) x.cells ∧ wr.rangeAt b2 (o2 + i * 36) y.cells ∧ b1 < wr.heap.size ∧ b2 < wr.heap.size) := ⟨rangeAt_same (e1 i x hx) (HI.out.2.2.block b1 hb1), rangeAt_same (e2 i y hy) (HI.out.2.2.block b2 hb2), Nat.lt_of_lt_of_le hb1 HI.out.2.2.size, Nat.lt_of_lt_of_le hb2 HI.out.2.2.size⟩
        obtain ⟨E, hE⟩ : ∃ E, (!eqEn x y) = E := ⟨_, rfl⟩
        have HNE : Hid (∀ W, (binOp .neq 37 (.agg x.cells.toArray) (.agg y.cells.toArray)).run Tryd.prog W = .ok (.bool E) W) := by
          intro W; rw [← hE]; exact neE x y HX.out.1 HX.out.2 W
        have HE : Hid ((!eqEn x y) = E ∧ l[i]? = some x ∧ r[i]? = some y ∧ i < n) := ⟨hE, hx, hy, q2⟩
        clear hE hx hy e1 e2 hb1 hb2 hi
        go_wp2_with fail
        refine sm6 HX HG HNE q1 q2 ?_
        intro V hV
        have HV : Hid (Below w.heap.size w V) := below_tr HI.out.2.2 hV
        clear hV
        cases E
        · have HF : Hid (i + 1 ≤ n ∧ l.take (i + 1) = r.take (i + 1) ∧ Below w.heap.size w V) := ⟨HE.out.2.2.2, take_step HI.out.2.1 HE.out.2.1 HE.out.2.2.1 ((eqEn_iff x y).1 (by simpa using HE.out.1)), HV.out⟩
          go_wp2
          go_roundw
          case rel => exact ⟨i + 1, by simp, HF.out⟩
          case measure =>
            have := HE.out.2.2.2
            simp only [intOf]
            omega
        · have HF : Hid (R = false ∧ Below w.heap.size w V) := by
            refine ⟨?_, HV.out⟩
            rcases hR' : R with _ | _
            · rfl
            · have e := HR.out.1 hR'
              have h1 := HE.out.2.1
              rw [e, HE.out.2.2.1] at h1
              have h2 := HE.out.1
              rw [(eqEn_iff x y).2 (Option.some.inj h1).symm] at h2
              cases h2
          go_wp2
          go_ret
          exact ⟨by rw [HF.out.1]; rfl, HF.out.2⟩
  · have HF : Hid (R = false) := by
      show R = false
      rcases hR' : R with _ | _
      · rfl
      · exact absurd (by rw [← H1.out.1, ← H2.out.1, HR.out.1 hR']) hne
    have q3 : ((n : Int) != (n2 : Int)) = true := by simpa using fun h => hne (by omega)
    clear hne
    go_enter Tryd.func18, Tryd.ntmps18
    go_wp2
    go_ret
    exact ⟨by rw [HF.out]; rfl, Below.refl _ _⟩
end Go.Proofs.YtmmpafaegmejlaaDoor.Oct

/- Layer 19 (audit): the law AuditChain. -/
namespace Go.Proofs.YtmmpafaegmejlaaDoor.Oct
open Go.RowKit Sha
set_option linter.unusedSimpArgs false
set_option linter.unusedVariables false

theorem okAt_app {l r : List En} {i : Nat} (hi : i < l.length) : okAt (l ++ r) i ↔ okAt l i := by
  unfold okAt
  rw [List.getElem?_append_left hi, List.take_append_of_le_length (Nat.le_of_lt hi)]
theorem ok_step {l : List En} {tick : Int} {who what : BA} (h : ∀ i, i < l.length → okAt l i) : ∀ i, i < (lA l (nxE l tick who what)).length → okAt (lA l (nxE l tick who what)) i := by
  unfold lA
  split
  · rename_i h0
    intro i hi
    rw [List.length_append, List.length_singleton] at hi
    by_cases hl : i < l.length
    · exact (okAt_app hl).2 (h i hl)
    · obtain rfl : i = l.length := by omega
      intro e he
      rw [List.getElem?_append_right (Nat.le_refl _)] at he
      simp at he
      subst he
      rw [List.take_left' rfl]
      have g := nxE_good h0
      rw [g.2.2]
      show nxE l tick who what = _
      rw [← g.2.2]
      exact Prod.ext rfl h0
  · exact h
theorem lA_take (l : List En) (q : En × Int) : (lA l q).take l.length = l := by
  unfold lA
  split
  · exact List.take_left' rfl
  · exact List.take_of_length_le (Nat.le_refl _)
theorem lA_len (l : List En) (q : En × Int) : (lA l q).length ≤ l.length + 1 ∧ l.length ≤ (lA l q).length := by
  unfold lA
  split
  · simp
  · omega
theorem ok_take {l : List En} (h : ∀ i, i < l.length → okAt l i) (m : Nat) : ∀ i, i < (l.take m).length → okAt (l.take m) i := by
  intro i hi
  rw [List.length_take] at hi
  have := h i (by omega)
  rw [← List.take_append_drop m l] at this
  exact (okAt_app (by rw [List.length_take]; exact hi)).1 this
theorem vf_ok {l : List En} (h : ∀ i, i < l.length → okAt l i) : VfP l (-1) := .inl ⟨rfl, h⟩
/-- a beginning of a row -/
theorem cut_is {w : World} {a : Option Addr} {cap : Nat} {l : List En} (h : EsR w (.slice a l.length cap) l) (m : Nat) (hm : m ≤ l.length) : ∃ c', (∀ W, (Instr.slice 27 (.slice a l.length cap) none (some (iv (m : Int))) none).run Tryd.prog W = .ok (.slice a m c') W) ∧ EsR w (.slice a m c') (l.take m) := by
  obtain ⟨h1, a', cap', h2, h3, h4, h5⟩ := h
  cases h2
  have e1 := fun W => run_sliceBound (P := Tryd.prog) (w := W) .i64 (m : Int) cap .sliceAcap (by omega) (by omega)
  refine ⟨cap, fun W => ?_, fun e he => h1 e (List.mem_of_mem_take he), a, cap, by rw [List.length_take, Nat.min_eq_left hm], by rw [List.length_take]; omega, h4, fun hp => ?_⟩
  · have e2 := e1 W
    simp only [Int.toNat_natCast] at e2
    rcases a with _ | ⟨b, off, sp⟩
    · simp [Instr.slice, run_underlying elem27, Instr.sliceBounds, e2, go_sem]
    · simp [Instr.slice, run_underlying elem27, Instr.sliceBounds, e2, go_sem]
  · rw [List.length_take] at hp
    obtain ⟨b, off, e1, e2, e3⟩ := h5 (by omega)
    refine ⟨b, off, e1, e2, fun j e he => e3 j e ?_⟩
    rw [List.getElem?_take] at he
    split at he
    · exact he
    · cases he
end Go.Proofs.YtmmpafaegmejlaaDoor.Oct

/- Layer 19 (audit): the law AuditChain. -/
namespace Go.Proofs.YtmmpafaegmejlaaDoor.Oct
open Go.RowKit Sha
set_option linter.unusedSimpArgs false
set_option linter.unusedVariables false

/-- where a log and the row that was told of it stand -/
def CI (w : World) (B L c i : Nat) (es : List En) (vl : Value) (a4 : Option Addr) (c4 : Nat) (wr : World) : Prop :=
  Lg wr B L c vl es ∧ OwE wr B (.slice a4 es.length c4) es ∧ (∀ g, (Value.slice a4 es.length c4).ownBlock = some g → g ≠ c ∧ vl.ownBlock ≠ some g) ∧ es.length ≤ i ∧ (∀ j, j < es.length → okAt es j) ∧ Below w.heap.size w wr ∧ w.heap.size ≤ B ∧ B ≤ wr.heap.size
theorem CI.below {w wr wr' : World} {B L c i : Nat} {es : List En} {vl : Value} {a4 : Option Addr} {c4 : Nat} (h : CI w B L c i es vl a4 c4 wr) (hb : Below wr.heap.size wr wr') : CI w B L c i es vl a4 c4 wr' :=
  ⟨h.1.below hb, h.2.1.below hb, h.2.2.1, h.2.2.2.1, h.2.2.2.2.1, below_tr h.2.2.2.2.2.1 hb, h.2.2.2.2.2.2.1, Nat.le_trans h.2.2.2.2.2.2.2 hb.size⟩
/-- what an Append leaves -/
def CJ (w : World) (B L c i : Nat) (es fs : List En) (vl : Value) (a4 : Option Addr) (c4 : Nat) (wr : World) : Prop :=
  Lg wr B L c vl fs ∧ OwE wr B (.slice a4 es.length c4) es ∧ fs.take es.length = es ∧ es.length ≤ fs.length ∧ fs.length ≤ i + 1 ∧ (∀ j, j < fs.length → okAt fs j) ∧ Below w.heap.size w wr ∧ w.heap.size ≤ B ∧ B ≤ wr.heap.size
theorem CJ.below {w wr wr' : World} {B L c i : Nat} {es fs : List En} {vl : Value} {a4 : Option Addr} {c4 : Nat} (h : CJ w B L c i es fs vl a4 c4 wr) (hb : Below wr.heap.size wr wr') : CJ w B L c i es fs vl a4 c4 wr' :=
  ⟨h.1.below hb, h.2.1.below hb, h.2.2.1, h.2.2.2.1, h.2.2.2.2.1, h.2.2.2.2.2.1, below_tr h.2.2.2.2.2.2.1 hb, h.2.2.2.2.2.2.2.1, Nat.le_trans h.2.2.2.2.2.2.2.2 hb.size⟩
theorem CI.app {w wr wr' : World} {B L c i : Nat} {es : List En} {vl : Value} {a4 : Option Addr} {c4 : Nat} {tick : Int} {who what : BA} {e : Ending} (h : CI w B L c i es vl a4 c4 wr) (hp : ApP wr B L c vl es (nxE es tick who what) e wr') : ∃ vl', CJ w B L c i es (lA es (nxE es tick who what)) vl' a4 c4 wr' := by
  obtain ⟨_, v', h1, h2, h3⟩ := hp
  have hS : ∀ k, SC c vl k → B ≤ k := fun k hk => by
    rcases hk with rfl | hk
    · exact h.1.bc
    · exact (h.1.row.lt hk).1
  refine ⟨v', h1, h.2.1.same fun g hg => h3.block g (h.2.1.lt hg).2 fun hk => ?_, lA_take _ _, (lA_len _ _).2, by have := (lA_len es (nxE es tick who what)).1; have := h.2.2.2.1; omega, ok_step h.2.2.2.2.1, h.2.2.2.2.2.1.trans (h3.toBelow (Nat.le_trans h.2.2.2.2.2.2.1 h.2.2.2.2.2.2.2) fun k hk => Nat.le_trans h.2.2.2.2.2.2.1 (hS k hk)), h.2.2.2.2.2.2.1, Nat.le_trans h.2.2.2.2.2.2.2 h3.size⟩
  have := h.2.2.1 g hg
  rcases hk with hk | hk
  · exact this.1 hk
  · exact this.2 hk
theorem CJ.next {w wr wr' : World} {B L c i : Nat} {es fs : List En} {vl : Value} {a4 a7 : Option Addr} {c4 c7 : Nat} (h : CJ w B L c i es fs vl a4 c4 wr) (hb : Below wr.heap.size wr wr') (h7 : OwE wr' wr.heap.size (.slice a7 fs.length c7) fs) : CI w B L c (i + 1) fs vl a7 c7 wr' := by
  have hh := h.below hb
  refine ⟨hh.1, h7.mono h.2.2.2.2.2.2.2.2, fun g hg => ?_, h.2.2.2.2.1, h.2.2.2.2.2.1, hh.2.2.2.2.2.2.1, hh.2.2.2.2.2.2.2.1, hh.2.2.2.2.2.2.2.2⟩
  have hl := (h7.lt hg).1
  refine ⟨fun e => ?_, fun e => ?_⟩
  · have := h.1.ch.lt; omega
  · have := (h.1.row.lt e).2; omega
set_option maxRecDepth 100000 in
set_option maxHeartbeats 4000000 in
theorem chain_law {w : World} {a : Option Addr} {n cap : Nat} {l : List ActV} (h : ArgA w a n cap l) (hk : KT w) (hs : ST w) : Calls Tryd.prog 5 #[.slice a n cap] w fun e w' => e = .returned (.bool true) ∧ Below w.heap.size w w' := by
  have HA : Hid (ArgA w a n cap l) := h
  have HK : Hid (KT w ∧ ST w) := ⟨hk, hs⟩
  have qn : (n : Int) ≤ 140737488355328 := by have := h.2.1; omega
  obtain ⟨Z, hZ, HZ⟩ := zero29
  clear h hk hs
  go_enter Tryd.func5, Tryd.ntmps5
  go_wp2_with fail
  refine (few_is HA.out).mono ?_
  rintro e X ⟨b, rfl, -, hbx⟩
  have HX : Hid (Below w.heap.size w X) := hbx
  clear hbx
  cases b
  · go_wp2_with fail
    refine (lives_is X (HK.out.1.below HX.out) (HK.out.2.below HX.out)).mono ?_
    rintro e X2 ⟨rfl, hb2⟩
    have HF : Hid (Below w.heap.size w X2) := below_tr HX.out hb2
    clear hb2
    go_wp2
    go_ret
    exact ⟨rfl, HF.out⟩
  · go_wp2_with fail
    refine (new_log X).mono ?_
    rintro e X2 ⟨L, c, rfl, hlg, hb2⟩
    have H2 : Hid (CI w X.heap.size L c 0 [] (.slice none 0 0) none 0 X2) := ⟨hlg.out, OwE.nil _ _, (fun g hg => nomatch hg), Nat.le_refl _, (fun j hj => absurd hj (Nat.not_lt_zero j)), below_tr HX.out hb2, HX.out.size, hb2.size⟩
    clear hlg hb2
    obtain ⟨B, hB⟩ : ∃ B, X.heap.size = B := ⟨_, rfl⟩
    rw [hB] at H2
    clear hB HX
    go_wp2
    go_loopw [16, 4] (fun u t wr => ∃ (i : Nat) (es : List En) (vl : Value) (a4 : Option Addr) (c4 m : Nat), u = iv (i : Int) ∧ t = .slice a4 m c4 ∧ Hid (i ≤ n ∧ es.length = m ∧ CI w B L c i es vl a4 c4 wr)) (fun u _ _ => n - (intOf u).toNat)
    case atStart => exact ⟨0, [], _, none, 0, 0, rfl, rfl, Nat.zero_le _, rfl, H2.out⟩
    case round =>
      obtain ⟨i, es, vl, a4, c4, m, rfl, rfl, HI⟩ := hrel
      clear H2
      by_cases hi : i = n
      · have q1 : (n : Int) ≤ (i : Int) := by omega
        have qm : (m : Int) ≤ 5000 := by have := HI.out.2.2.1.len; have := HI.out.2.1; omega
        have qmn : (m : Int) ≤ (n : Int) := by have := HI.out.2.2.2.2.2.1; have := HI.out.2.1; omega
        subst hi
        go_wp2
        obtain ⟨W0, hW0⟩ : ∃ W0, W0 = wr := ⟨_, rfl⟩
        subst hW0
        go_loopw [60] (fun u wq => ∃ j : Nat, u = iv (j : Int) ∧ Hid (j ≤ m ∧ Below W0.heap.size W0 wq)) (fun u _ => m - (intOf u).toNat)
        case atStart => exact ⟨0, rfl, Nat.zero_le _, Below.refl _ _⟩
        case round =>
          obtain ⟨j, rfl, HJ⟩ := hrel
          by_cases hj : j = m
          · have q2 : (m : Int) ≤ (j : Int) := by omega
            have HF : Hid (Below w.heap.size w wr ∧ KT wr ∧ ST wr) := by
              have h := below_tr HI.out.2.2.2.2.2.2.2.1 HJ.out.2
              exact ⟨h, HK.out.1.below h, HK.out.2.below h⟩
            clear hj
            go_wp2_with fail
            refine (lives_is _ HF.out.2.1 HF.out.2.2).mono ?_
            rintro e X3 ⟨rfl, hb3⟩
            have HG : Hid (Below w.heap.size w X3) := below_tr HF.out.1 hb3
            clear hb3
            go_wp2
            go_ret
            exact ⟨rfl, HG.out⟩
          · have hjm : j < m := by have := HJ.out.1; omega
            have q2 : (j : Int) < (m : Int) := by omega
            obtain ⟨cc, hcut, hes⟩ := cut_is HI.out.2.2.2.1.esr j (by have := HI.out.2.1; omega)
            have HES : Hid (EsR W0 (.slice a4 j cc) (es.take j) ∧ j < m) := ⟨hes, hjm⟩
            rw [HI.out.2.1] at hcut
            clear hj hjm hes
            go_wp2_with fail
            refine (verify_k (vf_ok (ok_take HI.out.2.2.2.2.2.2.1 j)) (HES.out.1.below HJ.out.2) (fun e he => HI.out.2.2.1.sz e (List.mem_of_mem_take he)) (by rw [List.length_take]; have := HI.out.2.2.1.len; omega) (HK.out.1.below (below_tr HI.out.2.2.2.2.2.2.2.1 HJ.out.2)) (HK.out.2.below (below_tr HI.out.2.2.2.2.2.2.2.1 HJ.out.2))).mono ?_
            rintro e X3 ⟨rfl, hb3⟩
            have HG : Hid (j + 1 ≤ m ∧ Below W0.heap.size W0 X3) := ⟨HES.out.2, below_tr HJ.out.2 hb3⟩
            clear hb3
            go_wp2
            go_roundw
            case rel => exact ⟨j + 1, rfl, HG.out⟩
            case measure => show m - (j + 1) < m - j; have := HES.out.2; omega
      · have hlt : i < n := by have := HI.out.1; omega
        have q1 : (i : Int) < (n : Int) := by omega
        obtain ⟨x, hx⟩ : ∃ x, l[i]? = some x := ⟨_, List.getElem?_eq_getElem (by rw [HA.out.1]; exact hlt)⟩
        obtain ⟨b, off, rfl, hb, hel⟩ := HA.out.2.2.2 (by omega)
        have hok := HA.out.2.2.1 x (List.mem_of_getElem? hx)
        have HX : Hid (wr.rangeAt b (off + i * 4) x.cells ∧ i < n ∧ x.ok) := ⟨rangeAt_same (hel i x hx) (HI.out.2.2.2.2.2.2.2.1.block b hb), hlt, hok⟩
        obtain ⟨g6, hg6⟩ : ∃ g, wr.heap.size = g := ⟨_, rfl⟩
        have HG6 : Hid (wr.heap.size = g6) := hg6
        clear hi hlt hx hel hb hok
        go_wp2_with (with_reducible change wpList _ _ _ ({ dst := some 19, op := _, type := _, pos := _, after := _, guard := _ } :: _) _ _; refine Hid.out ?_)
        show wpList _ _ _ _ _ _
        refine wpList_load_mid rfl 29 (.tmp 18) rfl b (off + i * 4) rfl x.cells _ HX.out.1 Tryd.underlying29 rfl (size29 x) ?_
        go_wp2_with (with_reducible change wpList _ _ _ ({ dst := none, op := Op.store 29 _ _, type := _, pos := _, after := _, guard := _ } :: _) _ _; refine Hid.out ?_)
        show wpList _ _ _ _ _ _
        refine wpList_store_blk rfl 29 (.tmp 6) (.tmp 19) rfl g6 0 29 Z x.cells rfl rfl (by rw [← HG6.out]; exact Blk.new wr _ _) (by rw [HZ.out]; exact Nat.le_refl _) (size29 x) x.one ?_
        intro W1 hx1 hg1
        have H1 : Hid (CI w B L c i es vl a4 c4 W1 ∧ Blk W1 g6 29 x.cells ∧ KT W1 ∧ ST W1) := by
          have hb1 : Below wr.heap.size wr W1 := below_gr (below_al wr _) hg1.out (by rw [HG6.out]; exact Nat.le_refl _)
          have h := HI.out.2.2.below hb1
          exact ⟨h, blk_all hx1.out (by rw [HZ.out]; rfl), HK.out.1.below h.2.2.2.2.2.1, HK.out.2.below h.2.2.2.2.2.1⟩
        have c0 : W1.cell? ⟨g6, 0, none⟩ = some (iv x.tick) := H1.out.2.1.cell rfl
        have c1 : W1.cell? ⟨g6, 1, none⟩ = some (.string x.who) := H1.out.2.1.cell rfl
        have c2 : W1.cell? ⟨g6, 2, none⟩ = some (.string x.what) := H1.out.2.1.cell rfl
        clear hx1 hg1 hg6
        go_wp2_with fail
        refine (append_is H1.out.1.1 H1.out.2.2.1 H1.out.2.2.2 H1.out.1.2.2.2.2.2.2.2 x.tick x.who x.what HX.out.2.2.2.1 HX.out.2.2.2.2 HX.out.2.2.1.2).mono ?_
        intro e W2 hap
        have he := hap.1
        subst he
        obtain ⟨vl2, hj⟩ := H1.out.1.app hap
        obtain ⟨fs, hfs⟩ : ∃ fs, lA es (nxE es x.tick x.who x.what) = fs := ⟨_, rfl⟩
        rw [hfs] at hj
        have HJ : Hid (CJ w B L c i es fs vl2 a4 c4 W2 ∧ KT W2 ∧ ST W2) := ⟨hj, HK.out.1.below hj.2.2.2.2.2.2.1, HK.out.2.below hj.2.2.2.2.2.2.1⟩
        clear hap hj hfs c0 c1 c2
        dsimp only
        go_wp2_with fail
        refine (entries_is HJ.out.1.1).mono ?_
        rintro e W3 ⟨v7, rfl, ho7, hb3⟩
        obtain ⟨_, a7, c7, rfl, hle7, hcap7, hr7⟩ := ho7.out.esr
        obtain ⟨k, hk7⟩ : ∃ k, fs.length = k := ⟨_, rfl⟩
        have HN : Hid (CI w B L c (i + 1) fs vl2 a7 c7 W3 ∧ CJ w B L c i es fs vl2 a4 c4 W3 ∧ KT W3 ∧ ST W3 ∧ fs.length = k) := ⟨HJ.out.1.next hb3 ho7.out, HJ.out.1.below hb3, HJ.out.2.1.below hb3, HJ.out.2.2.below hb3, hk7⟩
        have qk : (k : Int) ≤ 5000 := by have := HN.out.1.1.len; omega
        have qm : (m : Int) ≤ (k : Int) := by have := HN.out.2.1.2.2.2.1; have := HI.out.2.1; omega
        obtain ⟨cc, hcut, hes⟩ := cut_is HN.out.1.2.1.esr m (by omega)
        have HES : Hid (EsR W3 (.slice a7 m cc) es) := by
          show EsR W3 _ es
          have e : fs.take m = es := by rw [← HI.out.2.1]; exact HN.out.2.1.2.2.1
          rw [e] at hes
          exact hes
        rw [hk7] at hcut ⊢
        clear ho7 hb3 hle7 hcap7 hr7 hes hk7
        go_wp2_with fail
        have hv := verify_k (vf_ok HN.out.1.2.2.2.2.1) HN.out.1.2.1.esr HN.out.1.1.sz (by have := HN.out.1.1.len; omega) HN.out.2.2.1 HN.out.2.2.2.1
        rw [HN.out.2.2.2.2] at hv
        refine hv.mono ?_
        clear hv
        rintro e W4 ⟨rfl, hb4⟩
        have H4 : Hid (Below W3.heap.size W3 W4) := hb4
        clear hb4
        obtain ⟨D, hD⟩ : ∃ D, hdE fs = D := ⟨_, rfl⟩
        have HD : Hid (hdE fs = D) := hD
        clear hD
        go_wp2_with fail
        refine (headL_is (HN.out.1.1.below H4.out) (HN.out.2.2.1.below H4.out) (HN.out.2.2.2.1.below H4.out) D HD.out).mono ?_
        rintro e W5 ⟨rfl, hb5⟩
        have H5 : Hid (Below W3.heap.size W3 W5) := below_tr H4.out hb5
        clear hb5 H4
        go_wp2_with fail
        have hh := holds_is (w := W5) (HN.out.1.2.1.esr.below H5.out) HN.out.1.1.sz (by have := HN.out.1.1.len; omega) (HN.out.2.2.1.below H5.out) (HN.out.2.2.2.1.below H5.out) (Dh := D) (by rw [← HD.out]; exact hdE_len fs) true ⟨fun _ => ⟨HN.out.1.2.2.2.2.1, HD.out⟩, fun _ => rfl⟩
        rw [HN.out.2.2.2.2] at hh
        refine hh.mono ?_
        clear hh
        rintro e W6 ⟨rfl, hb6⟩
        have H6 : Hid (Below W3.heap.size W3 W6) := below_tr H5.out hb6
        clear hb6 H5
        go_wp2_with fail
        have hsm := same_is (w := W6) (HES.out.below H6.out) ((HN.out.2.1.below H6.out).2.1.esr) (by have := HI.out.2.1; omega) (by have := HI.out.2.1; omega) true ⟨fun _ => rfl, fun _ => rfl⟩
        rw [HI.out.2.1] at hsm
        refine hsm.mono ?_
        clear hsm
        rintro e W7 ⟨rfl, hb7⟩
        have H7 : Hid (i + 1 ≤ n ∧ fs.length = k ∧ CI w B L c (i + 1) fs vl2 a7 c7 W7) := ⟨HX.out.2.1, HN.out.2.2.2.2, HN.out.1.below (below_tr H6.out hb7)⟩
        clear hb7 H6
        go_wp2
        go_roundw
        case rel => exact ⟨i + 1, fs, vl2, a7, c7, k, rfl, rfl, H7.out⟩
        case measure => show n - (i + 1) < n - i; have := HX.out.2.1; omega
end Go.Proofs.YtmmpafaegmejlaaDoor.Oct

/- Layer 19 (audit): one entry says something else. -/
namespace Go.Proofs.YtmmpafaegmejlaaDoor.Oct
open Go.RowKit Sha
set_option linter.unusedSimpArgs false
set_option linter.unusedVariables false

theorem nxE_small {l : List En} {tick : Int} {who what : BA} (h : (nxE l tick who what).2 = 0) : who.size ≤ 16 ∧ what.size ≤ 512 := by
  unfold nxE at h
  split at h
  · cases h
  · split at h
    · cases h
    · omega
theorem okAt_prev {l : List En} {i : Nat} {e : En} (h : okAt l i) (he : l[i]? = some e) : e.prev = hdE (l.take i) ∧ e.who.size ≤ 16 ∧ e.what.size ≤ 512 := by
  have h1 := h e he
  have h2 : (nxE (l.take i) e.tick e.who e.what).2 = 0 := by rw [h1]
  refine ⟨?_, nxE_small h2⟩
  have h3 := (nxE_good h2).2.2
  rw [h1] at h3
  have := congrArg En.prev h3
  exact this
def En.say (e : En) (s : BA) : En := ⟨e.seq, e.tick, e.who, s, e.prev⟩
theorem wpList_store1 {ops : Array Oper} {rest : List Oper} {op : Oper} {a : Act} {w : World} {Q : Exit → Act → World → Prop} (hgd : op.guard = none) (ty : TypeId) (x y : Operand) (ho : op.op = .store ty x y)
    (b o : Nat) (t : TypeId) (L : List Value) (v : Value) (hx : a.eval x = .pointer (some ⟨b, o, none⟩)) (hy : a.eval y = v) (hb : Blk w b t L) (hl : o < L.length) (hi : (Tryd.prog.info? ty).map (·.size) = some 1) (h1 : v.cells = #[v]) (h2 : v.oneCell' = true)
    (h : ∀ w', Hid (Blk w' b t (L.take o ++ [v] ++ L.drop (o + 1))) → Hid (w.grownBy w' (some b)) → wpList Tryd.prog ops Q rest (a.put op.dst undef) w') : wpList Tryd.prog ops Q (op :: rest) a w := by
  refine wpList_step fun K hK => step_st1 (by unfold Region.wanted; rw [hgd]) ty x y ho b o v t L hx hy hb hl hi h1 h2 (hK _ _ ?_)
  have e := Blk.setCells [v] o w L hb hl
  exact h _ e.1 e.2
theorem hdE_at {l : List En} {k : Nat} {e : En} (h : l[k]? = some e) : hdE (l.take (k + 1)) = dgE e := by
  have hk := (List.getElem?_eq_some_iff.1 h).1
  unfold hdE lastE
  rw [if_neg (by intro h0; have := congrArg List.length h0; rw [List.length_take, List.length_nil] at this; omega)]
  rw [List.take_add_one, h]
  simp
/-- one that says something else is no chain of that head -/
theorem turned_not {l : List En} {k : Nat} {x : En} {s : BA} (hx : l[k]? = some x) (hok : ∀ i, i < l.length → okAt l i) (hd : dgE (x.say s) ≠ dgE x) : ¬ ((∀ i, i < (l.set k (x.say s)).length → okAt (l.set k (x.say s)) i) ∧ hdE (l.set k (x.say s)) = hdE l) := by
  rintro ⟨h1, h2⟩
  have hk := (List.getElem?_eq_some_iff.1 hx).1
  have hx' : (l.set k (x.say s))[k]? = some (x.say s) := by rw [List.getElem?_set_self hk]
  by_cases hl : k + 1 = l.length
  · have e1 := hdE_at hx
    have e2 := hdE_at hx'
    rw [List.take_of_length_le (by omega)] at e1
    rw [List.take_of_length_le (by rw [List.length_set]; omega)] at e2
    rw [e1, e2] at h2
    exact hd h2
  · obtain ⟨y, hy⟩ : ∃ y, l[k + 1]? = some y := ⟨_, List.getElem?_eq_getElem (by omega)⟩
    have hy' : (l.set k (x.say s))[k + 1]? = some y := by rw [List.getElem?_set_ne (by omega)]; exact hy
    have a := (okAt_prev (hok (k + 1) (by omega)) hy).1
    have b := (okAt_prev (h1 (k + 1) (by rw [List.length_set]; omega)) hy').1
    rw [hdE_at hx] at a
    rw [hdE_at hx'] at b
    exact hd (b.symm.trans a)
theorem set_row {W W' : World} {g k : Nat} {cur : List Value} {l : List En} {x : En} {s : BA} (hok : ∀ e ∈ l, e.ok) (hb : Blk W g 37 cur) (hr : ∀ i e, l[i]? = some e → W.rangeAt g (0 + i * 36) e.cells) (hx : l[k]? = some x) (hb' : Blk W' g 37 (cur.take (k * 36 + 3) ++ [.string s] ++ cur.drop (k * 36 + 3 + 1))) :
    ∀ i e, (l.set k (x.say s))[i]? = some e → W'.rangeAt g (0 + i * 36) e.cells := by
  have hget : ∀ i e, l[i]? = some e → ∀ j v, e.cells[j]? = some v → cur[i * 36 + j]? = some v := fun i e he j v hj => by
    have := hr i e he j v hj
    rw [cell_of_row W g _ _ 37 (0, 0) hb, Nat.zero_add] at this
    simpa using this
  have hlt : k * 36 + 3 < cur.length := (List.getElem?_eq_some_iff.1 (hget k x hx 3 (.string x.what) rfl)).1
  have hset : cur.take (k * 36 + 3) ++ [.string s] ++ cur.drop (k * 36 + 3 + 1) = cur.set (k * 36 + 3) (.string s) := by
    rw [List.set_eq_take_append_cons_drop, if_pos hlt]; simp
  rw [hset] at hb'
  intro i e he j v hj
  refine hb'.cell ?_
  rw [Nat.zero_add]
  rw [List.getElem?_set] at he
  by_cases hik : k = i
  · subst hik
    rw [if_pos rfl] at he
    split at he
    · cases he
      by_cases h3 : j = 3
      · subst h3
        have : v = .string s := (Option.some.inj hj).symm
        rw [this, List.getElem?_set_self hlt]
      · rw [List.getElem?_set_ne (by omega)]
        refine hget k x hx j v ?_
        rw [← hj]
        match j, h3 with
        | 0, _ => rfl
        | 1, _ => rfl
        | 2, _ => rfl
        | j + 4, _ => rfl
    · cases he
  · rw [if_neg hik] at he
    have hj36 : j < 36 := by
      have := (List.getElem?_eq_some_iff.1 hj).1
      rw [En.len (hok e (List.mem_of_getElem? he))] at this
      exact this
    rw [List.getElem?_set_ne (by omega)]
    exact hget i e he j v hj
set_option maxRecDepth 100000 in
set_option maxHeartbeats 4000000 in
theorem tn17 {Q : Exit → Act → World → Prop} {x0 x1 x2 x3 x4 x5 x6 x7 x8 x9 x13 x14 x15 x16 x17 x18 x19 x20 x21 x22 x23 x24 x25 x26 x27 x28 x29 x30 x31 x32 x33 x34 x35 x36 x37 x38 x39 x40 x41 x42 x43 x44 x45 x46 x47 x48 x49 x50 x51 x52 x53 x54 x55 x56 x57 x58 x59 x60 x61 x62 x63 x64 x65 x66 x67 x68 x69 x70 x71 x72 x73 x74 x75 x76 x77 x78 x79 x80 x81 x82 x83 x84 x85 x86 x87 x88 x89 x90 x91 x92 x93 x94 x95 x96 x97 x98 x99 x100 x101 : Value} {ds : List Deferred} {A : World} {b1 o1 b2 o2 n c1 c2 i : Nat} {x y : En} {D1 D2 : List UInt8} {E : Bool}
    (HX : Hid (x.ok ∧ y.ok)) (HR : Hid (A.rangeAt b1 (o1 + i * 36) x.cells ∧ A.rangeAt b2 (o2 + i * 36) y.cells ∧ b1 < A.heap.size ∧ b2 < A.heap.size)) (HD1 : Hid (∀ V, Below A.heap.size A V → Calls Tryd.prog 20 #[.agg x.cells.toArray] V fun e V2 => e = .returned (.agg (U D1).toArray) ∧ Below V.heap.size V V2)) (HD2 : Hid (∀ V, Below A.heap.size A V → Calls Tryd.prog 20 #[.agg y.cells.toArray] V fun e V2 => e = .returned (.agg (U D2).toArray) ∧ Below V.heap.size V V2)) (HED : Hid (∀ W, (binOp .eql 35 (.agg (U D1).toArray) (.agg (U D2).toArray)).run Tryd.prog W = .ok (.bool E) W)) (q1 : (i : Int) < (n : Int)) (q2 : i < n)
    (hQ : ∀ V1, Below A.heap.size A V1 → Q .normal { tmps := #[x0, x1, x2, x3, x4, x5, x6, x7, x8, x9, .slice (some ⟨b2, o2, none⟩) n c2, iv (i : Int), .slice (some ⟨b1, o1, none⟩) n c1, x13, x14, x15, x16, x17, x18, x19, x20, x21, x22, x23, x24, x25, x26, x27, x28, x29, x30, x31, x32, x33, x34, x35, x36, x37, x38, x39, x40, x41, x42, x43, x44, x45, x46, x47, x48, x49, x50, x51, x52, x53, x54, x55, x56, x57, x58, x59, x60, x61, x62, x63, x64, x65, x66, x67, x68, x69, x70, x71, x72, x73, x74, x75, x76, x77, x78, x79, x80, x81, .slice (some ⟨b1, o1, none⟩) n c1, iv (i : Int), .pointer (some ⟨b1, o1 + i * 36, none⟩), .agg x.cells.toArray, .agg (U D1).toArray, .slice (some ⟨b2, o2, none⟩) n c2, iv (i : Int), .pointer (some ⟨b2, o2 + i * 36, none⟩), .agg y.cells.toArray, .agg (U D2).toArray, .bool E, x93, x94, x95, x96, x97, x98, x99, x100, x101], defers := ds } V1) :
    (Code.region 17 #[{ dst := some 82, op := Op.move (Operand.tmp 12), type := 27, pos := "law.go:168", after := #[], guard := none }, { dst := some 83, op := Op.move (Operand.tmp 11), type := 3, pos := "law.go:168", after := #[], guard := none }, { dst := some 84, op := Op.indexAddr 27 (Operand.tmp 82) (Operand.tmp 83), type := 0, pos := "law.go:168", after := #[{ on := 0, ground := Ground.data }, { on := 1, ground := Ground.data }], guard := none }, { dst := some 85, op := Op.load 37 (Operand.tmp 84), type := 37, pos := "law.go:168", after := #[{ on := 2, ground := Ground.data }], guard := none }, { dst := some 86, op := Op.call { callee := Callee.value (Operand.func 20), args := #[Operand.tmp 85], argTypes := #[37] }, type := 35, pos := "law.go:168", after := #[{ on := 3, ground := Ground.data }], guard := none }, { dst := some 87, op := Op.move (Operand.tmp 10), type := 27, pos := "law.go:168", after := #[], guard := none }, { dst := some 88, op := Op.move (Operand.tmp 11), type := 3, pos := "law.go:168", after := #[], guard := none }, { dst := some 89, op := Op.indexAddr 27 (Operand.tmp 87) (Operand.tmp 88), type := 0, pos := "law.go:168", after := #[{ on := 5, ground := Ground.data }, { on := 6, ground := Ground.data }], guard := none }, { dst := some 90, op := Op.load 37 (Operand.tmp 89), type := 37, pos := "law.go:168", after := #[{ on := 7, ground := Ground.data }], guard := none }, { dst := some 91, op := Op.call { callee := Callee.value (Operand.func 20), args := #[Operand.tmp 90], argTypes := #[37] }, type := 35, pos := "law.go:168", after := #[{ on := 8, ground := Ground.data }, { on := 4, ground := Ground.chain }], guard := none }, { dst := some 92, op := Op.binOp BinOp.eql 35 (Operand.tmp 86) (Operand.tmp 91) 35, type := 4, pos := "law.go:168", after := #[{ on := 4, ground := Ground.data }, { on := 9, ground := Ground.data }], guard := none }] true).wp Tryd.prog Q { tmps := #[x0, x1, x2, x3, x4, x5, x6, x7, x8, x9, .slice (some ⟨b2, o2, none⟩) n c2, iv (i : Int), .slice (some ⟨b1, o1, none⟩) n c1, x13, x14, x15, x16, x17, x18, x19, x20, x21, x22, x23, x24, x25, x26, x27, x28, x29, x30, x31, x32, x33, x34, x35, x36, x37, x38, x39, x40, x41, x42, x43, x44, x45, x46, x47, x48, x49, x50, x51, x52, x53, x54, x55, x56, x57, x58, x59, x60, x61, x62, x63, x64, x65, x66, x67, x68, x69, x70, x71, x72, x73, x74, x75, x76, x77, x78, x79, x80, x81, x82, x83, x84, x85, x86, x87, x88, x89, x90, x91, x92, x93, x94, x95, x96, x97, x98, x99, x100, x101], defers := ds } A := by
  refine Code.wp_mono (Q := fun x a' w' => match x with | .normal => Q .normal a' w' | _ => False) (by intro x a' w' h; cases x <;> first | exact h | exact h.elim) ?_
  refine wp_region_held (S := fun V => Below A.heap.size A V) (by kernel_rfl) ?_
  have hS0 : Hid (Below A.heap.size A A.drew) := below_drew0 A
  change wpAnyH Tryd.prog .any _ _ (fun V => Below A.heap.size A V) 11 (Array.replicate 11 false) _ A.drew
  obtain ⟨V0, hV0⟩ : ∃ V0, A.drew = V0 := ⟨_, rfl⟩
  rw [hV0]
  rw [hV0] at hS0
  clear hV0
  refine wpAnyH_take (i := 0) (oi := { dst := some 82, op := Op.move (Operand.tmp 12), type := 27, pos := "law.go:168", after := #[], guard := none }) (v := .slice (some ⟨b1, o1, none⟩) n c1) rfl (by kernel_rfl) (by kernel_rfl) (by kernel_rfl) (fun _ _ _ h => h.elim) (Or.inl ⟨by rfl, ?y1⟩) hS0.out ?_
  case y1 =>
    intro V hV
    go_simp
  simp only [Act.put, List.setIfInBounds_toArray, List.set_cons_zero, List.set_cons_succ]
  refine wpAnyH_take (i := 1) (oi := { dst := some 83, op := Op.move (Operand.tmp 11), type := 3, pos := "law.go:168", after := #[], guard := none }) (v := iv (i : Int)) rfl (by kernel_rfl) (by kernel_rfl) (by kernel_rfl) (fun _ _ _ h => h.elim) (Or.inl ⟨by rfl, ?y2⟩) hS0.out ?_
  case y2 =>
    intro V hV
    go_simp
  simp only [Act.put, List.setIfInBounds_toArray, List.set_cons_zero, List.set_cons_succ]
  refine wpAnyH_take (i := 2) (oi := { dst := some 84, op := Op.indexAddr 27 (Operand.tmp 82) (Operand.tmp 83), type := 0, pos := "law.go:168", after := #[{ on := 0, ground := Ground.data }, { on := 1, ground := Ground.data }], guard := none }) (v := .pointer (some ⟨b1, o1 + i * 36, none⟩)) rfl (by kernel_rfl) (by kernel_rfl) (by kernel_rfl) (fun _ _ _ h => h.elim) (Or.inl ⟨by rfl, ?y3⟩) hS0.out ?_
  case y3 =>
    intro V hV
    have hcmp := q1
    have hcmp2 := q2
    go_simp
  simp only [Act.put, List.setIfInBounds_toArray, List.set_cons_zero, List.set_cons_succ]
  refine wpAnyH_take (i := 3) (oi := { dst := some 85, op := Op.load 37 (Operand.tmp 84), type := 37, pos := "law.go:168", after := #[{ on := 2, ground := Ground.data }], guard := none }) (v := .agg x.cells.toArray) rfl (by kernel_rfl) (by kernel_rfl) (by kernel_rfl) (fun _ _ _ h => h.elim) (yieldsIf_load_mid (by rfl) _ _ rfl _ _ rfl (x.cells) _ (fun V hV => rangeAt_same (HR.out.1) ((show Below A.heap.size A V from hV).block _ (HR.out.2.2.1))) Tryd.underlying37 rfl (info37 HX.out.1)) hS0.out ?_
  simp only [Act.put, List.setIfInBounds_toArray, List.set_cons_zero, List.set_cons_succ]
  refine wpAnyH_take (i := 5) (oi := { dst := some 87, op := Op.move (Operand.tmp 10), type := 27, pos := "law.go:168", after := #[], guard := none }) (v := .slice (some ⟨b2, o2, none⟩) n c2) rfl (by kernel_rfl) (by kernel_rfl) (by kernel_rfl) (fun _ _ _ h => h.elim) (Or.inl ⟨by rfl, ?y4⟩) hS0.out ?_
  case y4 =>
    intro V hV
    go_simp
  simp only [Act.put, List.setIfInBounds_toArray, List.set_cons_zero, List.set_cons_succ]
  refine wpAnyH_take (i := 6) (oi := { dst := some 88, op := Op.move (Operand.tmp 11), type := 3, pos := "law.go:168", after := #[], guard := none }) (v := iv (i : Int)) rfl (by kernel_rfl) (by kernel_rfl) (by kernel_rfl) (fun _ _ _ h => h.elim) (Or.inl ⟨by rfl, ?y5⟩) hS0.out ?_
  case y5 =>
    intro V hV
    go_simp
  simp only [Act.put, List.setIfInBounds_toArray, List.set_cons_zero, List.set_cons_succ]
  refine wpAnyH_take (i := 7) (oi := { dst := some 89, op := Op.indexAddr 27 (Operand.tmp 87) (Operand.tmp 88), type := 0, pos := "law.go:168", after := #[{ on := 5, ground := Ground.data }, { on := 6, ground := Ground.data }], guard := none }) (v := .pointer (some ⟨b2, o2 + i * 36, none⟩)) rfl (by kernel_rfl) (by kernel_rfl) (by kernel_rfl) (fun _ _ _ h => h.elim) (Or.inl ⟨by rfl, ?y6⟩) hS0.out ?_
  case y6 =>
    intro V hV
    have hcmp := q1
    have hcmp2 := q2
    go_simp
  simp only [Act.put, List.setIfInBounds_toArray, List.set_cons_zero, List.set_cons_succ]
  refine wpAnyH_take (i := 8) (oi := { dst := some 90, op := Op.load 37 (Operand.tmp 89), type := 37, pos := "law.go:168", after := #[{ on := 7, ground := Ground.data }], guard := none }) (v := .agg y.cells.toArray) rfl (by kernel_rfl) (by kernel_rfl) (by kernel_rfl) (fun _ _ _ h => h.elim) (yieldsIf_load_mid (by rfl) _ _ rfl _ _ rfl (y.cells) _ (fun V hV => rangeAt_same (HR.out.2.1) ((show Below A.heap.size A V from hV).block _ (HR.out.2.2.2))) Tryd.underlying37 rfl (info37 HX.out.2)) hS0.out ?_
  simp only [Act.put, List.setIfInBounds_toArray, List.set_cons_zero, List.set_cons_succ]
  refine wpAnyH_ready (rs := [4]) (by kernel_rfl) (by simp) (AllReadyH.cons (i := 4) (o := { dst := some 86, op := Op.call { callee := Callee.value (Operand.func 20), args := #[Operand.tmp 85], argTypes := #[37] }, type := 35, pos := "law.go:168", after := #[{ on := 3, ground := Ground.data }], guard := none }) rfl ?_ AllReadyH.nil)
  · intro K1 hK1
    rw [if_pos (by rfl)]
    have HC1 := HD1.out V0 hS0.out
    go_wp2_with fail
    refine HC1.mono ?_
    rintro e V1 ⟨rfl, hb1⟩
    dsimp only
    clear HC1
    have hS1 : Hid (Below A.heap.size A V1) := hS0.out.trans (hb1.mono hS0.out.size)
    clear hb1
    refine hK1.out _ _ hS1.out ?_
    clear hK1
    intro _
    try simp only [Act.put, List.setIfInBounds_toArray, List.set_cons_zero, List.set_cons_succ]
    refine wpAnyH_ready (rs := [9]) (by kernel_rfl) (by simp) (AllReadyH.cons (i := 9) (o := { dst := some 91, op := Op.call { callee := Callee.value (Operand.func 20), args := #[Operand.tmp 90], argTypes := #[37] }, type := 35, pos := "law.go:168", after := #[{ on := 8, ground := Ground.data }, { on := 4, ground := Ground.chain }], guard := none }) rfl ?_ AllReadyH.nil)
    · intro K1 hK1
      rw [if_pos (by rfl)]
      have HC2 := HD2.out V1 hS1.out
      go_wp2_with fail
      refine HC2.mono ?_
      rintro e V2 ⟨rfl, hb2⟩
      dsimp only
      clear HC2
      have hS2 : Hid (Below A.heap.size A V2) := hS1.out.trans (hb2.mono hS1.out.size)
      clear hb2
      refine hK1.out _ _ hS2.out ?_
      clear hK1
      intro _
      try simp only [Act.put, List.setIfInBounds_toArray, List.set_cons_zero, List.set_cons_succ]
      refine wpAnyH_take (i := 10) (oi := { dst := some 92, op := Op.binOp BinOp.eql 35 (Operand.tmp 86) (Operand.tmp 91) 35, type := 4, pos := "law.go:168", after := #[{ on := 4, ground := Ground.data }, { on := 9, ground := Ground.data }], guard := none }) (v := .bool E) rfl (by kernel_rfl) (by kernel_rfl) (by kernel_rfl) (fun _ _ _ h => h.elim) (Or.inl ⟨by rfl, ?y7⟩) hS2.out ?_
      case y7 =>
        intro V hV
        exact yl_eq35 V _ _ _ _ _ rfl rfl rfl HED.out
      simp only [Act.put, List.setIfInBounds_toArray, List.set_cons_zero, List.set_cons_succ]
      refine wpAnyH_done (by kernel_rfl) ?_ _
      exact hQ V2 hS2.out
end Go.Proofs.YtmmpafaegmejlaaDoor.Oct

/- Layer 19 (audit): the law AuditTurned. -/
namespace Go.Proofs.YtmmpafaegmejlaaDoor.Oct
open Go.RowKit Sha
set_option linter.unusedSimpArgs false
set_option linter.unusedVariables false

/-- where a log stands -/
def LI (w : World) (B L c : Nat) (es : List En) (vl : Value) (wr : World) : Prop :=
  Lg wr B L c vl es ∧ (∀ j, j < es.length → okAt es j) ∧ Below w.heap.size w wr ∧ w.heap.size ≤ B ∧ B ≤ wr.heap.size
theorem LI.below {w wr wr' : World} {B L c : Nat} {es : List En} {vl : Value} (h : LI w B L c es vl wr) (hb : Below wr.heap.size wr wr') : LI w B L c es vl wr' :=
  ⟨h.1.below hb, h.2.1, below_tr h.2.2.1 hb, h.2.2.2.1, Nat.le_trans h.2.2.2.2 hb.size⟩
theorem LI.app {w wr wr' : World} {B L c : Nat} {es : List En} {vl : Value} {tick : Int} {who what : BA} {e : Ending} (h : LI w B L c es vl wr) (hp : ApP wr B L c vl es (nxE es tick who what) e wr') : ∃ vl', LI w B L c (lA es (nxE es tick who what)) vl' wr' := by
  obtain ⟨_, v', h1, h2, h3⟩ := hp
  have hS : ∀ k, SC c vl k → B ≤ k := fun k hk => by
    rcases hk with rfl | hk
    · exact h.1.bc
    · exact (h.1.row.lt hk).1
  exact ⟨v', h1, ok_step h.2.1, h.2.2.1.trans (h3.toBelow (Nat.le_trans h.2.2.2.1 h.2.2.2.2) fun k hk => Nat.le_trans h.2.2.2.1 (hS k hk)), h.2.2.2.1, Nat.le_trans h.2.2.2.2 h3.size⟩
theorem built35U : Tryd.prog.built 35 [] = some (U (List.replicate 32 0)).toArray := by rw [← zb_is]; exact built35
set_option maxRecDepth 100000 in
set_option maxHeartbeats 8000000 in
theorem turned_law {w : World} {a : Option Addr} {n cap : Nat} {l : List ActV} (h : ArgA w a n cap l) (at_ : Int) (s : BA) (ha : -9223372036854775808 ≤ at_ ∧ at_ ≤ 9223372036854775807) (hsz : s.size ≤ 140737488355328) (hk : KT w) (hs : ST w) : Calls Tryd.prog 7 #[.slice a n cap, iv at_, .string s] w fun e w' => e = .returned (.bool true) ∧ Below w.heap.size w w' := by
  have HA : Hid (ArgA w a n cap l) := h
  have HK : Hid (KT w ∧ ST w) := ⟨hk, hs⟩
  have qn : (n : Int) ≤ 140737488355328 := by have := h.2.1; omega
  have qs : (s.size : Int) ≤ 140737488355328 := by omega
  obtain ⟨Z, hZ, HZ⟩ := zero29
  clear h hk hs hsz
  go_enter Tryd.func7, Tryd.ntmps7
  go_wp2_with fail
  refine (few_is HA.out).mono ?_
  rintro e X ⟨b, rfl, -, hbx⟩
  have HX : Hid (Below w.heap.size w X ∧ KT X ∧ ST X) := ⟨hbx, HK.out.1.below hbx, HK.out.2.below hbx⟩
  clear hbx
  by_cases hgo : b = true ∧ s.size ≤ 1000
  · obtain ⟨rfl, hs1⟩ := hgo
    have q0 : (s.size : Int) ≤ 1000 := by omega
    go_wp2_with fail
    refine (new_log X).mono ?_
    rintro e X2 ⟨L, c, rfl, hlg, hb2⟩
    have H2 : Hid (LI w X.heap.size L c [] (.slice none 0 0) X2) := ⟨hlg.out, (fun j hj => absurd hj (Nat.not_lt_zero j)), below_tr HX.out.1 hb2, HX.out.1.size, hb2.size⟩
    clear hlg hb2
    obtain ⟨B, hB⟩ : ∃ B, X.heap.size = B := ⟨_, rfl⟩
    rw [hB] at H2
    clear hB HX
    go_wp2
    go_loopw [25] (fun u wr => ∃ (i : Nat) (es : List En) (vl : Value), u = iv (i : Int) ∧ Hid (i ≤ n ∧ LI w B L c es vl wr)) (fun u _ => n - (intOf u).toNat)
    case atStart => exact ⟨0, [], _, rfl, Nat.zero_le _, H2.out⟩
    case round =>
      obtain ⟨i, es, vl, rfl, HI⟩ := hrel
      clear H2
      by_cases hi : i = n
      · subst hi
        have HI2 : Hid (LI w B L c es vl wr ∧ KT wr ∧ ST wr) := ⟨HI.out.2, HK.out.1.below HI.out.2.2.2.1, HK.out.2.below HI.out.2.2.2.1⟩
        clear HI
        go_wp2_with fail
        refine (entries_is HI2.out.1.1).mono ?_
        rintro e W3 ⟨v7, rfl, ho7, hb3⟩
        obtain ⟨m, hm⟩ : ∃ m, es.length = m := ⟨_, rfl⟩
        have HM : Hid (es.length = m ∧ LI w B L c es vl W3 ∧ KT W3 ∧ ST W3) := ⟨hm, HI2.out.1.below hb3, HI2.out.2.1.below hb3, HI2.out.2.2.below hb3⟩
        have qm : (m : Int) ≤ 5000 := by have := HM.out.2.1.1.len; omega
        obtain ⟨D, hD⟩ : ∃ D, hdE es = D := ⟨_, rfl⟩
        have HD : Hid (hdE es = D) := hD
        clear hD
        clear hb3 HI2
        by_cases hm0 : m = 0
        · subst hm0
          obtain ⟨_, a7, c7, rfl, hle7, hcap7, hr7⟩ := ho7.out.esr
          rw [hm]
          have he0 : es = [] := List.length_eq_zero_iff.1 hm
          subst he0
          have HDR : Hid (D = List.replicate 32 0 ∧ D.length = 32) := ⟨HD.out.symm, by rw [← HD.out]; exact hdE_len _⟩
          have HB5 : Tryd.prog.built 35 [] = some (U D).toArray := by rw [HDR.out.1]; exact built35U
          clear ho7 hle7 hcap7 hr7 hm
          go_wp2_with fail
          refine (headL_is HM.out.2.1.1 HM.out.2.2.1 HM.out.2.2.2 _ HD.out).mono ?_
          rintro e W4 ⟨rfl, hb4⟩
          have H4 : Hid (Below W3.heap.size W3 W4) := hb4
          clear hb4
          have hq := fun W => (eqHb D D HDR.out.2 HDR.out.2 W).trans (by rw [decide_eq_true rfl])
          go_wp2_with (with_reducible change wpList _ _ _ ({ dst := some 45, op := _, type := _, pos := _, after := _, guard := _ } :: _) _ _; refine Hid.out ?_)
          show wpList _ _ _ _ _ _
          refine wpList_built rfl 35 _ rfl (U D).toArray (by rw [← HB5]; simp) ?_
          go_wp2_with (with_reducible change wpList _ _ _ ({ dst := some 48, op := _, type := _, pos := _, after := _, guard := _ } :: _) _ _; refine Hid.out ?_)
          show wpList _ _ _ _ _ _
          refine wpList_built_want rfl 35 _ rfl (U D).toArray (by rw [← HB5]; simp) ?_
          go_wp2_with fail
          refine (holds_is (w := W4) (EsR.nil W4) (by simp) (by simp) (HM.out.2.2.1.below H4.out) (HM.out.2.2.2.below H4.out) (Dh := D) HDR.out.2 true ⟨fun _ => ⟨(fun j hj => absurd hj (Nat.not_lt_zero j)), HD.out⟩, fun _ => rfl⟩).mono ?_
          rintro e W5 ⟨rfl, hb5⟩
          have H5 : Hid (Below W3.heap.size W3 W5) := below_tr H4.out hb5
          clear hb5
          go_wp2_with fail
          refine (lives_is W5 (HM.out.2.2.1.below H5.out) (HM.out.2.2.2.below H5.out)).mono ?_
          rintro e W6 ⟨rfl, hb6⟩
          have HF : Hid (Below w.heap.size w W6) := below_tr (below_tr HM.out.2.1.2.2.1 H5.out) hb6
          clear hb6
          go_wp2
          go_ret
          exact ⟨rfl, HF.out⟩
        · rcases ho7.out.1.2 with ⟨rfl, h0⟩ | ⟨g, cap7, cur, rfl, hB7, hbl7, hn7, hc7, hs7, ht7⟩
          · exact absurd (by rw [← hm]; exact h0) hm0
          rw [hm] at hn7 ⊢
          have qm0 : 0 < (m : Int) := by omega
          have hwr : IntKind.u64.wrap at_ = at_ % 18446744073709551616 := IntKind.wrap_u64 at_
          have hnn : 0 ≤ IntKind.u64.wrap at_ := by rw [hwr]; omega
          have htm : (IntKind.u64.wrap at_).tmod (m : Int) = (IntKind.u64.wrap at_) % (m : Int) := Int.tmod_eq_emod_of_nonneg hnn
          have hlo : 0 ≤ (IntKind.u64.wrap at_) % (m : Int) := Int.emod_nonneg _ (by omega)
          have hhi : (IntKind.u64.wrap at_) % (m : Int) < (m : Int) := Int.emod_lt_of_pos _ (by omega)
          obtain ⟨k, hP⟩ : ∃ P : Nat, (IntKind.u64.wrap at_).tmod (m : Int) = (P : Int) := ⟨((IntKind.u64.wrap at_) % (m : Int)).toNat, by rw [htm]; omega⟩
          have qk : (k : Int) < (m : Int) := by omega
          have qk2 : k < m := by omega
          clear hwr hnn htm hlo hhi
          obtain ⟨x, hx⟩ : ∃ x, es[k]? = some x := ⟨_, List.getElem?_eq_getElem (by omega)⟩
          obtain ⟨_, _, _, heq, _, _, hrr⟩ := ho7.out.esr
          rw [hm] at heq
          cases heq
          obtain ⟨g', off', hgo, hgl, hrow⟩ := hrr (by omega)
          cases hgo
          have hxm := List.mem_of_getElem? hx
          have HR : Hid (es[k]? = some x ∧ x.ok ∧ x.sz ∧ W3.rangeAt g (0 + k * 36) x.cells ∧ g < W3.heap.size ∧ EsR W3 (.slice (some ⟨g, 0, none⟩) m cap7) es ∧ k < m) := ⟨hx, ho7.out.2 x hxm, HM.out.2.1.1.sz x hxm, hrow k x hx, hgl, by rw [← hm]; exact ho7.out.esr, qk2⟩
          have cw : W3.cell? ⟨g, k * 36 + 3, none⟩ = some (.string x.what) := by have := HR.out.2.2.2.1 3 (.string x.what) rfl; simpa using this
          clear hrow hgl hxm hx hrr hB7 hbl7 hn7 hc7 hs7 ht7 ho7 hm
          by_cases hw : x.what = s
          · subst hw
            go_wp2_with fail
            refine (headL_is HM.out.2.1.1 HM.out.2.2.1 HM.out.2.2.2 D HD.out).mono ?_
            rintro e W4 ⟨rfl, hb4⟩
            have H4 : Hid (Below W3.heap.size W3 W4) := hb4
            clear hb4
            go_wp2_with fail
            refine (holds_is (w := W4) (HR.out.2.2.2.2.2.1.below H4.out) HM.out.2.1.1.sz (by have := HM.out.2.1.1.len; omega) (HM.out.2.2.1.below H4.out) (HM.out.2.2.2.below H4.out) (Dh := D) (by rw [← HD.out]; exact hdE_len es) true ⟨fun _ => ⟨HM.out.2.1.2.1, HD.out⟩, fun _ => rfl⟩).mono ?_
            rintro e W5 ⟨rfl, hb5⟩
            have H5 : Hid (Below W3.heap.size W3 W5) := below_tr H4.out hb5
            clear hb5
            go_wp2_with fail
            refine (lives_is W5 (HM.out.2.2.1.below H5.out) (HM.out.2.2.2.below H5.out)).mono ?_
            rintro e W6 ⟨rfl, hb6⟩
            have HF : Hid (Below w.heap.size w W6) := below_tr (below_tr HM.out.2.1.2.2.1 H5.out) hb6
            clear hb6
            go_wp2
            go_ret
            exact ⟨rfl, HF.out⟩
          · have hwb : (x.what.toList == s.toList) = false := by rw [beq_eq_false_iff_ne]; intro h; exact hw (ba_ext (by rw [← toList_d, ← toList_d]; exact h))
            go_wp2_with fail
            refine (fresh_is HR.out.2.2.2.2.2.1 (by have := HM.out.2.1.1.len; omega)).mono ?_
            rintro e W4 ⟨v8, rfl, ho8, hb4⟩
            have H4 : Hid (Below W3.heap.size W3 W4) := hb4
            rcases ho8.out.1.2 with ⟨rfl, h0⟩ | ⟨p, cap8, cur8, rfl, hB8, hbl8, hn8, hc8, hs8, ht8⟩
            · exact absurd (by rw [← HM.out.1]; exact h0) hm0
            obtain ⟨_, _, _, heq, _, _, hrr⟩ := ho8.out.esr
            cases heq
            obtain ⟨g', off', hgo, hgl, hrow⟩ := hrr (by rw [HM.out.1]; omega)
            cases hgo
            have HP : Hid (Blk W4 p 37 cur8.toList ∧ (∀ i e, es[i]? = some e → W4.rangeAt p (0 + i * 36) e.cells) ∧ p < W4.heap.size ∧ W3.heap.size ≤ p ∧ es.length ≤ cap8 ∧ cap8 ≤ maxLen) := ⟨hbl8, hrow, hgl, hB8, hn8, hc8⟩
            have hcl : k * 36 + 3 < cur8.toList.length := by
              have := hrow k x HR.out.1 3 (.string x.what) rfl
              rw [cell_of_row W4 p _ _ 37 (0, 0) hbl8, Nat.zero_add] at this
              simpa using (Array.getElem?_eq_some_iff.1 this).1
            have HCL : Hid (k * 36 + 3 < cur8.toList.length) := hcl
            rw [HM.out.1]
            clear hb4 hrow hgl hrr hB8 hbl8 hn8 hc8 hs8 ht8 ho8 hcl cw
            go_wp2_with (with_reducible change wpList _ _ _ ({ dst := none, op := Op.store 9 _ _, type := _, pos := _, after := _, guard := _ } :: _) _ _; refine Hid.out ?_)
            show wpList _ _ _ _ _ _
            refine wpList_store1 rfl 9 (.tmp 81) (.tmp 79) rfl p (k * 36 + 3) 37 cur8.toList (.string s) rfl rfl HP.out.1 HCL.out (by kernel_rfl) rfl rfl ?_
            intro W5 hx5 hg5
            have H5 : Hid (Below W3.heap.size W3 W5 ∧ Blk W5 p 37 (cur8.toList.take (k * 36 + 3) ++ [.string s] ++ cur8.toList.drop (k * 36 + 3 + 1))) := ⟨below_gr H4.out hg5.out HP.out.2.2.2.1, hx5.out⟩
            clear hx5 hg5
            obtain ⟨y, hy⟩ : ∃ y, x.say s = y := ⟨_, rfl⟩
            have hrow := set_row HR.out.2.2.2.2.2.1.1 HP.out.1 HP.out.2.1 HR.out.1 H5.out.2
            rw [hy] at hrow
            have hsm := okAt_prev (HM.out.2.1.2.1 k (by rw [HM.out.1]; exact HR.out.2.2.2.2.2.2)) HR.out.1
            have hyk : y.ok := by rw [← hy]; exact ⟨HR.out.2.1.1, HR.out.2.1.2.1, HR.out.2.1.2.2.1, HR.out.2.1.2.2.2.1, by show s.size ≤ _; omega⟩
            have hyz : y.sz := by rw [← hy]; show x.who.size + s.size ≤ 400000000; have := hsm.2.1; omega
            have hlen : (es.set k y).length = m := by rw [List.length_set]; exact HM.out.1
            have hall : ∀ e ∈ es.set k y, e.ok ∧ e.sz := fun e he => by
              rcases List.mem_or_eq_of_mem_set he with h | h
              · exact ⟨HR.out.2.2.2.2.2.1.1 e h, HM.out.2.1.1.sz e h⟩
              · rw [h]; exact ⟨hyk, hyz⟩
            have HY : Hid (y.ok ∧ y.sz ∧ x.say s = y ∧ (∀ e ∈ es.set k y, e.sz) ∧ (es.set k y).length = m ∧ EsR W5 (.slice (some ⟨p, 0, none⟩) m cap8) (es.set k y) ∧ W5.rangeAt p (0 + k * 36) y.cells ∧ p < W5.heap.size) := by
              have hpl := H5.out.2.lt
              refine ⟨hyk, hyz, hy, fun e he => (hall e he).2, hlen, ⟨fun e he => (hall e he).1, some ⟨p, 0, none⟩, cap8, by rw [hlen], by rw [hlen]; have := HP.out.2.2.2.2.1; have := HM.out.1; omega, HP.out.2.2.2.2.2, fun _ => ⟨p, 0, rfl, hpl, hrow⟩⟩, hrow k y (by rw [List.getElem?_set_self (by rw [HM.out.1]; exact HR.out.2.2.2.2.2.2)]), hpl⟩
            obtain ⟨D1, hD1⟩ : ∃ D, dgE y = D := ⟨_, rfl⟩
            obtain ⟨D2, hD2⟩ : ∃ D, dgE x = D := ⟨_, rfl⟩
            obtain ⟨E, hE⟩ : ∃ E, decide (D1 = D2) = E := ⟨_, rfl⟩
            have HE : Hid (decide (D1 = D2) = E ∧ dgE y = D1 ∧ dgE x = D2 ∧ D1.length = 32 ∧ D2.length = 32) := ⟨hE, hD1, hD2, by rw [← hD1]; exact dgE_len y, by rw [← hD2]; exact dgE_len x⟩
            have HK5 : Hid (KT W5 ∧ ST W5) := ⟨HM.out.2.2.1.below H5.out.1, HM.out.2.2.2.below H5.out.1⟩
            have HXY : Hid (y.ok ∧ x.ok) := ⟨hyk, HR.out.2.1⟩
            have HRR : Hid (W5.rangeAt p (0 + k * 36) y.cells ∧ W5.rangeAt g (0 + k * 36) x.cells ∧ p < W5.heap.size ∧ g < W5.heap.size) := ⟨HY.out.2.2.2.2.2.2.1, rangeAt_same HR.out.2.2.2.1 (H5.out.1.block g HR.out.2.2.2.2.1), HY.out.2.2.2.2.2.2.2, Nat.lt_of_lt_of_le HR.out.2.2.2.2.1 H5.out.1.size⟩
            have HD1 : Hid (∀ V, Below W5.heap.size W5 V → Calls Tryd.prog 20 #[.agg y.cells.toArray] V fun e V2 => e = .returned (.agg (U D1).toArray) ∧ Below V.heap.size V V2) := fun V hV => digest_is y HXY.out.1 HY.out.2.1 D1 HE.out.2.1 V (HK5.out.1.below hV) (HK5.out.2.below hV)
            have HD2 : Hid (∀ V, Below W5.heap.size W5 V → Calls Tryd.prog 20 #[.agg x.cells.toArray] V fun e V2 => e = .returned (.agg (U D2).toArray) ∧ Below V.heap.size V V2) := fun V hV => digest_is x HXY.out.2 HR.out.2.2.1 D2 HE.out.2.2.1 V (HK5.out.1.below hV) (HK5.out.2.below hV)
            have HED : Hid (∀ W, (binOp .eql 35 (.agg (U D1).toArray) (.agg (U D2).toArray)).run Tryd.prog W = .ok (.bool E) W) := fun W => by rw [← HE.out.1]; exact eqHb D1 D2 HE.out.2.2.2.1 HE.out.2.2.2.2 W
            clear hrow hsm hyk hyz hlen hall hD1 hD2 hE hy
            go_wp2_with fail
            refine tn17 HXY HRR HD1 HD2 HED qk qk2 ?_
            intro V hV
            have HV : Hid (Below W3.heap.size W3 V ∧ Below W5.heap.size W5 V) := ⟨below_tr H5.out.1 hV, hV⟩
            clear hV HD1 HD2 HED
            cases E
            · go_wp2_with fail
              refine (headL_is (HM.out.2.1.1.below HV.out.1) (HM.out.2.2.1.below HV.out.1) (HM.out.2.2.2.below HV.out.1) D HD.out).mono ?_
              rintro e W6 ⟨rfl, hb6⟩
              have H6 : Hid (Below W3.heap.size W3 W6 ∧ Below W5.heap.size W5 W6) := ⟨below_tr HV.out.1 hb6, below_tr HV.out.2 hb6⟩
              clear hb6
              go_wp2_with fail
              refine (holds_is (w := W6) (HY.out.2.2.2.2.2.1.below H6.out.2) HY.out.2.2.2.1 (by rw [HY.out.2.2.2.2.1]; omega) (HM.out.2.2.1.below H6.out.1) (HM.out.2.2.2.below H6.out.1) (Dh := D) (by rw [← HD.out]; exact hdE_len es) false ⟨fun h => (nomatch h), fun h => ?_⟩).mono ?_
              · exfalso
                have hne : D1 ≠ D2 := of_decide_eq_false HE.out.1
                refine turned_not (s := s) HR.out.1 HM.out.2.1.2.1 ?_ ?_
                · rw [HY.out.2.2.1, HE.out.2.1, HE.out.2.2.1]; exact hne
                · rw [HY.out.2.2.1, HD.out]; exact h
              rintro e W7 ⟨rfl, hb7⟩
              have H7 : Hid (Below W3.heap.size W3 W7) := below_tr H6.out.1 hb7
              clear hb7
              go_wp2_with fail
              refine (lives_is W7 (HM.out.2.2.1.below H7.out) (HM.out.2.2.2.below H7.out)).mono ?_
              rintro e W8 ⟨rfl, hb8⟩
              have HF : Hid (Below w.heap.size w W8) := below_tr (below_tr HM.out.2.1.2.2.1 H7.out) hb8
              clear hb8
              go_wp2
              go_ret
              exact ⟨rfl, HF.out⟩
            · go_wp2_with fail
              refine (lives_is V (HM.out.2.2.1.below HV.out.1) (HM.out.2.2.2.below HV.out.1)).mono ?_
              rintro e W8 ⟨rfl, hb8⟩
              have HF : Hid (Below w.heap.size w W8) := below_tr (below_tr HM.out.2.1.2.2.1 HV.out.1) hb8
              clear hb8
              go_wp2
              go_ret
              exact ⟨rfl, HF.out⟩
      · have hlt : i < n := by have := HI.out.1; omega
        have q1 : (i : Int) < (n : Int) := by omega
        obtain ⟨x, hx⟩ : ∃ x, l[i]? = some x := ⟨_, List.getElem?_eq_getElem (by rw [HA.out.1]; exact hlt)⟩
        obtain ⟨b, off, rfl, hb, hel⟩ := HA.out.2.2.2 (by omega)
        have hok := HA.out.2.2.1 x (List.mem_of_getElem? hx)
        have HX : Hid (wr.rangeAt b (off + i * 4) x.cells ∧ i < n ∧ x.ok) := ⟨rangeAt_same (hel i x hx) (HI.out.2.2.2.1.block b hb), hlt, hok⟩
        obtain ⟨g6, hg6⟩ : ∃ g, wr.heap.size = g := ⟨_, rfl⟩
        have HG6 : Hid (wr.heap.size = g6) := hg6
        clear hi hlt hx hel hb hok
        go_wp2_with (with_reducible change wpList _ _ _ ({ dst := some 28, op := _, type := _, pos := _, after := _, guard := _ } :: _) _ _; refine Hid.out ?_)
        show wpList _ _ _ _ _ _
        refine wpList_load_mid rfl 29 (.tmp 27) rfl b (off + i * 4) rfl x.cells _ HX.out.1 Tryd.underlying29 rfl (size29 x) ?_
        go_wp2_with (with_reducible change wpList _ _ _ ({ dst := none, op := Op.store 29 _ _, type := _, pos := _, after := _, guard := _ } :: _) _ _; refine Hid.out ?_)
        show wpList _ _ _ _ _ _
        refine wpList_store_blk rfl 29 (.tmp 9) (.tmp 28) rfl g6 0 29 Z x.cells rfl rfl (by rw [← HG6.out]; exact Blk.new wr _ _) (by rw [HZ.out]; exact Nat.le_refl _) (size29 x) x.one ?_
        intro W1 hx1 hg1
        have H1 : Hid (LI w B L c es vl W1 ∧ Blk W1 g6 29 x.cells ∧ KT W1 ∧ ST W1) := by
          have hb1 : Below wr.heap.size wr W1 := below_gr (below_al wr _) hg1.out (by rw [HG6.out]; exact Nat.le_refl _)
          have h := HI.out.2.below hb1
          exact ⟨h, blk_all hx1.out (by rw [HZ.out]; rfl), HK.out.1.below h.2.2.1, HK.out.2.below h.2.2.1⟩
        have c0 : W1.cell? ⟨g6, 0, none⟩ = some (iv x.tick) := H1.out.2.1.cell rfl
        have c1 : W1.cell? ⟨g6, 1, none⟩ = some (.string x.who) := H1.out.2.1.cell rfl
        have c2 : W1.cell? ⟨g6, 2, none⟩ = some (.string x.what) := H1.out.2.1.cell rfl
        clear hx1 hg1 hg6
        go_wp2_with fail
        refine (append_is H1.out.1.1 H1.out.2.2.1 H1.out.2.2.2 H1.out.1.2.2.2.2 x.tick x.who x.what HX.out.2.2.2.1 HX.out.2.2.2.2 HX.out.2.2.1.2).mono ?_
        intro e W2 hap
        have he := hap.1
        subst he
        obtain ⟨vl2, hj⟩ := H1.out.1.app hap
        have HJ : Hid (i + 1 ≤ n ∧ LI w B L c (lA es (nxE es x.tick x.who x.what)) vl2 W2) := ⟨HX.out.2.1, hj⟩
        clear hap hj c0 c1 c2
        dsimp only
        go_wp2
        go_roundw
        case rel => exact ⟨i + 1, _, vl2, rfl, HJ.out⟩
        case measure => show n - (i + 1) < n - i; have := HX.out.2.1; omega
  · cases b
    · go_wp2_with fail
      refine (lives_is X HX.out.2.1 HX.out.2.2).mono ?_
      rintro e X2 ⟨rfl, hb2⟩
      have HF : Hid (Below w.heap.size w X2) := below_tr HX.out.1 hb2
      clear hb2
      go_wp2
      go_ret
      exact ⟨rfl, HF.out⟩
    · have q0 : 1000 < (s.size : Int) := by
        have : ¬ s.size ≤ 1000 := fun h => hgo ⟨rfl, h⟩
        omega
      clear hgo
      go_wp2_with fail
      refine (lives_is X HX.out.2.1 HX.out.2.2).mono ?_
      rintro e X2 ⟨rfl, hb2⟩
      have HF : Hid (Below w.heap.size w X2) := below_tr HX.out.1 hb2
      clear hb2
      go_wp2
      go_ret
      exact ⟨rfl, HF.out⟩
end Go.Proofs.YtmmpafaegmejlaaDoor.Oct

/- Layer 19 (audit): the reference's Digest: its drawn regions. -/
namespace Go.Proofs.YtmmpafaegmejlaaDoor.Oct
open Go.RowKit Sha
set_option linter.unusedSimpArgs false
set_option linter.unusedVariables false

theorem from0_is (x S : Int) (hS : max x 0 = S) (h : x ≤ 9223372036854775807) (w : World) : Calls Tryd.prog 34 #[iv x] w fun e w' => e = .returned (.int .u64 S) ∧ w = w' := by
  by_cases hx : x < 0
  · obtain rfl : S = 0 := by omega
    go_enter Tryd.func34, Tryd.ntmps34
    go_wp2
    go_ret
    exact ⟨rfl, rfl⟩
  · obtain rfl : S = x := by omega
    have q1 : 0 ≤ S := by omega
    clear hx hS
    go_enter Tryd.func34, Tryd.ntmps34
    go_wp2
    go_ret
    exact ⟨rfl, rfl⟩
/-- bytes that a call made -/
def Mk (w w' : World) (e : Ending) (m : Nat) (L : List UInt8) : Prop :=
  ∃ g c, e = .returned (.slice (some ⟨g, 0, none⟩) m c) ∧ Hid (In w' (some ⟨g, 0, none⟩) m c L ∧ w'.ownsRow w.heap.size 5 1 (.slice (some ⟨g, 0, none⟩) m c) m (U L)) ∧ Below w.heap.size w w'
theorem mk_own {w w' : World} {v : Value} {m : Nat} {L : List UInt8} (hm : L.length = m) (hp : 0 < m) (hm2 : m ≤ 140737488355328) (ho : Own 5 w.heap.size w' v L) (hb : Below w.heap.size w w') : Mk w w' (.returned v) m L := by
  obtain ⟨g, c, rfl, _⟩ := ho.shape (by omega)
  have hi := ho.toIn (by omega)
  have hr := own_size hm ho
  rw [hm] at hi hr ⊢
  exact ⟨g, c, rfl, ⟨hi, hr⟩, hb⟩
theorem enc_len_pos (n : Nat) : 0 < (enc n).length := by
  exact enc_pos n
theorem refPutN {a : Option Addr} {len cap : Nat} {l : List UInt8} (n : Int) {w : World} (hin : In w a len cap l) (h0 : 0 ≤ n) (h1 : n ≤ 18446744073709551615) (hl : len ≤ 1000000) (L : List UInt8) (hL : l ++ enc n.toNat = L) (m : Nat) (hm : L.length = m) :
    Calls Tryd.prog 33 #[.slice a len cap, .int .u64 n] w fun e w' => Mk w w' e m L := by
  refine (refPut a len cap l n w hin h0 h1 hl).mono ?_
  rintro e w' ⟨v, rfl, ho, hb⟩
  rw [hL] at ho
  have hz : m = len + (enc n.toNat).length := by rw [← hm, ← hL, List.length_append, hin.1]
  have := enc_len_pos n.toNat
  have h2 := enc_le n.toNat (by omega)
  exact mk_own hm (by omega) (by omega) ho hb
theorem refTextN {a : Option Addr} {len cap : Nat} {l : List UInt8} (s : ByteArray) {w : World} (hin : In w a len cap l) (hl : len + s.size ≤ 1000000) (L : List UInt8) (hL : l ++ enc s.size ++ s.data.toList = L) (m : Nat) (hm : L.length = m) :
    Calls Tryd.prog 35 #[.slice a len cap, .string s] w fun e w' => Mk w w' e m L := by
  refine (refPutText a len cap l s w hin hl).mono ?_
  rintro e w' ⟨v, rfl, ho, hb⟩
  rw [hL] at ho
  have hz : m = len + (enc s.size).length + s.size := by rw [← hm, ← hL, List.length_append, List.length_append, hin.1]; rfl
  have := enc_len_pos s.size
  have h2 := enc_le s.size (by omega)
  exact mk_own hm (by omega) (by omega) ho hb
set_option maxRecDepth 100000 in
set_option maxHeartbeats 4000000 in
theorem rd1 {Q : Exit → Act → World → Prop} {x0 x2 x3 x4 x5 x6 x7 x8 x9 x10 x11 x12 x13 x14 x15 x16 x17 x18 x19 x20 x21 x22 x23 : Value} {ds : List Deferred} {A : World} {b n1 n2 : Nat} {sq tk S T : Int} {l1 l2 : List UInt8}
    (HL : Hid (b < A.heap.size)) (k0 : A.cell? ⟨b, 0, none⟩ = some (iv sq)) (k1 : A.cell? ⟨b, 1, none⟩ = some (iv tk)) (HF1 : Hid (∀ V, Calls Tryd.prog 34 #[iv sq] V fun e V2 => e = .returned (.int .u64 S) ∧ V = V2)) (HF2 : Hid (∀ V, Calls Tryd.prog 34 #[iv tk] V fun e V2 => e = .returned (.int .u64 T) ∧ V = V2)) (HP1 : Hid (∀ V, Calls Tryd.prog 33 #[.slice none 0 0, .int .u64 S] V fun e V2 => Mk V V2 e n1 l1)) (HP2 : Hid (∀ V g c, In V (some ⟨g, 0, none⟩) n1 c l1 → Calls Tryd.prog 33 #[.slice (some ⟨g, 0, none⟩) n1 c, .int .u64 T] V fun e V2 => Mk V V2 e n2 l2))
    (hQ : ∀ V1 g1 c1 g2 c2, Below A.heap.size A V1 → In V1 (some ⟨g2, 0, none⟩) n2 c2 l2 → Q .normal { tmps := #[x0, .pointer (some ⟨b, 0, none⟩), x2, .slice (some ⟨g2, 0, none⟩) n2 c2, .pointer (some ⟨b, 0, none⟩), iv sq, .int .u64 S, .slice (some ⟨g1, 0, none⟩) n1 c1, .pointer (some ⟨b, 1, none⟩), iv tk, .int .u64 T, .slice (some ⟨g2, 0, none⟩) n2 c2, x12, x13, x14, x15, x16, x17, x18, x19, x20, x21, x22, x23], defers := ds } V1) :
    (Code.region 1 #[{ dst := some 4, op := Op.fieldAddr 37 (Operand.tmp 1) 0, type := 0, pos := "ref.go:31", after := #[], guard := none }, { dst := some 5, op := Op.load 3 (Operand.tmp 4), type := 3, pos := "ref.go:31", after := #[{ on := 0, ground := Ground.data }], guard := none }, { dst := some 6, op := Op.call { callee := Callee.value (Operand.func 34), args := #[Operand.tmp 5], argTypes := #[3] }, type := 62, pos := "ref.go:31", after := #[{ on := 1, ground := Ground.data }], guard := none }, { dst := some 7, op := Op.call { callee := Callee.value (Operand.func 33), args := #[Operand.const (Value.slice none 0 0), Operand.tmp 6], argTypes := #[60, 62] }, type := 60, pos := "ref.go:31", after := #[{ on := 2, ground := Ground.data }, { on := 2, ground := Ground.chain }], guard := none }, { dst := some 8, op := Op.fieldAddr 37 (Operand.tmp 1) 1, type := 0, pos := "ref.go:31", after := #[], guard := none }, { dst := some 9, op := Op.load 3 (Operand.tmp 8), type := 3, pos := "ref.go:31", after := #[{ on := 4, ground := Ground.data }], guard := none }, { dst := some 10, op := Op.call { callee := Callee.value (Operand.func 34), args := #[Operand.tmp 9], argTypes := #[3] }, type := 62, pos := "ref.go:31", after := #[{ on := 5, ground := Ground.data }, { on := 3, ground := Ground.chain }], guard := none }, { dst := some 11, op := Op.call { callee := Callee.value (Operand.func 33), args := #[Operand.tmp 7, Operand.tmp 10], argTypes := #[60, 62] }, type := 60, pos := "ref.go:31", after := #[{ on := 3, ground := Ground.data }, { on := 6, ground := Ground.data }, { on := 6, ground := Ground.chain }], guard := none }, { dst := some 3, op := Op.assign (Operand.tmp 11), type := 60, pos := "ref.go:31", after := #[{ on := 7, ground := Ground.data }, { on := 7, ground := Ground.chain }, { on := 0, ground := Ground.phase }, { on := 1, ground := Ground.phase }, { on := 2, ground := Ground.phase }, { on := 3, ground := Ground.phase }, { on := 4, ground := Ground.phase }, { on := 5, ground := Ground.phase }, { on := 6, ground := Ground.phase }, { on := 7, ground := Ground.phase }], guard := none }] true).wp Tryd.prog Q { tmps := #[x0, .pointer (some ⟨b, 0, none⟩), x2, x3, x4, x5, x6, x7, x8, x9, x10, x11, x12, x13, x14, x15, x16, x17, x18, x19, x20, x21, x22, x23], defers := ds } A := by
  refine Code.wp_mono (Q := fun x a' w' => match x with | .normal => Q .normal a' w' | _ => False) (by intro x a' w' h; cases x <;> first | exact h | exact h.elim) ?_
  refine wp_region_held (S := fun V => Below A.heap.size A V) (by kernel_rfl) ?_
  have hS0 : Hid (Below A.heap.size A A.drew) := below_drew0 A
  change wpAnyH Tryd.prog .any _ _ (fun V => Below A.heap.size A V) 9 (Array.replicate 9 false) _ A.drew
  obtain ⟨V0, hV0⟩ : ∃ V0, A.drew = V0 := ⟨_, rfl⟩
  rw [hV0]
  rw [hV0] at hS0
  clear hV0
  refine wpAnyH_take (i := 0) (oi := { dst := some 4, op := Op.fieldAddr 37 (Operand.tmp 1) 0, type := 0, pos := "ref.go:31", after := #[], guard := none }) (v := .pointer (some ⟨b, 0, none⟩)) rfl (by kernel_rfl) (by kernel_rfl) (by kernel_rfl) (fun _ _ _ h => h.elim) (Or.inl ⟨by rfl, ?y1⟩) hS0.out ?_
  case y1 =>
    intro V hV
    go_simp
  simp only [Act.put, List.setIfInBounds_toArray, List.set_cons_zero, List.set_cons_succ]
  refine wpAnyH_take (i := 1) (oi := { dst := some 5, op := Op.load 3 (Operand.tmp 4), type := 3, pos := "ref.go:31", after := #[{ on := 0, ground := Ground.data }], guard := none }) (v := iv sq) rfl (by kernel_rfl) (by kernel_rfl) (by kernel_rfl) (fun _ _ _ h => h.elim) (Or.inl ⟨by rfl, ?y2⟩) hS0.out ?_
  case y2 =>
    intro V hV
    have hc : V.cell? ⟨b, 0, none⟩ = some (iv sq) := ((show Below A.heap.size A V from hV).cell (p := ⟨b, 0, none⟩) HL.out).trans k0
    go_simp
  simp only [Act.put, List.setIfInBounds_toArray, List.set_cons_zero, List.set_cons_succ]
  refine wpAnyH_take (i := 4) (oi := { dst := some 8, op := Op.fieldAddr 37 (Operand.tmp 1) 1, type := 0, pos := "ref.go:31", after := #[], guard := none }) (v := .pointer (some ⟨b, 1, none⟩)) rfl (by kernel_rfl) (by kernel_rfl) (by kernel_rfl) (fun _ _ _ h => h.elim) (Or.inl ⟨by rfl, ?y3⟩) hS0.out ?_
  case y3 =>
    intro V hV
    go_simp
  simp only [Act.put, List.setIfInBounds_toArray, List.set_cons_zero, List.set_cons_succ]
  refine wpAnyH_take (i := 5) (oi := { dst := some 9, op := Op.load 3 (Operand.tmp 8), type := 3, pos := "ref.go:31", after := #[{ on := 4, ground := Ground.data }], guard := none }) (v := iv tk) rfl (by kernel_rfl) (by kernel_rfl) (by kernel_rfl) (fun _ _ _ h => h.elim) (Or.inl ⟨by rfl, ?y4⟩) hS0.out ?_
  case y4 =>
    intro V hV
    have hc : V.cell? ⟨b, 1, none⟩ = some (iv tk) := ((show Below A.heap.size A V from hV).cell (p := ⟨b, 1, none⟩) HL.out).trans k1
    go_simp
  simp only [Act.put, List.setIfInBounds_toArray, List.set_cons_zero, List.set_cons_succ]
  refine wpAnyH_ready (rs := [2]) (by kernel_rfl) (by simp) (AllReadyH.cons (i := 2) (o := { dst := some 6, op := Op.call { callee := Callee.value (Operand.func 34), args := #[Operand.tmp 5], argTypes := #[3] }, type := 62, pos := "ref.go:31", after := #[{ on := 1, ground := Ground.data }], guard := none }) rfl ?_ AllReadyH.nil)
  · intro K1 hK1
    rw [if_pos (by rfl)]
    have HC1 := HF1.out V0
    go_wp2_with fail
    refine HC1.mono ?_
    rintro e V1 ⟨rfl, rfl⟩
    dsimp only
    clear HC1
    refine hK1.out _ _ hS0.out ?_
    clear hK1
    intro _
    try simp only [Act.put, List.setIfInBounds_toArray, List.set_cons_zero, List.set_cons_succ]
    refine wpAnyH_ready (rs := [3]) (by kernel_rfl) (by simp) (AllReadyH.cons (i := 3) (o := { dst := some 7, op := Op.call { callee := Callee.value (Operand.func 33), args := #[Operand.const (Value.slice none 0 0), Operand.tmp 6], argTypes := #[60, 62] }, type := 60, pos := "ref.go:31", after := #[{ on := 2, ground := Ground.data }, { on := 2, ground := Ground.chain }], guard := none }) rfl ?_ AllReadyH.nil)
    · intro K1 hK1
      rw [if_pos (by rfl)]
      have HC2 := HP1.out V0 
      go_wp2_with fail
      refine HC2.mono ?_
      rintro e V2 ⟨g1, c1, rfl, hI1, hb2⟩
      dsimp only
      clear HC2
      have hS2 : Hid (Below A.heap.size A V2) := hS0.out.trans (hb2.mono hS0.out.size)
      have hO1 : Hid (A.heap.size ≤ V0.heap.size) := hS0.out.size
      clear hb2
      refine hK1.out _ _ hS2.out ?_
      clear hK1
      intro _
      try simp only [Act.put, List.setIfInBounds_toArray, List.set_cons_zero, List.set_cons_succ]
      refine wpAnyH_ready (rs := [6]) (by kernel_rfl) (by simp) (AllReadyH.cons (i := 6) (o := { dst := some 10, op := Op.call { callee := Callee.value (Operand.func 34), args := #[Operand.tmp 9], argTypes := #[3] }, type := 62, pos := "ref.go:31", after := #[{ on := 5, ground := Ground.data }, { on := 3, ground := Ground.chain }], guard := none }) rfl ?_ AllReadyH.nil)
      · intro K1 hK1
        rw [if_pos (by rfl)]
        have HC3 := HF2.out V2
        go_wp2_with fail
        refine HC3.mono ?_
        rintro e V3 ⟨rfl, rfl⟩
        dsimp only
        clear HC3
        refine hK1.out _ _ hS2.out ?_
        clear hK1
        intro _
        try simp only [Act.put, List.setIfInBounds_toArray, List.set_cons_zero, List.set_cons_succ]
        refine wpAnyH_ready (rs := [7]) (by kernel_rfl) (by simp) (AllReadyH.cons (i := 7) (o := { dst := some 11, op := Op.call { callee := Callee.value (Operand.func 33), args := #[Operand.tmp 7, Operand.tmp 10], argTypes := #[60, 62] }, type := 60, pos := "ref.go:31", after := #[{ on := 3, ground := Ground.data }, { on := 6, ground := Ground.data }, { on := 6, ground := Ground.chain }], guard := none }) rfl ?_ AllReadyH.nil)
        · intro K1 hK1
          rw [if_pos (by rfl)]
          have HC4 := HP2.out V2 _ _ hI1.out.1
          go_wp2_with fail
          refine HC4.mono ?_
          rintro e V4 ⟨g2, c2, rfl, hI2, hb4⟩
          dsimp only
          clear HC4
          have hS4 : Hid (Below A.heap.size A V4) := hS2.out.trans (hb4.mono hS2.out.size)
          have hO2 : Hid (A.heap.size ≤ V2.heap.size) := hS2.out.size
          clear hb4
          refine hK1.out _ _ hS4.out ?_
          clear hK1
          intro _
          try simp only [Act.put, List.setIfInBounds_toArray, List.set_cons_zero, List.set_cons_succ]
          refine wpAnyH_take (i := 8) (oi := { dst := some 3, op := Op.assign (Operand.tmp 11), type := 60, pos := "ref.go:31", after := #[{ on := 7, ground := Ground.data }, { on := 7, ground := Ground.chain }, { on := 0, ground := Ground.phase }, { on := 1, ground := Ground.phase }, { on := 2, ground := Ground.phase }, { on := 3, ground := Ground.phase }, { on := 4, ground := Ground.phase }, { on := 5, ground := Ground.phase }, { on := 6, ground := Ground.phase }, { on := 7, ground := Ground.phase }], guard := none }) (v := .slice (some ⟨g2, 0, none⟩) n2 c2) rfl (by kernel_rfl) (by kernel_rfl) (by kernel_rfl) (fun _ _ _ h => h.elim) (Or.inl ⟨by rfl, ?y5⟩) hS4.out ?_
          case y5 =>
            intro V hV
            go_simp
          simp only [Act.put, List.setIfInBounds_toArray, List.set_cons_zero, List.set_cons_succ]
          refine wpAnyH_done (by kernel_rfl) ?_ _
          exact hQ V4 _ _ _ _ hS4.out hI2.out.1
set_option maxRecDepth 100000 in
set_option maxHeartbeats 4000000 in
theorem rd2 {Q : Exit → Act → World → Prop} {x0 x2 x4 x5 x6 x7 x8 x9 x10 x11 x12 x13 x14 x15 x16 x17 x18 x19 x20 x21 x22 x23 : Value} {ds : List Deferred} {A : World} {b g2 c2 n2 n3 n4 : Nat} {wo wa : ByteArray} {l2 l3 l4 : List UInt8}
    (HL : Hid (b < A.heap.size)) (k2 : A.cell? ⟨b, 2, none⟩ = some (.string wo)) (k3 : A.cell? ⟨b, 3, none⟩ = some (.string wa)) (HI : Hid (In A (some ⟨g2, 0, none⟩) n2 c2 l2)) (HT1 : Hid (∀ V g c, In V (some ⟨g, 0, none⟩) n2 c l2 → Calls Tryd.prog 35 #[.slice (some ⟨g, 0, none⟩) n2 c, .string wo] V fun e V2 => Mk V V2 e n3 l3)) (HT2 : Hid (∀ V g c, In V (some ⟨g, 0, none⟩) n3 c l3 → Calls Tryd.prog 35 #[.slice (some ⟨g, 0, none⟩) n3 c, .string wa] V fun e V2 => Mk V V2 e n4 l4))
    (hQ : ∀ (V1 V0 : World) (g3 c3 g4 c4 : Nat), Below A.heap.size A V1 → V1.ownsRow V0.heap.size 5 1 (.slice (some ⟨g4, 0, none⟩) n4 c4) n4 (U l4) → A.heap.size ≤ V0.heap.size → Q .normal { tmps := #[x0, .pointer (some ⟨b, 0, none⟩), x2, .slice (some ⟨g4, 0, none⟩) n4 c4, x4, x5, x6, x7, x8, x9, x10, x11, .slice (some ⟨g2, 0, none⟩) n2 c2, .pointer (some ⟨b, 2, none⟩), .string wo, .slice (some ⟨g3, 0, none⟩) n3 c3, .pointer (some ⟨b, 3, none⟩), .string wa, .slice (some ⟨g4, 0, none⟩) n4 c4, x19, x20, x21, x22, x23], defers := ds } V1) :
    (Code.region 2 #[{ dst := some 12, op := Op.move (Operand.tmp 3), type := 60, pos := "ref.go:32", after := #[], guard := none }, { dst := some 13, op := Op.fieldAddr 37 (Operand.tmp 1) 2, type := 0, pos := "ref.go:32", after := #[], guard := none }, { dst := some 14, op := Op.load 9 (Operand.tmp 13), type := 9, pos := "ref.go:32", after := #[{ on := 1, ground := Ground.data }], guard := none }, { dst := some 15, op := Op.call { callee := Callee.value (Operand.func 35), args := #[Operand.tmp 12, Operand.tmp 14], argTypes := #[60, 9] }, type := 60, pos := "ref.go:32", after := #[{ on := 0, ground := Ground.data }, { on := 2, ground := Ground.data }], guard := none }, { dst := some 16, op := Op.fieldAddr 37 (Operand.tmp 1) 3, type := 0, pos := "ref.go:32", after := #[], guard := none }, { dst := some 17, op := Op.load 9 (Operand.tmp 16), type := 9, pos := "ref.go:32", after := #[{ on := 4, ground := Ground.data }], guard := none }, { dst := some 18, op := Op.call { callee := Callee.value (Operand.func 35), args := #[Operand.tmp 15, Operand.tmp 17], argTypes := #[60, 9] }, type := 60, pos := "ref.go:32", after := #[{ on := 3, ground := Ground.data }, { on := 5, ground := Ground.data }, { on := 3, ground := Ground.chain }], guard := none }, { dst := some 3, op := Op.assign (Operand.tmp 18), type := 60, pos := "ref.go:32", after := #[{ on := 6, ground := Ground.data }, { on := 6, ground := Ground.chain }, { on := 0, ground := Ground.phase }, { on := 1, ground := Ground.phase }, { on := 2, ground := Ground.phase }, { on := 3, ground := Ground.phase }, { on := 4, ground := Ground.phase }, { on := 5, ground := Ground.phase }, { on := 6, ground := Ground.phase }], guard := none }] true).wp Tryd.prog Q { tmps := #[x0, .pointer (some ⟨b, 0, none⟩), x2, .slice (some ⟨g2, 0, none⟩) n2 c2, x4, x5, x6, x7, x8, x9, x10, x11, x12, x13, x14, x15, x16, x17, x18, x19, x20, x21, x22, x23], defers := ds } A := by
  refine Code.wp_mono (Q := fun x a' w' => match x with | .normal => Q .normal a' w' | _ => False) (by intro x a' w' h; cases x <;> first | exact h | exact h.elim) ?_
  refine wp_region_held (S := fun V => Below A.heap.size A V) (by kernel_rfl) ?_
  have hS0 : Hid (Below A.heap.size A A.drew) := below_drew0 A
  change wpAnyH Tryd.prog .any _ _ (fun V => Below A.heap.size A V) 8 (Array.replicate 8 false) _ A.drew
  obtain ⟨V0, hV0⟩ : ∃ V0, A.drew = V0 := ⟨_, rfl⟩
  rw [hV0]
  rw [hV0] at hS0
  clear hV0
  refine wpAnyH_take (i := 0) (oi := { dst := some 12, op := Op.move (Operand.tmp 3), type := 60, pos := "ref.go:32", after := #[], guard := none }) (v := .slice (some ⟨g2, 0, none⟩) n2 c2) rfl (by kernel_rfl) (by kernel_rfl) (by kernel_rfl) (fun _ _ _ h => h.elim) (Or.inl ⟨by rfl, ?y1⟩) hS0.out ?_
  case y1 =>
    intro V hV
    go_simp
  simp only [Act.put, List.setIfInBounds_toArray, List.set_cons_zero, List.set_cons_succ]
  refine wpAnyH_take (i := 1) (oi := { dst := some 13, op := Op.fieldAddr 37 (Operand.tmp 1) 2, type := 0, pos := "ref.go:32", after := #[], guard := none }) (v := .pointer (some ⟨b, 2, none⟩)) rfl (by kernel_rfl) (by kernel_rfl) (by kernel_rfl) (fun _ _ _ h => h.elim) (Or.inl ⟨by rfl, ?y2⟩) hS0.out ?_
  case y2 =>
    intro V hV
    go_simp
  simp only [Act.put, List.setIfInBounds_toArray, List.set_cons_zero, List.set_cons_succ]
  refine wpAnyH_take (i := 2) (oi := { dst := some 14, op := Op.load 9 (Operand.tmp 13), type := 9, pos := "ref.go:32", after := #[{ on := 1, ground := Ground.data }], guard := none }) (v := .string wo) rfl (by kernel_rfl) (by kernel_rfl) (by kernel_rfl) (fun _ _ _ h => h.elim) (Or.inl ⟨by rfl, ?y3⟩) hS0.out ?_
  case y3 =>
    intro V hV
    have hc : V.cell? ⟨b, 2, none⟩ = some (.string wo) := ((show Below A.heap.size A V from hV).cell (p := ⟨b, 2, none⟩) HL.out).trans k2
    go_simp
  simp only [Act.put, List.setIfInBounds_toArray, List.set_cons_zero, List.set_cons_succ]
  refine wpAnyH_take (i := 4) (oi := { dst := some 16, op := Op.fieldAddr 37 (Operand.tmp 1) 3, type := 0, pos := "ref.go:32", after := #[], guard := none }) (v := .pointer (some ⟨b, 3, none⟩)) rfl (by kernel_rfl) (by kernel_rfl) (by kernel_rfl) (fun _ _ _ h => h.elim) (Or.inl ⟨by rfl, ?y4⟩) hS0.out ?_
  case y4 =>
    intro V hV
    go_simp
  simp only [Act.put, List.setIfInBounds_toArray, List.set_cons_zero, List.set_cons_succ]
  refine wpAnyH_take (i := 5) (oi := { dst := some 17, op := Op.load 9 (Operand.tmp 16), type := 9, pos := "ref.go:32", after := #[{ on := 4, ground := Ground.data }], guard := none }) (v := .string wa) rfl (by kernel_rfl) (by kernel_rfl) (by kernel_rfl) (fun _ _ _ h => h.elim) (Or.inl ⟨by rfl, ?y5⟩) hS0.out ?_
  case y5 =>
    intro V hV
    have hc : V.cell? ⟨b, 3, none⟩ = some (.string wa) := ((show Below A.heap.size A V from hV).cell (p := ⟨b, 3, none⟩) HL.out).trans k3
    go_simp
  simp only [Act.put, List.setIfInBounds_toArray, List.set_cons_zero, List.set_cons_succ]
  refine wpAnyH_ready (rs := [3]) (by kernel_rfl) (by simp) (AllReadyH.cons (i := 3) (o := { dst := some 15, op := Op.call { callee := Callee.value (Operand.func 35), args := #[Operand.tmp 12, Operand.tmp 14], argTypes := #[60, 9] }, type := 60, pos := "ref.go:32", after := #[{ on := 0, ground := Ground.data }, { on := 2, ground := Ground.data }], guard := none }) rfl ?_ AllReadyH.nil)
  · intro K1 hK1
    rw [if_pos (by rfl)]
    have HC1 := HT1.out V0 _ _ (HI.out.below hS0.out)
    go_wp2_with fail
    refine HC1.mono ?_
    rintro e V1 ⟨g3, c3, rfl, hI3, hb1⟩
    dsimp only
    clear HC1
    have hS1 : Hid (Below A.heap.size A V1) := hS0.out.trans (hb1.mono hS0.out.size)
    have hO3 : Hid (A.heap.size ≤ V0.heap.size) := hS0.out.size
    clear hb1
    refine hK1.out _ _ hS1.out ?_
    clear hK1
    intro _
    try simp only [Act.put, List.setIfInBounds_toArray, List.set_cons_zero, List.set_cons_succ]
    refine wpAnyH_ready (rs := [6]) (by kernel_rfl) (by simp) (AllReadyH.cons (i := 6) (o := { dst := some 18, op := Op.call { callee := Callee.value (Operand.func 35), args := #[Operand.tmp 15, Operand.tmp 17], argTypes := #[60, 9] }, type := 60, pos := "ref.go:32", after := #[{ on := 3, ground := Ground.data }, { on := 5, ground := Ground.data }, { on := 3, ground := Ground.chain }], guard := none }) rfl ?_ AllReadyH.nil)
    · intro K1 hK1
      rw [if_pos (by rfl)]
      have HC2 := HT2.out V1 _ _ hI3.out.1
      go_wp2_with fail
      refine HC2.mono ?_
      rintro e V2 ⟨g4, c4, rfl, hI4, hb2⟩
      dsimp only
      clear HC2
      have hS2 : Hid (Below A.heap.size A V2) := hS1.out.trans (hb2.mono hS1.out.size)
      have hO4 : Hid (A.heap.size ≤ V1.heap.size) := hS1.out.size
      clear hb2
      refine hK1.out _ _ hS2.out ?_
      clear hK1
      intro _
      try simp only [Act.put, List.setIfInBounds_toArray, List.set_cons_zero, List.set_cons_succ]
      refine wpAnyH_take (i := 7) (oi := { dst := some 3, op := Op.assign (Operand.tmp 18), type := 60, pos := "ref.go:32", after := #[{ on := 6, ground := Ground.data }, { on := 6, ground := Ground.chain }, { on := 0, ground := Ground.phase }, { on := 1, ground := Ground.phase }, { on := 2, ground := Ground.phase }, { on := 3, ground := Ground.phase }, { on := 4, ground := Ground.phase }, { on := 5, ground := Ground.phase }, { on := 6, ground := Ground.phase }], guard := none }) (v := .slice (some ⟨g4, 0, none⟩) n4 c4) rfl (by kernel_rfl) (by kernel_rfl) (by kernel_rfl) (fun _ _ _ h => h.elim) (Or.inl ⟨by rfl, ?y6⟩) hS2.out ?_
      case y6 =>
        intro V hV
        go_simp
      simp only [Act.put, List.setIfInBounds_toArray, List.set_cons_zero, List.set_cons_succ]
      refine wpAnyH_done (by kernel_rfl) ?_ _
      exact hQ V2 V1 _ _ _ _ hS2.out hI4.out.2 hO4.out
end Go.Proofs.YtmmpafaegmejlaaDoor.Oct

/- Layer 19 (audit): the reference's Digest and Head. -/
namespace Go.Proofs.YtmmpafaegmejlaaDoor.Oct
open Go.RowKit Sha
set_option linter.unusedSimpArgs false
set_option linter.unusedVariables false

set_option maxRecDepth 100000 in
set_option maxHeartbeats 2000000 in
theorem refDigest_is (e : En) (he : e.ok) (hz : e.who.size + e.what.size ≤ 200000) (D : List UInt8) (hD : dgE e = D) (w : World) : Calls Tryd.prog 21 #[.agg e.cells.toArray] w fun r w' => r = .returned (.agg (U D).toArray) ∧ Below w.heap.size w w' := by
  obtain ⟨Z, hZ, HZ⟩ := zero35
  obtain ⟨i0, hi, hz0, hz1, hz2⟩ := u8info
  obtain ⟨b, hb⟩ : ∃ b, w.heap.size = b := ⟨_, rfl⟩
  obtain ⟨C, hC⟩ : ∃ C, e.cells = C := ⟨_, rfl⟩
  obtain ⟨A1, hA1⟩ : ∃ A, w.alloc (.cells C.toArray 37) = A := ⟨_, rfl⟩
  obtain ⟨r, hr⟩ : ∃ r, A1.heap.size = r := ⟨_, rfl⟩
  obtain ⟨A, hA⟩ : ∃ A, A1.alloc (.cells Z.toArray 35) = A := ⟨_, rfl⟩
  have hB1 : Below w.heap.size w A1 := by rw [← hA1]; exact below_al _ _
  have hB2 : Below A1.heap.size A1 A := by rw [← hA]; exact below_al _ _
  have hBA := below_tr hB1 hB2
  have h1 : Blk A1 b 37 C := by rw [← hA1, ← hb]; exact Blk.new w _ _
  have h2 : Blk A b 37 C := h1.below hB2 h1.lt
  have h3 : Blk A r 35 Z := by rw [← hA, ← hr]; exact Blk.new A1 _ _
  have HA : Hid (Below w.heap.size w A ∧ Blk A b 37 C ∧ Blk A r 35 Z ∧ w.heap.size ≤ r) := ⟨hBA, h2, h3, by have := hB1.size; omega⟩
  obtain ⟨S, hS⟩ : ∃ S, max e.seq 0 = S := ⟨_, rfl⟩
  obtain ⟨T, hT⟩ : ∃ S, max e.tick 0 = S := ⟨_, rfl⟩
  have k0 : A.cell? ⟨b, 0, none⟩ = some (iv e.seq) := h2.cell (by rw [← hC]; rfl)
  have k1 : A.cell? ⟨b, 1, none⟩ = some (iv e.tick) := h2.cell (by rw [← hC]; rfl)
  have HE : Hid (e.ok ∧ e.cells = C ∧ max e.seq 0 = S ∧ max e.tick 0 = T ∧ e.who.size + e.what.size ≤ 200000 ∧ dgE e = D ∧ D.length = 32) := ⟨he, hC, hS, hT, hz, hD, by rw [← hD]; exact dgE_len e⟩
  have q1 : 0 ≤ S := by omega
  have q2 : S ≤ 9223372036854775807 := by have := he.2.1; omega
  have q3 : 0 ≤ T := by omega
  have q4 : T ≤ 9223372036854775807 := by have := he.2.2.1; omega
  obtain ⟨l1, hl1⟩ : ∃ l, [] ++ enc S.toNat = l := ⟨_, rfl⟩
  obtain ⟨l2, hl2⟩ : ∃ l, l1 ++ enc T.toNat = l := ⟨_, rfl⟩
  obtain ⟨l3, hl3⟩ : ∃ l, l2 ++ enc e.who.size ++ e.who.data.toList = l := ⟨_, rfl⟩
  obtain ⟨l4, hl4⟩ : ∃ l, l3 ++ enc e.what.size ++ e.what.data.toList = l := ⟨_, rfl⟩
  obtain ⟨n1, hn1⟩ : ∃ n, l1.length = n := ⟨_, rfl⟩
  obtain ⟨n2, hn2⟩ : ∃ n, l2.length = n := ⟨_, rfl⟩
  obtain ⟨n3, hn3⟩ : ∃ n, l3.length = n := ⟨_, rfl⟩
  obtain ⟨n4, hn4⟩ : ∃ n, l4.length = n := ⟨_, rfl⟩
  have z1 : n1 ≤ 10 := by rw [← hn1, ← hl1, List.nil_append]; exact enc_le _ (by omega)
  have z2 : n2 ≤ 20 := by rw [← hn2, ← hl2, List.length_append, hn1]; have := enc_le T.toNat (by omega); omega
  have z3 : n3 ≤ 30 + e.who.size := by
    rw [← hn3, ← hl3, List.length_append, List.length_append, hn2]
    have := enc_le e.who.size (by omega)
    have h3 : e.who.data.toList.length = e.who.size := rfl
    omega
  have z4 : n4 ≤ 40 + e.who.size + e.what.size := by
    rw [← hn4, ← hl4, List.length_append, List.length_append, hn3]
    have := enc_le e.what.size (by omega)
    have h3 : e.what.data.toList.length = e.what.size := rfl
    omega
  have eL : l4 ++ e.prev = dgB e := by
    unfold dgB
    rw [hS, hT, ← hl4, ← hl3, ← hl2, ← hl1]
    simp only [List.append_assoc, List.nil_append]
  have HF1 : Hid (∀ V, Calls Tryd.prog 34 #[iv e.seq] V fun x V2 => x = .returned (.int .u64 S) ∧ V = V2) := fun V => from0_is e.seq S hS he.2.1 V
  have HF2 : Hid (∀ V, Calls Tryd.prog 34 #[iv e.tick] V fun x V2 => x = .returned (.int .u64 T) ∧ V = V2) := fun V => from0_is e.tick T hT he.2.2.1 V
  have HP1 : Hid (∀ V, Calls Tryd.prog 33 #[.slice none 0 0, .int .u64 S] V fun x V2 => Mk V V2 x n1 l1) := fun V => refPutN S (In.nil V) q1 (by omega) (by omega) l1 hl1 n1 hn1
  have HP2 : Hid (∀ V g c, In V (some ⟨g, 0, none⟩) n1 c l1 → Calls Tryd.prog 33 #[.slice (some ⟨g, 0, none⟩) n1 c, .int .u64 T] V fun x V2 => Mk V V2 x n2 l2) := fun V g c h => refPutN T h q3 (by omega) (by omega) l2 hl2 n2 hn2
  have HT1 : Hid (∀ V g c, In V (some ⟨g, 0, none⟩) n2 c l2 → Calls Tryd.prog 35 #[.slice (some ⟨g, 0, none⟩) n2 c, .string e.who] V fun x V2 => Mk V V2 x n3 l3) := fun V g c h => refTextN e.who h (by omega) l3 hl3 n3 hn3
  have HT2 : Hid (∀ V g c, In V (some ⟨g, 0, none⟩) n3 c l3 → Calls Tryd.prog 35 #[.slice (some ⟨g, 0, none⟩) n3 c, .string e.what] V fun x V2 => Mk V V2 x n4 l4) := fun V g c h => refTextN e.what h (by omega) l4 hl4 n4 hn4
  have HL4 : Hid (l4.length = n4 ∧ n4 ≤ 40 + e.who.size + e.what.size ∧ l4 ++ e.prev = dgB e) := ⟨hn4, z4, eL⟩
  have HLB : Hid (b < A.heap.size) := h2.lt
  rw [hC]
  clear hB1 hB2 hBA h1 h2 h3 he hz hD hC hS hT hl1 hl2 hl3 hl4 hn1 hn2 hn3 hn4 z1 z2 z3 z4 eL
  go_enter Tryd.func21, Tryd.ntmps21
  go_wp2_with fail
  refine rd1 HLB k0 k1 HF1 HF2 HP1 HP2 ?_
  intro V1 g1 c1 g2 c2 hb1 hi1
  have H1 : Hid (Below A.heap.size A V1 ∧ In V1 (some ⟨g2, 0, none⟩) n2 c2 l2) := ⟨hb1, hi1⟩
  have k2 : V1.cell? ⟨b, 2, none⟩ = some (.string e.who) := (H1.out.1.cell (p := ⟨b, 2, none⟩) HLB.out).trans (HA.out.2.1.cell (by rw [← HE.out.2.1]; rfl))
  have k3 : V1.cell? ⟨b, 3, none⟩ = some (.string e.what) := (H1.out.1.cell (p := ⟨b, 3, none⟩) HLB.out).trans (HA.out.2.1.cell (by rw [← HE.out.2.1]; rfl))
  have HLB1 : Hid (b < V1.heap.size) := Nat.lt_of_lt_of_le HLB.out hb1.size
  have HI1 : Hid (In V1 (some ⟨g2, 0, none⟩) n2 c2 l2) := hi1
  clear hb1 hi1 k0 k1 HF1 HF2 HP1 HP2 hA1 hA hr hb
  go_wp2_with fail
  refine rd2 HLB1 k2 k3 HI1 HT1 HT2 ?_
  intro W4 W3 g3 c3 g4 cp4 hb4 ho4 hs4
  have H4 : Hid (Below A.heap.size A W4 ∧ W4.ownsRow W3.heap.size 5 1 (.slice (some ⟨g4, 0, none⟩) n4 cp4) n4 (U l4) ∧ A.heap.size ≤ W3.heap.size) := ⟨below_tr H1.out.1 hb4, ho4, Nat.le_trans H1.out.1.size hs4⟩
  have H4s : Hid (W3.heap.size ≤ W4.heap.size) := by
    rcases ho4.2 with ⟨h, _⟩ | ⟨g, cp, cur, h, hB, hbl, _⟩
    · cases h
    · exact Nat.le_of_lt (Nat.lt_of_le_of_lt hB (lt_of_block hbl))
  have H4b : Hid (Blk W4 b 37 C ∧ Blk W4 r 35 Z) := ⟨HA.out.2.1.below H4.out.1 HA.out.2.1.lt, HA.out.2.2.1.below H4.out.1 HA.out.2.2.1.lt⟩
  have hsl := slice35 b
  clear hb4 ho4 hs4 k2 k3 HI1 HT1 HT2 HLB1
  go_wp2_with (with_reducible change wpList _ _ _ ({ dst := some 22, op := _, type := _, pos := _, after := _, guard := _ } :: _) _ _; refine Hid.out ?_)
  show wpList _ _ _ _ _ _
  refine wpList_append_in _ rfl (.tmp 19) (.tmp 21) 60 rfl W3.heap.size 5 i0 Tryd.underlying60 hi hz0 hz1 hz2 _ l4 n4 HL4.out.1 rfl H4.out.2.1 (some ⟨b, 4, none⟩) 32 32 e.prev rfl ?_ (by have := HL4.out.2.1; have := HE.out.2.2.2.2.1; omega) H4s.out ?_
  · have := in_mid (o := 4) (l := e.prev) H4b.out.1 (by rw [← HE.out.2.1]; show (U e.prev).take _ = _; rw [List.take_of_length_le (by rw [U_length]; exact Nat.le_refl _)]) (by rw [HE.out.1.1]; omega)
    rw [HE.out.1.1] at this
    exact this
  intro v5 W5 ho5 hg5
  have b45 : Below W3.heap.size W4 W5 := ((Below.refl _ W4).mono H4s.out).grown hg5 H4s.out (fun j hj => by cases hj; rcases H4.out.2.1.2 with ⟨h, _⟩ | ⟨g, cp, cur, h, hB, _⟩ <;> cases h; exact hB)
  have b5 : Below A.heap.size A W5 := H4.out.1.trans (b45.mono H4.out.2.2)
  have H5 : Hid (Below w.heap.size w W5 ∧ Blk W5 r 35 Z ∧ w.heap.size ≤ r) := ⟨below_tr HA.out.1 b5, HA.out.2.2.1.below b5 HA.out.2.2.1.lt, HA.out.2.2.2⟩
  have hp5 : 0 < (l4 ++ e.prev).length := by rw [List.length_append, HE.out.1.1]; omega
  obtain ⟨g5, cp5, rfl, _⟩ := ho5.shape hp5
  have hin5 := ho5.toIn (by rw [List.length_append, HE.out.1.1, HL4.out.1]; have := HL4.out.2.1; have := HE.out.2.2.2.2.1; omega)
  obtain ⟨n5, hn5⟩ : ∃ n, (l4 ++ e.prev).length = n := ⟨_, rfl⟩
  rw [hn5] at hin5 ⊢
  have H6 : Hid (In W5 (some ⟨g5, 0, none⟩) n5 cp5 (l4 ++ e.prev) ∧ n5 ≤ 300000 ∧ sum (l4 ++ e.prev) = D) := by
    refine ⟨hin5, ?_, by rw [HL4.out.2.2]; exact HE.out.2.2.2.2.2.1⟩
    rw [← hn5, List.length_append, HE.out.1.1, HL4.out.1]
    have := HL4.out.2.1; have := HE.out.2.2.2.2.1
    omega
  clear ho5 hg5 b45 b5 hp5 hin5 hn5 H4b H4 H1
  go_wp2_with fail
  refine (refIs _ D H6.out.2.2 _ n5 cp5 W5 H6.out.1 H6.out.2.1).mono ?_
  rintro x W6 ⟨rfl, hb6⟩
  have H7 : Hid (Below w.heap.size w W6 ∧ Blk W6 r 35 Z) := ⟨below_tr H5.out.1 hb6.out, H5.out.2.1.below hb6.out H5.out.2.1.lt⟩
  clear hb6 H6
  go_wp2_with (with_reducible change wpList _ _ _ ({ dst := none, op := Op.store 35 _ _, type := _, pos := _, after := _, guard := _ } :: _) _ _; refine Hid.out ?_)
  show wpList _ _ _ _ _ _
  refine wpList_store_blk rfl 35 (.tmp 2) (.tmp 23) rfl r 0 35 Z (U D) rfl rfl H7.out.2 (by rw [HZ.out, U_length, HE.out.2.2.2.2.2.2, zb_length]; exact Nat.le_refl _) (by rw [U_length, HE.out.2.2.2.2.2.2]; exact size35) (U_one _) ?_
  intro W7 hx7 hg7
  have H8 : Hid (Below w.heap.size w W7 ∧ Blk W7 r 35 (U D)) := ⟨below_gr H7.out.1 hg7.out H5.out.2.2, blk_all hx7.out (by rw [HZ.out, U_length, HE.out.2.2.2.2.2.2, zb_length])⟩
  clear hx7 hg7
  go_wp2
  refine ret_c rfl rfl rfl H8.out.2 Tryd.underlying35 rfl (by rw [U_length, HE.out.2.2.2.2.2.2]; exact size35) ⟨rfl, H8.out.1⟩
def En.rz (e : En) : Prop := e.who.size + e.what.size ≤ 200000
theorem lastE_at {l : List En} {n : Nat} (h : l.length = n) (hp : 0 < n) : l[n - 1]? = some (lastE l) := by
  unfold lastE
  rw [List.getLast?_eq_getElem?, h]
  rw [List.getElem?_eq_getElem (by omega)]
  rfl
set_option maxRecDepth 100000 in
set_option maxHeartbeats 2000000 in
theorem refHead_is {w : World} {v : Value} {l : List En} (h : EsR w v l) (hl : l.length ≤ 1000000) (hz : ∀ e ∈ l, e.rz) (D : List UInt8) (hD : hdE l = D) : Calls Tryd.prog 17 #[v] w fun r w' => r = .returned (.agg (U D).toArray) ∧ Below w.heap.size w w' := by
  obtain ⟨hok, a, cap, rfl, hle, hcap, hr⟩ := h
  obtain ⟨n, hn⟩ : ∃ n, l.length = n := ⟨_, rfl⟩
  rw [hn] at hr ⊢
  have qn : (n : Int) ≤ 1000000 := by omega
  obtain ⟨Z, hZ, HZ⟩ := zero35
  obtain ⟨r, hrr⟩ : ∃ r, w.heap.size = r := ⟨_, rfl⟩
  obtain ⟨A, hA⟩ : ∃ A, w.alloc (.cells Z.toArray 35) = A := ⟨_, rfl⟩
  have hb1 : Below w.heap.size w A := by rw [← hA]; exact below_al _ _
  have hrb : Blk A r 35 Z := by rw [← hA, ← hrr]; exact Blk.new w _ _
  have HD : Hid (D.length = 32 ∧ hdE l = D) := ⟨by rw [← hD]; exact hdE_len l, hD⟩
  by_cases hn0 : n = 0
  · subst hn0
    have hl0 : l = [] := List.length_eq_zero_iff.1 hn
    have HB5 : Tryd.prog.built 35 [] = some (U D).toArray := by
      rw [← hD, hl0]; exact built35U
    have H : Hid (Below w.heap.size w A ∧ Blk A r 35 Z ∧ w.heap.size ≤ r) := ⟨hb1, hrb, by omega⟩
    clear hb1 hrb hok hle hcap hr hn hl hz hD hl0
    go_enter Tryd.func17, Tryd.ntmps17
    go_wp2_with (with_reducible change wpList _ _ _ ({ dst := some 6, op := _, type := _, pos := _, after := _, guard := _ } :: _) _ _; refine Hid.out ?_)
    show wpList _ _ _ _ _ _
    refine wpList_built rfl 35 _ rfl (U D).toArray (by rw [← HB5]; simp) ?_
    go_wp2_with (with_reducible change wpList _ _ _ ({ dst := none, op := Op.store 35 _ _, type := _, pos := _, after := _, guard := _ } :: _) _ _; refine Hid.out ?_)
    show wpList _ _ _ _ _ _
    refine wpList_store_blk rfl 35 (.tmp 2) (.tmp 6) rfl r 0 35 Z (U D) rfl rfl H.out.2.1 (by rw [HZ.out, U_length, HD.out.1, zb_length]; exact Nat.le_refl _) (by rw [U_length, HD.out.1]; exact size35) (U_one _) ?_
    intro W7 hx7 hg7
    have H8 : Hid (Below w.heap.size w W7 ∧ Blk W7 r 35 (U D)) := ⟨below_gr H.out.1 hg7.out H.out.2.2, blk_all hx7.out (by rw [HZ.out, U_length, HD.out.1, zb_length])⟩
    clear hx7 hg7 hA hrr
    go_wp2
    exact ret_c rfl rfl rfl H8.out.2 Tryd.underlying35 rfl (by rw [U_length, HD.out.1]; exact size35) ⟨rfl, H8.out.1⟩
  · obtain ⟨b, off, rfl, hbl, hel⟩ := hr (by omega)
    have hx := lastE_at hn (by omega)
    obtain ⟨x, hxe⟩ : ∃ x, lastE l = x := ⟨_, rfl⟩
    rw [hxe] at hx
    have hxm := List.mem_of_getElem? hx
    have hne : l ≠ [] := fun h0 => by rw [h0] at hn; exact hn0 hn.symm
    have hdx : dgE x = D := by rw [← hD, hdE, if_neg hne, hxe]
    have H : Hid (Below w.heap.size w A ∧ Blk A r 35 Z ∧ w.heap.size ≤ r ∧ x.ok ∧ x.rz ∧ dgE x = D ∧ A.rangeAt b (off + (n - 1) * 36) x.cells) := ⟨hb1, hrb, by omega, hok x hxm, hz x hxm, hdx, rangeAt_same (hel _ x hx) (hb1.block b hbl)⟩
    obtain ⟨m, hm⟩ : ∃ m, n - 1 = m := ⟨_, rfl⟩
    rw [hm] at H
    have q3 : (n : Int) - 1 = (m : Int) := by omega
    have q4 : (m : Int) < (n : Int) := by omega
    have q5 : m < n := by omega
    have q6 : 0 < (n : Int) := by omega
    clear hb1 hrb hok hle hcap hn hl hz hD hx hxm hne hdx hel hxe hr hm
    go_enter Tryd.func17, Tryd.ntmps17
    go_wp2_with (with_reducible change wpList _ _ _ ({ dst := some 12, op := _, type := _, pos := _, after := _, guard := _ } :: _) _ _; refine Hid.out ?_)
    show wpList _ _ _ _ _ _
    refine wpList_load_mid rfl 37 (.tmp 11) rfl b (off + m * 36) rfl x.cells _ H.out.2.2.2.2.2.2 Tryd.underlying37 rfl (info37 H.out.2.2.2.1) ?_
    go_wp2_with fail
    refine (refDigest_is x H.out.2.2.2.1 H.out.2.2.2.2.1 D H.out.2.2.2.2.2.1 A).mono ?_
    rintro e W6 ⟨rfl, hb6⟩
    have H7 : Hid (Below w.heap.size w W6 ∧ Blk W6 r 35 Z) := ⟨below_tr H.out.1 hb6, H.out.2.1.below hb6 H.out.2.1.lt⟩
    clear hb6
    go_wp2_with (with_reducible change wpList _ _ _ ({ dst := none, op := Op.store 35 _ _, type := _, pos := _, after := _, guard := _ } :: _) _ _; refine Hid.out ?_)
    show wpList _ _ _ _ _ _
    refine wpList_store_blk rfl 35 (.tmp 2) (.tmp 13) rfl r 0 35 Z (U D) rfl rfl H7.out.2 (by rw [HZ.out, U_length, HD.out.1, zb_length]; exact Nat.le_refl _) (by rw [U_length, HD.out.1]; exact size35) (U_one _) ?_
    intro W7 hx7 hg7
    have H8 : Hid (Below w.heap.size w W7 ∧ Blk W7 r 35 (U D)) := ⟨below_gr H7.out.1 hg7.out H.out.2.2.1, blk_all hx7.out (by rw [HZ.out, U_length, HD.out.1, zb_length])⟩
    clear hx7 hg7 hA hrr
    go_wp2
    exact ret_c rfl rfl rfl H8.out.2 Tryd.underlying35 rfl (by rw [U_length, HD.out.1]; exact size35) ⟨rfl, H8.out.1⟩
end Go.Proofs.YtmmpafaegmejlaaDoor.Oct
