/-
  Layer 19 (audit): the very same entries?
-/
import Derived.Test.YtmmpafaegmejlaaDoorFew
namespace Go.Proofs.YtmmpafaegmejlaaDoor.Oct
open Go.RowKit Sha
set_option linter.unusedSimpArgs false
set_option linter.unusedVariables false

theorem yl_ne37 {o : Oper} {a : Act} (V : World) (p q : Operand) (x y : Array Value) (E : Bool) (hop : o.op = .binOp .neq 37 p q 37) (hx : a.eval p = .agg x) (hy : a.eval q = .agg y) (h : ∀ W, (binOp .neq 37 (.agg x) (.agg y)).run Tryd.prog W = .ok (.bool E) W) : (execOp a.eval o).run Tryd.prog V = .ok (.value (.bool E)) V := by
  unfold execOp
  simp only [hop, hx, hy, Sem.run_bind, Sem.run_pure]
  have hg : (eqGuard BinOp.neq 37 p q (.agg x) (.agg y)).run Tryd.prog V = .ok () V := run_eqGuard_agg V .neq 37 p q x y (by kernel_rfl)
  rw [hg]
  simp only [Result.andThen_ok, h]
set_option maxRecDepth 100000 in
set_option maxHeartbeats 4000000 in
theorem sm6 {Q : Exit → Act → World → Prop} {x2 x3 x4 x6 x7 x8 x9 x10 x11 x12 x13 x14 x15 x16 x17 x18 x19 x20 x21 x22 x23 x24 x25 : Value} {ds : List Deferred} {A : World} {b1 o1 b2 o2 n c1 c2 i : Nat} {x y : En} {E : Bool}
    (HX : Hid (x.ok ∧ y.ok)) (HR : Hid (A.rangeAt b1 (o1 + i * 36) x.cells ∧ A.rangeAt b2 (o2 + i * 36) y.cells ∧ b1 < A.heap.size ∧ b2 < A.heap.size)) (HNE : Hid (∀ W, (binOp .neq 37 (.agg x.cells.toArray) (.agg y.cells.toArray)).run Tryd.prog W = .ok (.bool E) W)) (q1 : (i : Int) < (n : Int)) (q2 : i < n)
    (hQ : ∀ V1, Below A.heap.size A V1 → Q .normal { tmps := #[.slice (some ⟨b1, o1, none⟩) n c1, .slice (some ⟨b2, o2, none⟩) n c2, x2, x3, x4, iv (i : Int), x6, x7, x8, x9, x10, x11, x12, x13, x14, x15, x16, .slice (some ⟨b1, o1, none⟩) n c1, iv (i : Int), .pointer (some ⟨b1, o1 + i * 36, none⟩), .agg x.cells.toArray, .slice (some ⟨b2, o2, none⟩) n c2, iv (i : Int), .pointer (some ⟨b2, o2 + i * 36, none⟩), .agg y.cells.toArray, .bool E], defers := ds } V1) :
    (Code.region 6 #[{ dst := some 17, op := Op.move (Operand.tmp 0), type := 27, pos := "ref.go:80", after := #[], guard := none }, { dst := some 18, op := Op.move (Operand.tmp 5), type := 3, pos := "ref.go:80", after := #[], guard := none }, { dst := some 19, op := Op.indexAddr 27 (Operand.tmp 17) (Operand.tmp 18), type := 0, pos := "ref.go:80", after := #[{ on := 0, ground := Ground.data }, { on := 1, ground := Ground.data }], guard := none }, { dst := some 20, op := Op.load 37 (Operand.tmp 19), type := 37, pos := "ref.go:80", after := #[{ on := 2, ground := Ground.data }], guard := none }, { dst := some 21, op := Op.move (Operand.tmp 1), type := 27, pos := "ref.go:80", after := #[], guard := none }, { dst := some 22, op := Op.move (Operand.tmp 5), type := 3, pos := "ref.go:80", after := #[], guard := none }, { dst := some 23, op := Op.indexAddr 27 (Operand.tmp 21) (Operand.tmp 22), type := 0, pos := "ref.go:80", after := #[{ on := 4, ground := Ground.data }, { on := 5, ground := Ground.data }], guard := none }, { dst := some 24, op := Op.load 37 (Operand.tmp 23), type := 37, pos := "ref.go:80", after := #[{ on := 6, ground := Ground.data }], guard := none }, { dst := some 25, op := Op.binOp BinOp.neq 37 (Operand.tmp 20) (Operand.tmp 24) 37, type := 4, pos := "ref.go:80", after := #[{ on := 3, ground := Ground.data }, { on := 7, ground := Ground.data }], guard := none }] true).wp Tryd.prog Q { tmps := #[.slice (some ⟨b1, o1, none⟩) n c1, .slice (some ⟨b2, o2, none⟩) n c2, x2, x3, x4, iv (i : Int), x6, x7, x8, x9, x10, x11, x12, x13, x14, x15, x16, x17, x18, x19, x20, x21, x22, x23, x24, x25], defers := ds } A := by
  refine Code.wp_mono (Q := fun x a' w' => match x with | .normal => Q .normal a' w' | _ => False) (by intro x a' w' h; cases x <;> first | exact h | exact h.elim) ?_
  refine wp_region_held (S := fun V => Below A.heap.size A V) (by kernel_rfl) ?_
  have hS0 : Hid (Below A.heap.size A A.drew) := below_drew0 A
  change wpAnyH Tryd.prog .any _ _ (fun V => Below A.heap.size A V) 9 (Array.replicate 9 false) _ A.drew
  obtain ⟨V0, hV0⟩ : ∃ V0, A.drew = V0 := ⟨_, rfl⟩
  rw [hV0]
  rw [hV0] at hS0
  clear hV0
  refine wpAnyH_take (i := 0) (oi := { dst := some 17, op := Op.move (Operand.tmp 0), type := 27, pos := "ref.go:80", after := #[], guard := none }) (v := .slice (some ⟨b1, o1, none⟩) n c1) rfl (by kernel_rfl) (by kernel_rfl) (by kernel_rfl) (fun _ _ _ h => h.elim) (Or.inl ⟨by rfl, ?y1⟩) hS0.out ?_
  case y1 =>
    intro V hV
    go_simp
  simp only [Act.put, List.setIfInBounds_toArray, List.set_cons_zero, List.set_cons_succ]
  refine wpAnyH_take (i := 1) (oi := { dst := some 18, op := Op.move (Operand.tmp 5), type := 3, pos := "ref.go:80", after := #[], guard := none }) (v := iv (i : Int)) rfl (by kernel_rfl) (by kernel_rfl) (by kernel_rfl) (fun _ _ _ h => h.elim) (Or.inl ⟨by rfl, ?y2⟩) hS0.out ?_
  case y2 =>
    intro V hV
    go_simp
  simp only [Act.put, List.setIfInBounds_toArray, List.set_cons_zero, List.set_cons_succ]
  refine wpAnyH_take (i := 2) (oi := { dst := some 19, op := Op.indexAddr 27 (Operand.tmp 17) (Operand.tmp 18), type := 0, pos := "ref.go:80", after := #[{ on := 0, ground := Ground.data }, { on := 1, ground := Ground.data }], guard := none }) (v := .pointer (some ⟨b1, o1 + i * 36, none⟩)) rfl (by kernel_rfl) (by kernel_rfl) (by kernel_rfl) (fun _ _ _ h => h.elim) (Or.inl ⟨by rfl, ?y3⟩) hS0.out ?_
  case y3 =>
    intro V hV
    have hcmp := q1
    have hcmp2 := q2
    go_simp
  simp only [Act.put, List.setIfInBounds_toArray, List.set_cons_zero, List.set_cons_succ]
  refine wpAnyH_take (i := 3) (oi := { dst := some 20, op := Op.load 37 (Operand.tmp 19), type := 37, pos := "ref.go:80", after := #[{ on := 2, ground := Ground.data }], guard := none }) (v := .agg x.cells.toArray) rfl (by kernel_rfl) (by kernel_rfl) (by kernel_rfl) (fun _ _ _ h => h.elim) (yieldsIf_load_mid (by rfl) _ _ rfl _ _ rfl (x.cells) _ (fun V hV => rangeAt_same (HR.out.1) ((show Below A.heap.size A V from hV).block _ (HR.out.2.2.1))) Tryd.underlying37 rfl (info37 HX.out.1)) hS0.out ?_
  simp only [Act.put, List.setIfInBounds_toArray, List.set_cons_zero, List.set_cons_succ]
  refine wpAnyH_take (i := 4) (oi := { dst := some 21, op := Op.move (Operand.tmp 1), type := 27, pos := "ref.go:80", after := #[], guard := none }) (v := .slice (some ⟨b2, o2, none⟩) n c2) rfl (by kernel_rfl) (by kernel_rfl) (by kernel_rfl) (fun _ _ _ h => h.elim) (Or.inl ⟨by rfl, ?y4⟩) hS0.out ?_
  case y4 =>
    intro V hV
    go_simp
  simp only [Act.put, List.setIfInBounds_toArray, List.set_cons_zero, List.set_cons_succ]
  refine wpAnyH_take (i := 5) (oi := { dst := some 22, op := Op.move (Operand.tmp 5), type := 3, pos := "ref.go:80", after := #[], guard := none }) (v := iv (i : Int)) rfl (by kernel_rfl) (by kernel_rfl) (by kernel_rfl) (fun _ _ _ h => h.elim) (Or.inl ⟨by rfl, ?y5⟩) hS0.out ?_
  case y5 =>
    intro V hV
    go_simp
  simp only [Act.put, List.setIfInBounds_toArray, List.set_cons_zero, List.set_cons_succ]
  refine wpAnyH_take (i := 6) (oi := { dst := some 23, op := Op.indexAddr 27 (Operand.tmp 21) (Operand.tmp 22), type := 0, pos := "ref.go:80", after := #[{ on := 4, ground := Ground.data }, { on := 5, ground := Ground.data }], guard := none }) (v := .pointer (some ⟨b2, o2 + i * 36, none⟩)) rfl (by kernel_rfl) (by kernel_rfl) (by kernel_rfl) (fun _ _ _ h => h.elim) (Or.inl ⟨by rfl, ?y6⟩) hS0.out ?_
  case y6 =>
    intro V hV
    have hcmp := q1
    have hcmp2 := q2
    go_simp
  simp only [Act.put, List.setIfInBounds_toArray, List.set_cons_zero, List.set_cons_succ]
  refine wpAnyH_take (i := 7) (oi := { dst := some 24, op := Op.load 37 (Operand.tmp 23), type := 37, pos := "ref.go:80", after := #[{ on := 6, ground := Ground.data }], guard := none }) (v := .agg y.cells.toArray) rfl (by kernel_rfl) (by kernel_rfl) (by kernel_rfl) (fun _ _ _ h => h.elim) (yieldsIf_load_mid (by rfl) _ _ rfl _ _ rfl (y.cells) _ (fun V hV => rangeAt_same (HR.out.2.1) ((show Below A.heap.size A V from hV).block _ (HR.out.2.2.2))) Tryd.underlying37 rfl (info37 HX.out.2)) hS0.out ?_
  simp only [Act.put, List.setIfInBounds_toArray, List.set_cons_zero, List.set_cons_succ]
  refine wpAnyH_take (i := 8) (oi := { dst := some 25, op := Op.binOp BinOp.neq 37 (Operand.tmp 20) (Operand.tmp 24) 37, type := 4, pos := "ref.go:80", after := #[{ on := 3, ground := Ground.data }, { on := 7, ground := Ground.data }], guard := none }) (v := .bool E) rfl (by kernel_rfl) (by kernel_rfl) (by kernel_rfl) (fun _ _ _ h => h.elim) (Or.inl ⟨by rfl, ?y7⟩) hS0.out ?_
  case y7 =>
    intro V hV
    exact yl_ne37 V _ _ _ _ _ rfl rfl rfl HNE.out
  simp only [Act.put, List.setIfInBounds_toArray, List.set_cons_zero, List.set_cons_succ]
  refine wpAnyH_done (by kernel_rfl) ?_ _
  exact hQ V0 hS0.out
#print axioms sm6
theorem take_step {α : Type} {l r : List α} {i : Nat} {x y : α} (h : l.take i = r.take i) (hx : l[i]? = some x) (hy : r[i]? = some y) (e : x = y) : l.take (i + 1) = r.take (i + 1) := by
  rw [List.take_add_one, List.take_add_one, h, hx, hy, e]
set_option maxRecDepth 100000 in
set_option maxHeartbeats 2000000 in
theorem same_is {w : World} {v1 v2 : Value} {l r : List En} (h1 : EsR w v1 l) (h2 : EsR w v2 r) (hl : l.length ≤ 1000000) (hr : r.length ≤ 1000000) (R : Bool) (hR : R = true ↔ l = r) : Calls Tryd.prog 18 #[v1, v2] w fun e w' => e = .returned (.bool R) ∧ Below w.heap.size w w' := by
  obtain ⟨k1, a1, c1, rfl, m1, z1, p1⟩ := h1
  obtain ⟨k2, a2, c2, rfl, m2, z2, p2⟩ := h2
  obtain ⟨n, hn⟩ : ∃ n, l.length = n := ⟨_, rfl⟩
  obtain ⟨n2, hn2⟩ : ∃ n, r.length = n := ⟨_, rfl⟩
  have qn : (n : Int) ≤ 1000000 := by omega
  have qn2 : (n2 : Int) ≤ 1000000 := by omega
  rw [hn] at p1
  rw [hn2] at p2
  rw [hn, hn2]
  have H1 : Hid (l.length = n ∧ (∀ e ∈ l, e.ok) ∧ (0 < n → ∃ b off, a1 = some ⟨b, off, none⟩ ∧ b < w.heap.size ∧ ∀ i e, l[i]? = some e → w.rangeAt b (off + i * 36) e.cells)) := ⟨hn, k1, p1⟩
  have H2 : Hid (r.length = n2 ∧ (∀ e ∈ r, e.ok) ∧ (0 < n2 → ∃ b off, a2 = some ⟨b, off, none⟩ ∧ b < w.heap.size ∧ ∀ i e, r[i]? = some e → w.rangeAt b (off + i * 36) e.cells)) := ⟨hn2, k2, p2⟩
  have HR : Hid (R = true ↔ l = r) := hR
  clear k1 k2 m1 m2 z1 z2 p1 p2 hl hr hR hn hn2
  by_cases hne : n = n2
  · subst hne
    clear qn2
    go_enter Tryd.func18, Tryd.ntmps18
    go_wp2
    go_loopw [5] (fun u wr => ∃ i : Nat, u = iv (i : Int) ∧ Hid (i ≤ n ∧ l.take i = r.take i ∧ Below w.heap.size w wr)) (fun u _ => n - (intOf u).toNat)
    case atStart => exact ⟨0, rfl, Nat.zero_le _, by simp, Below.refl _ _⟩
    case round =>
      obtain ⟨i, rfl, HI⟩ := hrel
      by_cases hi : i = n
      · have q1 : (n : Int) ≤ (i : Int) := by omega
        have HF : Hid (R = true ∧ Below w.heap.size w wr) := by
          refine ⟨HR.out.2 ?_, HI.out.2.2⟩
          have := HI.out.2.1
          rw [hi, List.take_of_length_le (by rw [H1.out.1]; exact Nat.le_refl _), List.take_of_length_le (by rw [H2.out.1]; exact Nat.le_refl _)] at this
          exact this
        clear hi HI
        go_wp2
        go_ret
        exact ⟨by rw [HF.out.1]; rfl, HF.out.2⟩
      · have q2 : i < n := by have := HI.out.1; omega
        have q1 : (i : Int) < (n : Int) := by omega
        obtain ⟨x, hx⟩ : ∃ x, l[i]? = some x := ⟨_, List.getElem?_eq_getElem (by rw [H1.out.1]; exact q2)⟩
        obtain ⟨y, hy⟩ : ∃ x, r[i]? = some x := ⟨_, List.getElem?_eq_getElem (by rw [H2.out.1]; exact q2)⟩
        obtain ⟨b1, o1, rfl, hb1, e1⟩ := H1.out.2.2 (by omega)
        obtain ⟨b2, o2, rfl, hb2, e2⟩ := H2.out.2.2 (by omega)
        have HX : Hid (x.ok ∧ y.ok) := ⟨H1.out.2.1 x (List.mem_of_getElem? hx), H2.out.2.1 y (List.mem_of_getElem? hy)⟩
        have HG : Hid (wr.rangeAt b1 (o1 + i * 36) x.cells ∧ wr.rangeAt b2 (o2 + i * 36) y.cells ∧ b1 < wr.heap.size ∧ b2 < wr.heap.size) := ⟨rangeAt_same (e1 i x hx) (HI.out.2.2.block b1 hb1), rangeAt_same (e2 i y hy) (HI.out.2.2.block b2 hb2), Nat.lt_of_lt_of_le hb1 HI.out.2.2.size, Nat.lt_of_lt_of_le hb2 HI.out.2.2.size⟩
        obtain ⟨E, hE⟩ : ∃ E, (!eqEn x y) = E := ⟨_, rfl⟩
        have HNE : Hid (∀ W, (binOp .neq 37 (.agg x.cells.toArray) (.agg y.cells.toArray)).run Tryd.prog W = .ok (.bool E) W) := by
          intro W; rw [← hE]; exact neE x y HX.out.1 HX.out.2 W
        have HE : Hid ((!eqEn x y) = E ∧ l[i]? = some x ∧ r[i]? = some y ∧ i < n) := ⟨hE, hx, hy, q2⟩
        clear hE hx hy e1 e2 hb1 hb2 hi
        go_wp2_with fail
        refine sm6 HX HG HNE q1 q2 ?_
        intro V hV
        have HV : Hid (Below w.heap.size w V) := below_tr HI.out.2.2 hV
        clear hV
        cases E
        · have HF : Hid (i + 1 ≤ n ∧ l.take (i + 1) = r.take (i + 1) ∧ Below w.heap.size w V) := ⟨HE.out.2.2.2, take_step HI.out.2.1 HE.out.2.1 HE.out.2.2.1 ((eqEn_iff x y).1 (by simpa using HE.out.1)), HV.out⟩
          go_wp2
          go_roundw
          case rel => exact ⟨i + 1, by simp, HF.out⟩
          case measure =>
            have := HE.out.2.2.2
            simp only [intOf]
            omega
        · have HF : Hid (R = false ∧ Below w.heap.size w V) := by
            refine ⟨?_, HV.out⟩
            rcases hR' : R with _ | _
            · rfl
            · have e := HR.out.1 hR'
              have h1 := HE.out.2.1
              rw [e, HE.out.2.2.1] at h1
              have h2 := HE.out.1
              rw [(eqEn_iff x y).2 (Option.some.inj h1).symm] at h2
              cases h2
          go_wp2
          go_ret
          exact ⟨by rw [HF.out.1]; rfl, HF.out.2⟩
  · have HF : Hid (R = false) := by
      show R = false
      rcases hR' : R with _ | _
      · rfl
      · exact absurd (by rw [← H1.out.1, ← H2.out.1, HR.out.1 hR']) hne
    have q3 : ((n : Int) != (n2 : Int)) = true := by simpa using fun h => hne (by omega)
    clear hne
    go_enter Tryd.func18, Tryd.ntmps18
    go_wp2
    go_ret
    exact ⟨by rw [HF.out]; rfl, Below.refl _ _⟩
#print axioms same_is
end Go.Proofs.YtmmpafaegmejlaaDoor.Oct
