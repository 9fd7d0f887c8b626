/-
  Layer 19 (audit): the reference's Verify.
-/
import Derived.Test.YtmmpafaegmejlaaDoorFit
namespace Go.Proofs.YtmmpafaegmejlaaDoor.Oct
open Go.RowKit Sha
set_option linter.unusedSimpArgs false
set_option linter.unusedVariables false

theorem yl_cut {o : Oper} {a : Act} (V : World) (p q : Operand) (ad : Option Addr) (n c : Nat) (y v : Value) (hop : o.op = .slice 27 p none (some q) none) (hx : a.eval p = .slice ad n c) (hy : a.eval q = y) (h : ∀ W, (Instr.slice 27 (.slice ad n c) none (some y) none).run Tryd.prog W = .ok v W) : (execOp a.eval o).run Tryd.prog V = .ok (.value v) V := by
  unfold execOp
  simp [hop, hx, hy, Instr.sliceAt, h, Result.andThen]
set_option maxRecDepth 100000 in
set_option maxHeartbeats 4000000 in
theorem rv4 {Q : Exit → Act → World → Prop} {x1 x2 x4 x5 x6 x7 x8 x9 x10 x11 x12 x13 x14 x15 x16 x17 x18 x19 : Value} {ds : List Deferred} {A : World} {s off n cap i cc : Nat} {x : En} {E : Bool}
    (HX : Hid x.ok) (HR : Hid (A.rangeAt s (off + i * 36) x.cells ∧ s < A.heap.size)) (HCUT : Hid (∀ W, (Instr.slice 27 (.slice (some ⟨s, off, none⟩) n cap) none (some (iv (i : Int))) none).run Tryd.prog W = .ok (.slice (some ⟨s, off, none⟩) i cc) W)) (HF : Hid (∀ V, Below A.heap.size A V → Calls Tryd.prog 29 #[.slice (some ⟨s, off, none⟩) i cc, .agg x.cells.toArray] V fun e V2 => e = .returned (.bool E) ∧ Below V.heap.size V V2)) (q1 : (i : Int) < (n : Int)) (q2 : i < n)
    (hQ : ∀ V1, Below A.heap.size A V1 → Q .normal { tmps := #[.slice (some ⟨s, off, none⟩) n cap, x1, x2, iv (i : Int), x4, x5, x6, x7, x8, x9, .slice (some ⟨s, off, none⟩) n cap, iv (i : Int), .slice (some ⟨s, off, none⟩) i cc, .slice (some ⟨s, off, none⟩) n cap, iv (i : Int), .pointer (some ⟨s, off + i * 36, none⟩), .agg x.cells.toArray, .bool E, .bool (!E), x19], defers := ds } V1) :
    (Code.region 4 #[{ dst := some 10, op := Op.move (Operand.tmp 0), type := 27, pos := "ref.go:55", after := #[], guard := none }, { dst := some 11, op := Op.move (Operand.tmp 3), type := 3, pos := "ref.go:55", after := #[], guard := none }, { dst := some 12, op := Op.slice 27 (Operand.tmp 10) none (some (Operand.tmp 11)) none, type := 27, pos := "ref.go:55", after := #[{ on := 0, ground := Ground.data }, { on := 1, ground := Ground.data }], guard := none }, { dst := some 13, op := Op.move (Operand.tmp 0), type := 27, pos := "ref.go:55", after := #[], guard := none }, { dst := some 14, op := Op.move (Operand.tmp 3), type := 3, pos := "ref.go:55", after := #[], guard := none }, { dst := some 15, op := Op.indexAddr 27 (Operand.tmp 13) (Operand.tmp 14), type := 0, pos := "ref.go:55", after := #[{ on := 3, ground := Ground.data }, { on := 4, ground := Ground.data }], guard := none }, { dst := some 16, op := Op.load 37 (Operand.tmp 15), type := 37, pos := "ref.go:55", after := #[{ on := 5, ground := Ground.data }], guard := none }, { dst := some 17, op := Op.call { callee := Callee.value (Operand.func 29), args := #[Operand.tmp 12, Operand.tmp 16], argTypes := #[27, 37] }, type := 4, pos := "ref.go:55", after := #[{ on := 2, ground := Ground.data }, { on := 6, ground := Ground.data }], guard := none }, { dst := some 18, op := Op.unOp UnOp.not 4 (Operand.tmp 17), type := 4, pos := "ref.go:55", after := #[{ on := 7, ground := Ground.data }], guard := none }] true).wp Tryd.prog Q { tmps := #[.slice (some ⟨s, off, none⟩) n cap, x1, x2, iv (i : Int), x4, x5, x6, x7, x8, x9, x10, x11, x12, x13, x14, x15, x16, x17, x18, x19], defers := ds } A := by
  refine Code.wp_mono (Q := fun x a' w' => match x with | .normal => Q .normal a' w' | _ => False) (by intro x a' w' h; cases x <;> first | exact h | exact h.elim) ?_
  refine wp_region_held (S := fun V => Below A.heap.size A V) (by kernel_rfl) ?_
  have hS0 : Hid (Below A.heap.size A A.drew) := below_drew0 A
  change wpAnyH Tryd.prog .any _ _ (fun V => Below A.heap.size A V) 9 (Array.replicate 9 false) _ A.drew
  obtain ⟨V0, hV0⟩ : ∃ V0, A.drew = V0 := ⟨_, rfl⟩
  rw [hV0]
  rw [hV0] at hS0
  clear hV0
  refine wpAnyH_take (i := 0) (oi := { dst := some 10, op := Op.move (Operand.tmp 0), type := 27, pos := "ref.go:55", after := #[], guard := none }) (v := .slice (some ⟨s, off, none⟩) n cap) rfl (by kernel_rfl) (by kernel_rfl) (by kernel_rfl) (fun _ _ _ h => h.elim) (Or.inl ⟨by rfl, ?y1⟩) hS0.out ?_
  case y1 =>
    intro V hV
    go_simp
  simp only [Act.put, List.setIfInBounds_toArray, List.set_cons_zero, List.set_cons_succ]
  refine wpAnyH_take (i := 1) (oi := { dst := some 11, op := Op.move (Operand.tmp 3), type := 3, pos := "ref.go:55", after := #[], guard := none }) (v := iv (i : Int)) rfl (by kernel_rfl) (by kernel_rfl) (by kernel_rfl) (fun _ _ _ h => h.elim) (Or.inl ⟨by rfl, ?y2⟩) hS0.out ?_
  case y2 =>
    intro V hV
    go_simp
  simp only [Act.put, List.setIfInBounds_toArray, List.set_cons_zero, List.set_cons_succ]
  refine wpAnyH_take (i := 2) (oi := { dst := some 12, op := Op.slice 27 (Operand.tmp 10) none (some (Operand.tmp 11)) none, type := 27, pos := "ref.go:55", after := #[{ on := 0, ground := Ground.data }, { on := 1, ground := Ground.data }], guard := none }) (v := .slice (some ⟨s, off, none⟩) i cc) rfl (by kernel_rfl) (by kernel_rfl) (by kernel_rfl) (fun _ _ _ h => h.elim) (Or.inl ⟨by rfl, ?y3⟩) hS0.out ?_
  case y3 =>
    intro V hV
    exact yl_cut V _ _ _ _ _ _ _ rfl rfl rfl HCUT.out
  simp only [Act.put, List.setIfInBounds_toArray, List.set_cons_zero, List.set_cons_succ]
  refine wpAnyH_take (i := 3) (oi := { dst := some 13, op := Op.move (Operand.tmp 0), type := 27, pos := "ref.go:55", after := #[], guard := none }) (v := .slice (some ⟨s, off, none⟩) n cap) rfl (by kernel_rfl) (by kernel_rfl) (by kernel_rfl) (fun _ _ _ h => h.elim) (Or.inl ⟨by rfl, ?y4⟩) hS0.out ?_
  case y4 =>
    intro V hV
    go_simp
  simp only [Act.put, List.setIfInBounds_toArray, List.set_cons_zero, List.set_cons_succ]
  refine wpAnyH_take (i := 4) (oi := { dst := some 14, op := Op.move (Operand.tmp 3), type := 3, pos := "ref.go:55", after := #[], guard := none }) (v := iv (i : Int)) rfl (by kernel_rfl) (by kernel_rfl) (by kernel_rfl) (fun _ _ _ h => h.elim) (Or.inl ⟨by rfl, ?y5⟩) hS0.out ?_
  case y5 =>
    intro V hV
    go_simp
  simp only [Act.put, List.setIfInBounds_toArray, List.set_cons_zero, List.set_cons_succ]
  refine wpAnyH_take (i := 5) (oi := { dst := some 15, op := Op.indexAddr 27 (Operand.tmp 13) (Operand.tmp 14), type := 0, pos := "ref.go:55", after := #[{ on := 3, ground := Ground.data }, { on := 4, ground := Ground.data }], guard := none }) (v := .pointer (some ⟨s, off + i * 36, none⟩)) rfl (by kernel_rfl) (by kernel_rfl) (by kernel_rfl) (fun _ _ _ h => h.elim) (Or.inl ⟨by rfl, ?y6⟩) hS0.out ?_
  case y6 =>
    intro V hV
    have hcmp := q1
    have hcmp2 := q2
    go_simp
  simp only [Act.put, List.setIfInBounds_toArray, List.set_cons_zero, List.set_cons_succ]
  refine wpAnyH_take (i := 6) (oi := { dst := some 16, op := Op.load 37 (Operand.tmp 15), type := 37, pos := "ref.go:55", after := #[{ on := 5, ground := Ground.data }], guard := none }) (v := .agg x.cells.toArray) rfl (by kernel_rfl) (by kernel_rfl) (by kernel_rfl) (fun _ _ _ h => h.elim) (yieldsIf_load_mid (by rfl) _ _ rfl _ _ rfl (x.cells) _ (fun V hV => rangeAt_same (HR.out.1) ((show Below A.heap.size A V from hV).block _ (HR.out.2))) Tryd.underlying37 rfl (info37 HX.out)) hS0.out ?_
  simp only [Act.put, List.setIfInBounds_toArray, List.set_cons_zero, List.set_cons_succ]
  refine wpAnyH_ready (rs := [7]) (by kernel_rfl) (by simp) (AllReadyH.cons (i := 7) (o := { dst := some 17, op := Op.call { callee := Callee.value (Operand.func 29), args := #[Operand.tmp 12, Operand.tmp 16], argTypes := #[27, 37] }, type := 4, pos := "ref.go:55", after := #[{ on := 2, ground := Ground.data }, { on := 6, ground := Ground.data }], guard := none }) rfl ?_ AllReadyH.nil)
  · intro K1 hK1
    rw [if_pos (by rfl)]
    have HC1 := HF.out V0 hS0.out
    go_wp2_with fail
    refine HC1.mono ?_
    rintro e V1 ⟨rfl, hb1⟩
    dsimp only
    clear HC1
    have hS1 : Hid (Below A.heap.size A V1) := hS0.out.trans (hb1.mono hS0.out.size)
    clear hb1
    refine hK1.out _ _ hS1.out ?_
    clear hK1
    intro _
    try simp only [Act.put, List.setIfInBounds_toArray, List.set_cons_zero, List.set_cons_succ]
    refine wpAnyH_take (i := 8) (oi := { dst := some 18, op := Op.unOp UnOp.not 4 (Operand.tmp 17), type := 4, pos := "ref.go:55", after := #[{ on := 7, ground := Ground.data }], guard := none }) (v := .bool (!E)) rfl (by kernel_rfl) (by kernel_rfl) (by kernel_rfl) (fun _ _ _ h => h.elim) (Or.inl ⟨by rfl, ?y7⟩) hS1.out ?_
    case y7 =>
      intro V hV
      go_simp
    simp only [Act.put, List.setIfInBounds_toArray, List.set_cons_zero, List.set_cons_succ]
    refine wpAnyH_done (by kernel_rfl) ?_ _
    exact hQ V1 hS1.out
#print axioms rv4
set_option maxRecDepth 100000 in
set_option maxHeartbeats 2000000 in
theorem refVerify_is {w : World} {v : Value} {l : List En} (h : EsR w v l) (hl : l.length ≤ 1000000) (hz : ∀ e ∈ l, e.rz) (k : Int) (hv : VfP l k) : Calls Tryd.prog 19 #[v] w fun e w' => e = .returned (iv k) ∧ Below w.heap.size w w' := by
  have HE0 := h
  obtain ⟨hok, a, cap, rfl, hle, hcap, hr⟩ := h
  obtain ⟨n, hn⟩ : ∃ n, l.length = n := ⟨_, rfl⟩
  have HE : Hid (EsR w (.slice a l.length cap) l ∧ l.length = n ∧ (∀ e ∈ l, e.rz) ∧ VfP l k ∧ l.length ≤ 1000000) := ⟨HE0, hn, hz, hv, hl⟩
  have qn : (n : Int) ≤ 1000000 := by omega
  rw [hn] at hr ⊢
  have HRR : Hid (0 < n → ∃ b off, a = some ⟨b, off, none⟩ ∧ b < w.heap.size ∧ ∀ i e, l[i]? = some e → w.rangeAt b (off + i * 36) e.cells) := hr
  clear hok hle hcap hr hn HE0 hz hv hl
  go_enter Tryd.func19, Tryd.ntmps19
  go_wp2
  go_loopw [3] (fun u wr => ∃ i : Nat, u = iv (i : Int) ∧ Hid (i ≤ n ∧ (∀ j, j < i → okAt l j) ∧ Below w.heap.size w wr)) (fun u _ => n - (intOf u).toNat)
  case atStart => exact ⟨0, rfl, Nat.zero_le _, fun j hj => absurd hj (by omega), Below.refl _ _⟩
  case round =>
    obtain ⟨i, rfl, HI⟩ := hrel
    by_cases hi : i = n
    · have q1 : (n : Int) ≤ (i : Int) := by omega
      have HF : Hid (k = -1 ∧ Below w.heap.size w wr) := ⟨HE.out.2.2.2.1.one (vf_ok (fun j hj => HI.out.2.1 j (by rw [hi]; rw [HE.out.2.1] at hj; exact hj))), HI.out.2.2⟩
      clear hi HI
      go_wp2
      go_ret
      exact ⟨by rw [HF.out.1]; rfl, HF.out.2⟩
    · have q2 : i < n := by have := HI.out.1; omega
      have q1 : (i : Int) < (n : Int) := by omega
      have hlen := HE.out.2.1
      obtain ⟨x, hx⟩ : ∃ x, l[i]? = some x := ⟨_, List.getElem?_eq_getElem (by omega)⟩
      obtain ⟨s, off, rfl, hs1, hs2⟩ := HRR.out (by omega)
      have hxm := List.mem_of_getElem? hx
      have HX : Hid x.ok := HE.out.1.1 x hxm
      have HR : Hid (wr.rangeAt s (off + i * 36) x.cells ∧ s < wr.heap.size) := ⟨rangeAt_same (hs2 i x hx) (HI.out.2.2.block s hs1), Nat.lt_of_lt_of_le hs1 HI.out.2.2.size⟩
      obtain ⟨cc, hcut, hes⟩ := cut_is HE.out.1 i (by omega)
      rw [hlen] at hcut
      have HCUT : Hid (∀ W, (Instr.slice 27 (.slice (some ⟨s, off, none⟩) n cap) none (some (iv (i : Int))) none).run Tryd.prog W = .ok (.slice (some ⟨s, off, none⟩) i cc) W) := hcut
      have htk : 0 ≤ (lastE (l.take i)).tick := tick_ok (fun j hj => by
        rw [List.length_take] at hj
        have h1 := HI.out.2.1 j (by omega)
        rw [← List.take_append_drop i l] at h1
        exact (okAt_app (by rw [List.length_take]; exact hj)).1 h1)
      obtain ⟨E, hE⟩ : ∃ E : Bool, E = true ↔ nxE (l.take i) x.tick x.who x.what = (x, 0) := by
        by_cases hc : nxE (l.take i) x.tick x.who x.what = (x, 0)
        · exact ⟨true, fun _ => hc, fun _ => rfl⟩
        · exact ⟨false, (fun h => nomatch h), fun h => absurd h hc⟩
      have HFT : Hid (∀ V, Below wr.heap.size wr V → Calls Tryd.prog 29 #[.slice (some ⟨s, off, none⟩) i cc, .agg x.cells.toArray] V fun e V2 => e = .returned (.bool E) ∧ Below V.heap.size V V2) := fun V hV => refFits_is (hes.below (below_tr HI.out.2.2 hV)) (by rw [List.length_take]; have := HE.out.2.2.2.2; omega) (fun e he => HE.out.2.2.1 e (List.mem_of_mem_take he)) htk x HX.out E hE
      have HEE : Hid ((E = true ↔ nxE (l.take i) x.tick x.who x.what = (x, 0)) ∧ l[i]? = some x ∧ i < n) := ⟨hE, hx, q2⟩
      clear hi hx hs1 hs2 hxm hcut hes htk hE hlen
      go_wp2_with fail
      refine rv4 HX HR HCUT HFT q1 q2 ?_
      intro V hV
      have HV : Hid (Below w.heap.size w V) := below_tr HI.out.2.2 hV
      clear hV HFT HCUT
      cases E
      · have HF : Hid (k = (i : Int) ∧ Below w.heap.size w V) := by
          refine ⟨HE.out.2.2.2.1.one (.inr ⟨i, rfl, by have := HE.out.2.1; have := HEE.out.2.2; omega, fun hc => ?_, HI.out.2.1⟩), HV.out⟩
          exact absurd (HEE.out.1.2 (hc x HEE.out.2.1)) (by simp)
        go_wp2
        go_ret
        exact ⟨by rw [HF.out.1]; rfl, HF.out.2⟩
      · have HF : Hid (i + 1 ≤ n ∧ (∀ j, j < i + 1 → okAt l j) ∧ Below w.heap.size w V) := by
          refine ⟨HEE.out.2.2, fun j hj => ?_, HV.out⟩
          by_cases ej : j = i
          · subst ej
            intro e he
            rw [HEE.out.2.1] at he
            cases he
            exact HEE.out.1.1 rfl
          · exact HI.out.2.1 j (by omega)
        go_wp2
        go_roundw
        case rel => exact ⟨i + 1, by simp, HF.out⟩
        case measure =>
          have := HEE.out.2.2
          simp only [intOf]
          omega
#print axioms refVerify_is
end Go.Proofs.YtmmpafaegmejlaaDoor.Oct
