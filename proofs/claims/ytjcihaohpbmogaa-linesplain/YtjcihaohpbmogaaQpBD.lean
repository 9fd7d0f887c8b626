/-
  Layer 11 (lines): Add: what lies behind it gets one more step.
-/
import Derived.Test.YtjcihaohpbmogaaQpBC
/- Layer 11 (lines): Add: what lies behind it gets one more step. -/
namespace Go.Proofs.Ytjcihaohpbmogaa.Oct
open Go.RowKit
set_option maxRecDepth 100000
set_option linter.unusedSimpArgs false
set_option linter.unusedVariables false
set_option linter.unusedSectionVars false

theorem GAt.ov {w : World} {p : Nat} {G : Gm} (h : GAt w p G) {l : Ln} (hl : l ∈ G.ls) : OV 0 w (.slice (some ⟨l.rb, 0, none⟩) l.p.fr.length l.cap) l.p.fr.length l.p.fr := by
  have hk := h.ok l hl
  have hb := h.row hl
  refine ⟨⟨FV_len _ hk.fr, .inr ⟨l.rb, l.cap, (FV l.p.fr ++ l.rest).toArray, rfl, Nat.zero_le _, hb, hk.cap, hk.big, by simpa using hk.row, ?_⟩⟩, hk.fr⟩
  rw [List.toList_toArray, ← FV_len _ hk.fr, List.take_left]
/-- a row of one's own, as what lies in its block -/
theorem OV.blk {B : Nat} {w : World} {g n c : Nat} {vs : List Vx} (h : OV B w (.slice (some ⟨g, 0, none⟩) n c) n vs) : ∃ rest, Blk w g 34 (FV vs ++ rest) ∧ (FV vs ++ rest).length = c * 33 ∧ n ≤ c ∧ c ≤ maxLen := by
  rcases h.1.2 with ⟨h1, _⟩ | ⟨g', cap, cur, h1, h2, h3, h4, h5, h6, h7⟩
  · cases h1
  · cases h1
    have e : FV vs ++ cur.toList.drop (n * 33) = cur.toList := by rw [← h7, List.take_append_drop]
    refine ⟨cur.toList.drop (n * 33), ?_, ?_, h4, h5⟩
    · rw [e]
      exact h3
    · rw [e]
      simpa using h6
theorem run_app1 (W : World) (ty : TypeId) (g n c : Nat) (vs : List Vx) (r : Nat) (x : Vx) (h : OV 0 W (.slice (some ⟨g, 0, none⟩) n c) n vs) (hx : Vk x) (hr : Blk W r 34 x.cells) (hn : n ≤ 100000) :
    ∃ g' c' W', (Builtin.append_ #[35, 35] ty #[.slice (some ⟨g, 0, none⟩) n c, .slice (some ⟨r, 0, none⟩) 1 1]).run Try.prog W = .ok (.slice (some ⟨g', 0, none⟩) (n + 1) c') W' ∧ OV 0 W' (.slice (some ⟨g', 0, none⟩) (n + 1) c') (n + 1) (vs ++ [x]) ∧ W.grownBy W' (some g) ∧ (g' = g ∨ W.heap.size ≤ g') := by
  have hv : VsR W (some ⟨r, 0, none⟩) 1 [x] := ⟨rfl, by simpa using hx, fun _ => ⟨r, 0, rfl, hr.lt, fun i y hi => by
    cases i with
    | zero =>
      simp at hi; subst hi
      simpa using hr.range0
    | succ i => simp at hi⟩⟩
  obtain ⟨v', W', h1, h2, h3, h4⟩ := run_app W 0 ty _ n vs _ 1 1 [x] h hv (by omega) (Nat.zero_le _)
  obtain ⟨g', c', rfl, _⟩ := h2.slice (by omega)
  refine ⟨g', c', W', h1, h2, h3, ?_⟩
  rcases h4 with e | e
  · exact .inl (Option.some.inj e)
  · exact .inr (Nat.le_of_eq (Option.some.inj e).symm)
set_option maxRecDepth 100000 in
set_option maxHeartbeats 4000000 in
theorem ad16 {Q : Exit → Act → World → Prop} {x0 x1 x2 x3 x4 x5 x6 x7 x8 x9 x10 x11 x13 x14 x15 x17 x18 x19 x20 x21 x22 x23 x24 x25 x26 x27 x28 x29 x30 x31 x32 x33 x34 x35 x36 x37 x38 x39 x40 x41 x42 x43 x44 x45 x46 x47 x48 x49 x50 x51 x52 x53 x54 x55 x56 x57 x58 x59 x60 x61 x62 x63 x64 x65 x66 x67 x68 x69 x70 x71 x72 x73 x74 x75 x76 x77 x78 : Value} {ds : List Deferred} {A : World} {d12 lb rb nn lc : Nat} {ab : Vx} {LC : List Value} {fr : List Vx}
    (HL : Hid (d12 < A.heap.size ∧ ¬ (d12 = lb ∨ d12 = rb))) (HR : Hid (A.rangeAt d12 0 ab.cells)) (HV : Hid (Vk ab)) (HX : Hid (Blk A lb 86 LC ∧ OV 0 A (.slice (some ⟨rb, 0, none⟩) nn lc) nn fr)) (HC : Hid (LC[1]? = some (.slice (some ⟨rb, 0, none⟩) nn lc))) (HN : Hid (nn ≤ 100000)) (HNE : Hid (lb ≠ rb)) (HLB : Hid (lb < A.heap.size))
    (hQ : ∀ V3 r g' c', (Keep (fun k => k = lb ∨ k = rb) A V3 ∧ Blk V3 lb 86 (LC.set 1 (.slice (some ⟨g', 0, none⟩) (nn + 1) c')) ∧ OV 0 V3 (.slice (some ⟨g', 0, none⟩) (nn + 1) c') (nn + 1) (fr ++ [ab]) ∧ (g' = rb ∨ A.heap.size ≤ g')) → Q .normal { tmps := #[x0, x1, x2, x3, x4, x5, x6, x7, x8, x9, x10, x11, .pointer (some ⟨d12, 0, none⟩), x13, x14, x15, .pointer (some ⟨lb, 0, none⟩), x17, x18, x19, x20, x21, x22, x23, x24, x25, x26, x27, x28, x29, x30, x31, x32, x33, x34, x35, x36, x37, x38, x39, x40, x41, x42, x43, x44, x45, x46, x47, x48, x49, x50, x51, x52, x53, x54, x55, x56, x57, x58, x59, x60, x61, x62, x63, x64, x65, x66, x67, x68, .pointer (some ⟨lb, 0, none⟩), .pointer (some ⟨lb, 0, none⟩), .pointer (some ⟨lb, 0, none⟩), .pointer (some ⟨lb, 1, none⟩), .slice (some ⟨rb, 0, none⟩) nn lc, .agg ab.cells.toArray, .slice (some ⟨r, 0, none⟩) 1 1, (.slice (some ⟨g', 0, none⟩) (nn + 1) c'), .pointer (some ⟨lb, 0, none⟩), .pointer (some ⟨lb, 1, none⟩)], defers := ds } V3) :
    (Code.region 16 #[{ dst := some 69, op := Op.move (Operand.tmp 16), type := 71, pos := "change.go:24", after := #[], guard := none }, { dst := some 70, op := Op.move (Operand.tmp 16), type := 71, pos := "change.go:24", after := #[], guard := none }, { dst := some 71, op := Op.nilCheck (Operand.tmp 70), type := 0, pos := "change.go:24", after := #[{ on := 1, ground := Ground.data }], guard := none }, { dst := some 72, op := Op.fieldAddr 86 (Operand.tmp 71) 1, type := 0, pos := "change.go:24", after := #[{ on := 2, ground := Ground.data }], guard := none }, { dst := some 73, op := Op.load 35 (Operand.tmp 72), type := 35, pos := "change.go:24", after := #[{ on := 3, ground := Ground.data }], guard := none }, { dst := some 74, op := Op.load 34 (Operand.tmp 12), type := 34, pos := "change.go:24", after := #[], guard := none }, { dst := some 75, op := Op.buildSlice 35 1 #[(0, Operand.tmp 74)], type := 35, pos := "change.go:24", after := #[{ on := 5, ground := Ground.data }], guard := none }, { dst := some 76, op := Op.call { callee := Callee.builtin Builtin.append, args := #[Operand.tmp 73, Operand.tmp 75], argTypes := #[35, 35] }, type := 35, pos := "change.go:24", after := #[{ on := 4, ground := Ground.data }, { on := 6, ground := Ground.data }], guard := none }, { dst := some 77, op := Op.nilCheck (Operand.tmp 69), type := 0, pos := "change.go:24", after := #[{ on := 0, ground := Ground.data }, { on := 0, ground := Ground.phase }, { on := 1, ground := Ground.phase }, { on := 2, ground := Ground.phase }, { on := 3, ground := Ground.phase }, { on := 4, ground := Ground.phase }, { on := 5, ground := Ground.phase }, { on := 6, ground := Ground.phase }, { on := 7, ground := Ground.phase }], guard := none }, { dst := some 78, op := Op.fieldAddr 86 (Operand.tmp 77) 1, type := 0, pos := "change.go:24", after := #[{ on := 8, ground := Ground.data }, { on := 0, ground := Ground.phase }, { on := 1, ground := Ground.phase }, { on := 2, ground := Ground.phase }, { on := 3, ground := Ground.phase }, { on := 4, ground := Ground.phase }, { on := 5, ground := Ground.phase }, { on := 6, ground := Ground.phase }, { on := 7, ground := Ground.phase }], guard := none }, { dst := none, op := Op.store 35 (Operand.tmp 78) (Operand.tmp 76), type := 0, pos := "change.go:24", after := #[{ on := 9, ground := Ground.data }, { on := 7, ground := Ground.data }, { on := 7, ground := Ground.chain }, { on := 0, ground := Ground.phase }, { on := 1, ground := Ground.phase }, { on := 2, ground := Ground.phase }, { on := 3, ground := Ground.phase }, { on := 4, ground := Ground.phase }, { on := 5, ground := Ground.phase }, { on := 6, ground := Ground.phase }, { on := 7, ground := Ground.phase }], guard := none }] true).wp Try.prog Q { tmps := #[x0, x1, x2, x3, x4, x5, x6, x7, x8, x9, x10, x11, .pointer (some ⟨d12, 0, none⟩), x13, x14, x15, .pointer (some ⟨lb, 0, none⟩), x17, x18, x19, x20, x21, x22, x23, x24, x25, x26, x27, x28, x29, x30, x31, x32, x33, x34, x35, x36, x37, x38, x39, x40, x41, x42, x43, x44, x45, x46, x47, x48, x49, x50, x51, x52, x53, x54, x55, x56, x57, x58, x59, x60, x61, x62, x63, x64, x65, x66, x67, x68, x69, x70, x71, x72, x73, x74, x75, x76, x77, x78], defers := ds } A := by
  refine Code.wp_mono (Q := fun x a' w' => match x with | .normal => Q .normal a' w' | _ => False) (by intro x a' w' h; cases x <;> first | exact h | exact h.elim) ?_
  refine wp_region_held (S := fun V => Keep (fun k => k = lb ∨ k = rb) A V) (by kernel_rfl) ?_
  have hS0 : Hid (Keep (fun k => k = lb ∨ k = rb) A A.drew) := (Keep.refl _ A).drew
  change wpAnyH Try.prog .any _ _ (fun V => Keep (fun k => k = lb ∨ k = rb) A V) 11 (Array.replicate 11 false) _ A.drew
  obtain ⟨V0, hV0⟩ : ∃ V0, A.drew = V0 := ⟨_, rfl⟩
  rw [hV0]
  rw [hV0] at hS0
  have hX0 : Hid (Blk V0 lb 86 LC ∧ OV 0 V0 (.slice (some ⟨rb, 0, none⟩) nn lc) nn fr) := by
    show (Blk V0 lb 86 LC ∧ OV 0 V0 (.slice (some ⟨rb, 0, none⟩) nn lc) nn fr)
    rw [← hV0]
    exact ⟨HX.out.1, HX.out.2⟩
  clear hV0
  refine wpAnyH_take (i := 0) (oi := { dst := some 69, op := Op.move (Operand.tmp 16), type := 71, pos := "change.go:24", after := #[], guard := none }) (v := .pointer (some ⟨lb, 0, none⟩)) rfl (by kernel_rfl) (by kernel_rfl) (by kernel_rfl) (fun _ _ _ h => h.elim) (Or.inl ⟨by rfl, ?y1⟩) hS0.out ?_
  case y1 =>
    intro V hV
    go_simp
  simp only [Act.put, List.setIfInBounds_toArray, List.set_cons_zero, List.set_cons_succ]
  refine wpAnyH_take (i := 1) (oi := { dst := some 70, op := Op.move (Operand.tmp 16), type := 71, pos := "change.go:24", after := #[], guard := none }) (v := .pointer (some ⟨lb, 0, none⟩)) rfl (by kernel_rfl) (by kernel_rfl) (by kernel_rfl) (fun _ _ _ h => h.elim) (Or.inl ⟨by rfl, ?y2⟩) hS0.out ?_
  case y2 =>
    intro V hV
    go_simp
  simp only [Act.put, List.setIfInBounds_toArray, List.set_cons_zero, List.set_cons_succ]
  refine wpAnyH_take (i := 2) (oi := { dst := some 71, op := Op.nilCheck (Operand.tmp 70), type := 0, pos := "change.go:24", after := #[{ on := 1, ground := Ground.data }], guard := none }) (v := .pointer (some ⟨lb, 0, none⟩)) rfl (by kernel_rfl) (by kernel_rfl) (by kernel_rfl) (fun _ _ _ h => h.elim) (Or.inl ⟨by rfl, ?y3⟩) hS0.out ?_
  case y3 =>
    intro V hV
    go_simp
  simp only [Act.put, List.setIfInBounds_toArray, List.set_cons_zero, List.set_cons_succ]
  refine wpAnyH_take (i := 3) (oi := { dst := some 72, op := Op.fieldAddr 86 (Operand.tmp 71) 1, type := 0, pos := "change.go:24", after := #[{ on := 2, ground := Ground.data }], guard := none }) (v := .pointer (some ⟨lb, 1, none⟩)) rfl (by kernel_rfl) (by kernel_rfl) (by kernel_rfl) (fun _ _ _ h => h.elim) (Or.inl ⟨by rfl, ?y4⟩) hS0.out ?_
  case y4 =>
    intro V hV
    go_simp
  simp only [Act.put, List.setIfInBounds_toArray, List.set_cons_zero, List.set_cons_succ]
  refine wpAnyH_take (i := 5) (oi := { dst := some 74, op := Op.load 34 (Operand.tmp 12), type := 34, pos := "change.go:24", after := #[], guard := none }) (v := .agg ab.cells.toArray) rfl (by kernel_rfl) (by kernel_rfl) (by kernel_rfl) (fun _ _ _ h => h.elim) (yieldsIf_load_mid (by rfl) _ _ rfl _ _ rfl (ab.cells) _ (fun V hV => rangeAt_same (HR.out) ((show Keep (fun k => k = lb ∨ k = rb) A V from hV).block _ (HL.out.1) (HL.out.2))) Try.underlying34 rfl (info34 HV.out.1)) hS0.out ?_
  simp only [Act.put, List.setIfInBounds_toArray, List.set_cons_zero, List.set_cons_succ]
  refine wpAnyH_ready (rs := [4, 6]) (by kernel_rfl) (by simp) (AllReadyH.cons (i := 4) (o := { dst := some 73, op := Op.load 35 (Operand.tmp 72), type := 35, pos := "change.go:24", after := #[{ on := 3, ground := Ground.data }], guard := none }) rfl ?_ (AllReadyH.cons (i := 6) (o := { dst := some 75, op := Op.buildSlice 35 1 #[(0, Operand.tmp 74)], type := 35, pos := "change.go:24", after := #[{ on := 5, ground := Ground.data }], guard := none }) rfl ?_ AllReadyH.nil))
  · intro K1 hK1
    rw [if_pos (by rfl)]
    have hc : V0.cell? ⟨lb, 1, none⟩ = some (.slice (some ⟨rb, 0, none⟩) nn lc) := hX0.out.1.cell HC.out
    go_wp2
    clear hc
    refine hK1.out _ _ hS0.out ?_
    clear hK1
    intro _
    try simp only [Act.put, List.setIfInBounds_toArray, List.set_cons_zero, List.set_cons_succ]
    refine wpAnyH_ready (rs := [6]) (by kernel_rfl) (by simp) (AllReadyH.cons (i := 6) (o := { dst := some 75, op := Op.buildSlice 35 1 #[(0, Operand.tmp 74)], type := 35, pos := "change.go:24", after := #[{ on := 5, ground := Ground.data }], guard := none }) rfl ?_ AllReadyH.nil)
    · intro K1 hK1
      refine step_bs1 (by rfl) _ rfl ab HV.out.1 rfl ?_
      obtain ⟨V2, hv2⟩ : ∃ V, V0.alloc (.cells ab.cells.toArray 34) = V := ⟨_, rfl⟩
      obtain ⟨r, hr2⟩ : ∃ m, V0.heap.size = m := ⟨_, rfl⟩
      have hb2 : Below V0.heap.size V0 V2 := by rw [← hv2]; exact below_al _ _
      have hS2 : Hid (Keep (fun k => k = lb ∨ k = rb) A V2) := (hS0.out).trans (Keep.below (S := fun _ => False) hb2) (fun _ h _ => h.elim)
      have hX2 : Hid (Blk V2 lb 86 LC ∧ OV 0 V2 (.slice (some ⟨rb, 0, none⟩) nn lc) nn fr) := ⟨hX0.out.1.below hb2 hX0.out.1.lt, hX0.out.2.below hb2⟩
      have hR2 : Hid (Blk V2 r 34 ab.cells) := by
        show Blk _ _ _ _
        rw [← hv2, ← hr2]
        exact Blk.new _ _ _
      rw [hv2, hr2]
      clear hv2 hr2 hb2
      refine hK1.out _ _ hS2.out ?_
      clear hK1
      intro _
      try simp only [Act.put, List.setIfInBounds_toArray, List.set_cons_zero, List.set_cons_succ]
      refine wpAnyH_ready (rs := [7]) (by kernel_rfl) (by simp) (AllReadyH.cons (i := 7) (o := { dst := some 76, op := Op.call { callee := Callee.builtin Builtin.append, args := #[Operand.tmp 73, Operand.tmp 75], argTypes := #[35, 35] }, type := 35, pos := "change.go:24", after := #[{ on := 4, ground := Ground.data }, { on := 6, ground := Ground.data }], guard := none }) rfl ?_ AllReadyH.nil)
      · intro K1 hK1
        obtain ⟨g', c', V3, hr3, ho3, hg3, hw3⟩ := run_app1 V2 35 rb nn lc fr r ab hX2.out.2 HV.out hR2.out HN.out
        refine step_apd (by rfl) _ _ rfl hr3 rfl rfl ?_
        have hS3 : Hid (Keep (fun k => k = lb ∨ k = rb) A V3) := (hS2.out).trans (Keep.grown (S := fun k => k = lb ∨ k = rb) hg3 (.inr rfl)) (fun _ h _ => h)
        have hX3 : Hid (Blk V3 lb 86 LC ∧ OV 0 V3 (.slice (some ⟨g', 0, none⟩) (nn + 1) c') (nn + 1) (fr ++ [ab]) ∧ (g' = rb ∨ A.heap.size ≤ g')) := ⟨hX2.out.1.kept hg3 (fun h => HNE.out (Option.some.inj h)), ho3, hw3.imp id (fun h => Nat.le_trans (hS2.out).size h)⟩
        clear hr3 ho3 hg3 hw3
        refine hK1.out _ _ hS3.out ?_
        clear hK1
        intro _
        try simp only [Act.put, List.setIfInBounds_toArray, List.set_cons_zero, List.set_cons_succ]
        refine wpAnyH_take (i := 8) (oi := { dst := some 77, op := Op.nilCheck (Operand.tmp 69), type := 0, pos := "change.go:24", after := #[{ on := 0, ground := Ground.data }, { on := 0, ground := Ground.phase }, { on := 1, ground := Ground.phase }, { on := 2, ground := Ground.phase }, { on := 3, ground := Ground.phase }, { on := 4, ground := Ground.phase }, { on := 5, ground := Ground.phase }, { on := 6, ground := Ground.phase }, { on := 7, ground := Ground.phase }], guard := none }) (v := .pointer (some ⟨lb, 0, none⟩)) rfl (by kernel_rfl) (by kernel_rfl) (by kernel_rfl) (fun _ _ _ h => h.elim) (Or.inl ⟨by rfl, ?y5⟩) hS3.out ?_
        case y5 =>
          intro V hV
          go_simp
        simp only [Act.put, List.setIfInBounds_toArray, List.set_cons_zero, List.set_cons_succ]
        refine wpAnyH_take (i := 9) (oi := { dst := some 78, op := Op.fieldAddr 86 (Operand.tmp 77) 1, type := 0, pos := "change.go:24", after := #[{ on := 8, ground := Ground.data }, { on := 0, ground := Ground.phase }, { on := 1, ground := Ground.phase }, { on := 2, ground := Ground.phase }, { on := 3, ground := Ground.phase }, { on := 4, ground := Ground.phase }, { on := 5, ground := Ground.phase }, { on := 6, ground := Ground.phase }, { on := 7, ground := Ground.phase }], guard := none }) (v := .pointer (some ⟨lb, 1, none⟩)) rfl (by kernel_rfl) (by kernel_rfl) (by kernel_rfl) (fun _ _ _ h => h.elim) (Or.inl ⟨by rfl, ?y6⟩) hS3.out ?_
        case y6 =>
          intro V hV
          go_simp
        simp only [Act.put, List.setIfInBounds_toArray, List.set_cons_zero, List.set_cons_succ]
        refine wpAnyH_ready (rs := [10]) (by kernel_rfl) (by simp) (AllReadyH.cons (i := 10) (o := { dst := none, op := Op.store 35 (Operand.tmp 78) (Operand.tmp 76), type := 0, pos := "change.go:24", after := #[{ on := 9, ground := Ground.data }, { on := 7, ground := Ground.data }, { on := 7, ground := Ground.chain }, { on := 0, ground := Ground.phase }, { on := 1, ground := Ground.phase }, { on := 2, ground := Ground.phase }, { on := 3, ground := Ground.phase }, { on := 4, ground := Ground.phase }, { on := 5, ground := Ground.phase }, { on := 6, ground := Ground.phase }, { on := 7, ground := Ground.phase }], guard := none }) rfl ?_ AllReadyH.nil)
        · intro K1 hK1
          refine step_stc (by rfl) 35 _ _ rfl (by kernel_rfl) (v := .slice (some ⟨g', 0, none⟩) (nn + 1) c') (b := lb) (i := 1) rfl rfl rfl rfl (hX3.out.1.cell HC.out) (hX3.out.1.free 1) ?_
          obtain ⟨V4, hv4⟩ : ∃ V, V3.setCell ⟨lb, 1, none⟩ (.slice (some ⟨g', 0, none⟩) (nn + 1) c') = V := ⟨_, rfl⟩
          have hg4 : V3.grownBy V4 (some lb) := by rw [← hv4]; exact grown_setCell _ _ _ _
          have hS4 : Hid (Keep (fun k => k = lb ∨ k = rb) A V4) := (hS3.out).trans (Keep.grown (S := fun k => k = lb ∨ k = rb) hg4 (.inl rfl)) (fun _ h _ => h)
          have hX4 : Hid (Blk V4 lb 86 (LC.set 1 (.slice (some ⟨g', 0, none⟩) (nn + 1) c')) ∧ OV 0 V4 (.slice (some ⟨g', 0, none⟩) (nn + 1) c') (nn + 1) (fr ++ [ab]) ∧ (g' = rb ∨ A.heap.size ≤ g')) := by
            refine ⟨by rw [← hv4]; exact hX3.out.1.set 1 _, ?_, hX3.out.2.2⟩
            have hq := hX3.out.2.1
            refine ⟨⟨hq.1.1, ?_⟩, hq.2⟩
            rcases hq.1.2 with h1 | ⟨g1, cap, cur, h1, h2, h3, h4⟩
            · exact .inl h1
            · refine .inr ⟨g1, cap, cur, h1, h2, (hg4.block g1 (Array.getElem?_eq_some_iff.1 h3).1 (fun e => ?_)).trans h3, h4⟩
              cases h1
              cases e
              rcases hX3.out.2.2 with e | e
              · exact HNE.out e
              · have := HLB.out
                omega
          rw [hv4]
          clear hv4 hg4
          refine hK1.out _ _ hS4.out ?_
          clear hK1
          intro _
          try simp only [Act.put, List.setIfInBounds_toArray, List.set_cons_zero, List.set_cons_succ]
          refine wpAnyH_done (by kernel_rfl) ?_ _
          exact hQ V4 r g' c' ⟨hS4.out, hX4.out⟩
  · intro K1 hK1
    refine step_bs1 (by rfl) _ rfl ab HV.out.1 rfl ?_
    obtain ⟨V1, hv1⟩ : ∃ V, V0.alloc (.cells ab.cells.toArray 34) = V := ⟨_, rfl⟩
    obtain ⟨r, hr1⟩ : ∃ m, V0.heap.size = m := ⟨_, rfl⟩
    have hb1 : Below V0.heap.size V0 V1 := by rw [← hv1]; exact below_al _ _
    have hS1 : Hid (Keep (fun k => k = lb ∨ k = rb) A V1) := (hS0.out).trans (Keep.below (S := fun _ => False) hb1) (fun _ h _ => h.elim)
    have hX1 : Hid (Blk V1 lb 86 LC ∧ OV 0 V1 (.slice (some ⟨rb, 0, none⟩) nn lc) nn fr) := ⟨hX0.out.1.below hb1 hX0.out.1.lt, hX0.out.2.below hb1⟩
    have hR1 : Hid (Blk V1 r 34 ab.cells) := by
      show Blk _ _ _ _
      rw [← hv1, ← hr1]
      exact Blk.new _ _ _
    rw [hv1, hr1]
    clear hv1 hr1 hb1
    refine hK1.out _ _ hS1.out ?_
    clear hK1
    intro _
    try simp only [Act.put, List.setIfInBounds_toArray, List.set_cons_zero, List.set_cons_succ]
    refine wpAnyH_ready (rs := [4]) (by kernel_rfl) (by simp) (AllReadyH.cons (i := 4) (o := { dst := some 73, op := Op.load 35 (Operand.tmp 72), type := 35, pos := "change.go:24", after := #[{ on := 3, ground := Ground.data }], guard := none }) rfl ?_ AllReadyH.nil)
    · intro K1 hK1
      rw [if_pos (by rfl)]
      have hc : V1.cell? ⟨lb, 1, none⟩ = some (.slice (some ⟨rb, 0, none⟩) nn lc) := hX1.out.1.cell HC.out
      go_wp2
      clear hc
      refine hK1.out _ _ hS1.out ?_
      clear hK1
      intro _
      try simp only [Act.put, List.setIfInBounds_toArray, List.set_cons_zero, List.set_cons_succ]
      refine wpAnyH_ready (rs := [7]) (by kernel_rfl) (by simp) (AllReadyH.cons (i := 7) (o := { dst := some 76, op := Op.call { callee := Callee.builtin Builtin.append, args := #[Operand.tmp 73, Operand.tmp 75], argTypes := #[35, 35] }, type := 35, pos := "change.go:24", after := #[{ on := 4, ground := Ground.data }, { on := 6, ground := Ground.data }], guard := none }) rfl ?_ AllReadyH.nil)
      · intro K1 hK1
        obtain ⟨g', c', V3, hr3, ho3, hg3, hw3⟩ := run_app1 V1 35 rb nn lc fr r ab hX1.out.2 HV.out hR1.out HN.out
        refine step_apd (by rfl) _ _ rfl hr3 rfl rfl ?_
        have hS3 : Hid (Keep (fun k => k = lb ∨ k = rb) A V3) := (hS1.out).trans (Keep.grown (S := fun k => k = lb ∨ k = rb) hg3 (.inr rfl)) (fun _ h _ => h)
        have hX3 : Hid (Blk V3 lb 86 LC ∧ OV 0 V3 (.slice (some ⟨g', 0, none⟩) (nn + 1) c') (nn + 1) (fr ++ [ab]) ∧ (g' = rb ∨ A.heap.size ≤ g')) := ⟨hX1.out.1.kept hg3 (fun h => HNE.out (Option.some.inj h)), ho3, hw3.imp id (fun h => Nat.le_trans (hS1.out).size h)⟩
        clear hr3 ho3 hg3 hw3
        refine hK1.out _ _ hS3.out ?_
        clear hK1
        intro _
        try simp only [Act.put, List.setIfInBounds_toArray, List.set_cons_zero, List.set_cons_succ]
        refine wpAnyH_take (i := 8) (oi := { dst := some 77, op := Op.nilCheck (Operand.tmp 69), type := 0, pos := "change.go:24", after := #[{ on := 0, ground := Ground.data }, { on := 0, ground := Ground.phase }, { on := 1, ground := Ground.phase }, { on := 2, ground := Ground.phase }, { on := 3, ground := Ground.phase }, { on := 4, ground := Ground.phase }, { on := 5, ground := Ground.phase }, { on := 6, ground := Ground.phase }, { on := 7, ground := Ground.phase }], guard := none }) (v := .pointer (some ⟨lb, 0, none⟩)) rfl (by kernel_rfl) (by kernel_rfl) (by kernel_rfl) (fun _ _ _ h => h.elim) (Or.inl ⟨by rfl, ?y7⟩) hS3.out ?_
        case y7 =>
          intro V hV
          go_simp
        simp only [Act.put, List.setIfInBounds_toArray, List.set_cons_zero, List.set_cons_succ]
        refine wpAnyH_take (i := 9) (oi := { dst := some 78, op := Op.fieldAddr 86 (Operand.tmp 77) 1, type := 0, pos := "change.go:24", after := #[{ on := 8, ground := Ground.data }, { on := 0, ground := Ground.phase }, { on := 1, ground := Ground.phase }, { on := 2, ground := Ground.phase }, { on := 3, ground := Ground.phase }, { on := 4, ground := Ground.phase }, { on := 5, ground := Ground.phase }, { on := 6, ground := Ground.phase }, { on := 7, ground := Ground.phase }], guard := none }) (v := .pointer (some ⟨lb, 1, none⟩)) rfl (by kernel_rfl) (by kernel_rfl) (by kernel_rfl) (fun _ _ _ h => h.elim) (Or.inl ⟨by rfl, ?y8⟩) hS3.out ?_
        case y8 =>
          intro V hV
          go_simp
        simp only [Act.put, List.setIfInBounds_toArray, List.set_cons_zero, List.set_cons_succ]
        refine wpAnyH_ready (rs := [10]) (by kernel_rfl) (by simp) (AllReadyH.cons (i := 10) (o := { dst := none, op := Op.store 35 (Operand.tmp 78) (Operand.tmp 76), type := 0, pos := "change.go:24", after := #[{ on := 9, ground := Ground.data }, { on := 7, ground := Ground.data }, { on := 7, ground := Ground.chain }, { on := 0, ground := Ground.phase }, { on := 1, ground := Ground.phase }, { on := 2, ground := Ground.phase }, { on := 3, ground := Ground.phase }, { on := 4, ground := Ground.phase }, { on := 5, ground := Ground.phase }, { on := 6, ground := Ground.phase }, { on := 7, ground := Ground.phase }], guard := none }) rfl ?_ AllReadyH.nil)
        · intro K1 hK1
          refine step_stc (by rfl) 35 _ _ rfl (by kernel_rfl) (v := .slice (some ⟨g', 0, none⟩) (nn + 1) c') (b := lb) (i := 1) rfl rfl rfl rfl (hX3.out.1.cell HC.out) (hX3.out.1.free 1) ?_
          obtain ⟨V4, hv4⟩ : ∃ V, V3.setCell ⟨lb, 1, none⟩ (.slice (some ⟨g', 0, none⟩) (nn + 1) c') = V := ⟨_, rfl⟩
          have hg4 : V3.grownBy V4 (some lb) := by rw [← hv4]; exact grown_setCell _ _ _ _
          have hS4 : Hid (Keep (fun k => k = lb ∨ k = rb) A V4) := (hS3.out).trans (Keep.grown (S := fun k => k = lb ∨ k = rb) hg4 (.inl rfl)) (fun _ h _ => h)
          have hX4 : Hid (Blk V4 lb 86 (LC.set 1 (.slice (some ⟨g', 0, none⟩) (nn + 1) c')) ∧ OV 0 V4 (.slice (some ⟨g', 0, none⟩) (nn + 1) c') (nn + 1) (fr ++ [ab]) ∧ (g' = rb ∨ A.heap.size ≤ g')) := by
            refine ⟨by rw [← hv4]; exact hX3.out.1.set 1 _, ?_, hX3.out.2.2⟩
            have hq := hX3.out.2.1
            refine ⟨⟨hq.1.1, ?_⟩, hq.2⟩
            rcases hq.1.2 with h1 | ⟨g1, cap, cur, h1, h2, h3, h4⟩
            · exact .inl h1
            · refine .inr ⟨g1, cap, cur, h1, h2, (hg4.block g1 (Array.getElem?_eq_some_iff.1 h3).1 (fun e => ?_)).trans h3, h4⟩
              cases h1
              cases e
              rcases hX3.out.2.2 with e | e
              · exact HNE.out e
              · have := HLB.out
                omega
          rw [hv4]
          clear hv4 hg4
          refine hK1.out _ _ hS4.out ?_
          clear hK1
          intro _
          try simp only [Act.put, List.setIfInBounds_toArray, List.set_cons_zero, List.set_cons_succ]
          refine wpAnyH_done (by kernel_rfl) ?_ _
          exact hQ V4 r g' c' ⟨hS4.out, hX4.out⟩
end Go.Proofs.Ytjcihaohpbmogaa.Oct
