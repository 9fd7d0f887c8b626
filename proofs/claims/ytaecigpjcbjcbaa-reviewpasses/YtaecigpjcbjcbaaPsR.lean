/-
  Layer 20 (review): ReviewPasses: its drawn regions.
-/
import Derived.Test.YtaecigpjcbjcbaaPsB
namespace Go.Proofs.Ytaecigpjcbjcbaa.Oct
open Go.RowKit
set_option linter.unusedSimpArgs false
set_option linter.unusedVariables false

/-- what the region leaves behind its first store -/
def Half (A : World) (g : Nat) (p : Pp) (yes no : List BA) (sy sn : Sl) (V : World) : Prop :=
  Blk V g 43 ({ p with y := sy } : Pp).cells ∧ Txt V sy yes ∧ Txt V sn no ∧ Keep (fun k => k = g) A V ∧ (∀ k off, sy.a = some ⟨k, off, none⟩ → A.heap.size ≤ k ∧ k < V.heap.size) ∧ (∀ k off, sn.a = some ⟨k, off, none⟩ → A.heap.size ≤ k ∧ k < V.heap.size)
theorem half_of {A W V : World} {g : Nat} {p : Pp} {yes no : List BA} {sy sn : Sl} (HL : Hid (g < A.heap.size ∧ p.patch.length = 32)) (hb : Blk W g 43 p.cells) (hk : Keep (fun k => k = g) A W) (hty : Txt W sy yes) (htn : Txt W sn no) (hyb : ∀ k off, sy.a = some ⟨k, off, none⟩ → A.heap.size ≤ k ∧ k < W.heap.size) (hnb : ∀ k off, sn.a = some ⟨k, off, none⟩ → A.heap.size ≤ k ∧ k < W.heap.size) (hv : W.setCell ⟨g, 36, none⟩ (.slice sy.a sy.n sy.c) = V) : Half A g p yes no sy sn V := by
  have hg : W.grownBy V (some g) := by rw [← hv]; exact grown_setCell _ _ _ _
  refine ⟨by rw [← hv, ← Pp.set_y HL.out.2]; exact hb.set 36 _, hty.same (fun k off ha => hg.block k (hyb k off ha).2 (fun hk => by cases hk; have := (hyb g off ha).1; have := HL.out.1; omega)), htn.same (fun k off ha => hg.block k (hnb k off ha).2 (fun hk => by cases hk; have := (hnb g off ha).1; have := HL.out.1; omega)), hk.trans (Keep.grown (S := fun k => k = g) hg rfl) (fun _ hj _ => hj), fun k off ha => ⟨(hyb k off ha).1, Nat.lt_of_lt_of_le (hyb k off ha).2 hg.size⟩, fun k off ha => ⟨(hnb k off ha).1, Nat.lt_of_lt_of_le (hnb k off ha).2 hg.size⟩⟩
theorem copied_of {A W V : World} {g : Nat} {p : Pp} {yes no : List BA} {sy sn : Sl} (HL : Hid (g < A.heap.size ∧ p.patch.length = 32)) (F : Half A g p yes no sy sn W) (hv : W.setCell ⟨g, 37, none⟩ (.slice sn.a sn.n sn.c) = V) : Copied A g p yes no sy sn V := by
  have hg : W.grownBy V (some g) := by rw [← hv]; exact grown_setCell _ _ _ _
  refine ⟨by rw [← hv]; have h0 := F.1.set 37 (.slice sn.a sn.n sn.c); rw [Pp.set_n (p := { p with y := sy }) HL.out.2] at h0; exact h0, F.2.1.same (fun k off ha => hg.block k (F.2.2.2.2.1 k off ha).2 (fun hk => by cases hk; have := (F.2.2.2.2.1 g off ha).1; have := HL.out.1; omega)), F.2.2.1.same (fun k off ha => hg.block k (F.2.2.2.2.2 k off ha).2 (fun hk => by cases hk; have := (F.2.2.2.2.2 g off ha).1; have := HL.out.1; omega)), F.2.2.2.1.trans (Keep.grown (S := fun k => k = g) hg rfl) (fun _ hj _ => hj)⟩

set_option maxRecDepth 100000 in
set_option maxHeartbeats 4000000 in
theorem pas13 {Q : Exit → Act → World → Prop} {x0 x1 x3 x4 x5 x6 x7 x8 x9 x10 x11 x12 x13 x14 x15 x16 x17 x18 x19 x20 x21 x22 x23 x24 x25 x26 x27 x28 x29 x30 x31 x32 x33 x34 x35 x36 x37 x38 x39 x40 x41 x42 x43 x44 x45 x46 x47 x48 x49 x50 x51 x52 x53 x54 x55 x56 x57 x58 x59 x60 x61 x62 x63 x64 x65 x66 x67 x68 x69 x70 : Value} {ds : List Deferred} {A : World} {g : Nat} {p : Pp} {yes no : List BA}
    (HL : Hid (g < A.heap.size ∧ p.patch.length = 32)) (HX : Hid (Blk A g 43 p.cells)) (HNE : Hid ((∀ b off, p.y.a = some ⟨b, off, none⟩ → 0 < p.y.n → b ≠ g) ∧ ∀ b off, p.n.a = some ⟨b, off, none⟩ → 0 < p.n.n → b ≠ g)) (HY : Hid (Strs A p.y.a p.y.n yes ∧ yes.length ≤ 1000 ∧ (∀ x ∈ yes, x.size ≤ 140737488355328) ∧ True)) (HN : Hid (Strs A p.n.a p.n.n no ∧ no.length ≤ 1000 ∧ (∀ x ∈ no, x.size ≤ 140737488355328) ∧ True))
    (hQ : ∀ V1 q1 q2 sy sn, Copied A g p yes no sy sn V1 → Q .normal { tmps := #[x0, x1, .pointer (some ⟨g, 0, none⟩), x3, x4, x5, x6, x7, x8, x9, x10, x11, x12, x13, x14, x15, x16, x17, x18, x19, x20, x21, x22, x23, x24, x25, x26, x27, x28, x29, x30, x31, x32, x33, x34, x35, x36, x37, x38, x39, x40, .slice (some ⟨q1, 0, none⟩) 0 0, .pointer (some ⟨g, 36, none⟩), .slice p.y.a p.y.n p.y.c, .slice sy.a sy.n sy.c, .slice (some ⟨q2, 0, none⟩) 0 0, .pointer (some ⟨g, 37, none⟩), .slice p.n.a p.n.n p.n.c, .slice sn.a sn.n sn.c, .pointer (some ⟨g, 36, none⟩), .pointer (some ⟨g, 37, none⟩), x51, x52, x53, x54, x55, x56, x57, x58, x59, x60, x61, x62, x63, x64, x65, x66, x67, x68, x69, x70], defers := ds } V1) :
    (Code.region 13 #[⟨some 41, Op.buildSlice 40 0 #[], 40, "law.go:123", #[], none⟩, ⟨some 42, Op.fieldAddr 43 (.tmp 2) 5, 0, "law.go:123", #[], none⟩, ⟨some 43, Op.load 40 (.tmp 42), 40, "law.go:123", #[⟨1, .data⟩], none⟩, ⟨some 44, Op.call { callee := Callee.builtin Builtin.append, args := #[Operand.tmp 41, Operand.tmp 43], argTypes := #[40, 40] }, 40, "law.go:123", #[⟨0, .data⟩, ⟨2, .data⟩], none⟩, ⟨some 45, Op.buildSlice 40 0 #[], 40, "law.go:123", #[], none⟩, ⟨some 46, Op.fieldAddr 43 (.tmp 2) 6, 0, "law.go:123", #[], none⟩, ⟨some 47, Op.load 40 (.tmp 46), 40, "law.go:123", #[⟨5, .data⟩], none⟩, ⟨some 48, Op.call { callee := Callee.builtin Builtin.append, args := #[Operand.tmp 45, Operand.tmp 47], argTypes := #[40, 40] }, 40, "law.go:123", #[⟨4, .data⟩, ⟨6, .data⟩, ⟨3, .chain⟩], none⟩, ⟨some 49, Op.fieldAddr 43 (.tmp 2) 5, 0, "law.go:123", #[⟨0, .phase⟩, ⟨1, .phase⟩, ⟨2, .phase⟩, ⟨3, .phase⟩, { on := 4, ground := Ground.textOnly Departure.lateStores }, ⟨5, .phase⟩, ⟨6, .phase⟩, { on := 7, ground := Ground.textOnly Departure.lateStoresUnsure }], none⟩, ⟨none, Op.store 40 (.tmp 49) (.tmp 44), 0, "law.go:123", #[⟨8, .data⟩, ⟨3, .data⟩, ⟨7, .chain⟩, ⟨0, .phase⟩, ⟨1, .phase⟩, ⟨2, .phase⟩, ⟨3, .phase⟩, { on := 4, ground := Ground.textOnly Departure.lateStores }, ⟨5, .phase⟩, ⟨6, .phase⟩, { on := 7, ground := Ground.textOnly Departure.lateStoresUnsure }], none⟩, ⟨some 50, Op.fieldAddr 43 (.tmp 2) 6, 0, "law.go:123", #[⟨0, .phase⟩, ⟨1, .phase⟩, ⟨2, .phase⟩, ⟨3, .phase⟩, ⟨4, .phase⟩, ⟨5, .phase⟩, ⟨6, .phase⟩, ⟨7, .phase⟩, ⟨8, .phase⟩, ⟨9, .phase⟩], none⟩, ⟨none, Op.store 40 (.tmp 50) (.tmp 48), 0, "law.go:123", #[⟨10, .data⟩, ⟨7, .data⟩, ⟨9, .chain⟩, ⟨0, .phase⟩, ⟨1, .phase⟩, ⟨2, .phase⟩, ⟨3, .phase⟩, ⟨4, .phase⟩, ⟨5, .phase⟩, ⟨6, .phase⟩, ⟨7, .phase⟩, ⟨8, .phase⟩, ⟨9, .phase⟩], none⟩] true).wp Try.prog Q { tmps := #[x0, x1, .pointer (some ⟨g, 0, none⟩), x3, x4, x5, x6, x7, x8, x9, x10, x11, x12, x13, x14, x15, x16, x17, x18, x19, x20, x21, x22, x23, x24, x25, x26, x27, x28, x29, x30, x31, x32, x33, x34, x35, x36, x37, x38, x39, x40, x41, x42, x43, x44, x45, x46, x47, x48, x49, x50, x51, x52, x53, x54, x55, x56, x57, x58, x59, x60, x61, x62, x63, x64, x65, x66, x67, x68, x69, x70], defers := ds } A := by
  refine Code.wp_mono (Q := fun x a' w' => match x with | .normal => Q .normal a' w' | _ => False) (by intro x a' w' h; cases x <;> first | exact h | exact h.elim) ?_
  refine wp_region_held (S := fun V => Keep (fun k => k = g) A V) (by kernel_rfl) ?_
  have hS0 : Hid (Keep (fun k => k = g) A A.drew) := (Keep.refl _ A).drew
  change wpAnyH Try.prog .any _ _ (fun V => Keep (fun k => k = g) A V) 12 (Array.replicate 12 false) _ A.drew
  obtain ⟨V0, hV0⟩ : ∃ V0, A.drew = V0 := ⟨_, rfl⟩
  rw [hV0]
  rw [hV0] at hS0
  have R0 : Hid (R13 A g p V0 none none) := by rw [← hV0]; exact ⟨HX.out.drew, (Keep.refl _ A).drew, trivial, trivial, fun _ _ _ _ h => by cases h⟩
  clear hV0
  refine wpAnyH_take (i := 1) (oi := ⟨some 42, Op.fieldAddr 43 (.tmp 2) 5, 0, "law.go:123", #[], none⟩) (v := .pointer (some ⟨g, 36, none⟩)) rfl (by kernel_rfl) (by kernel_rfl) (by kernel_rfl) (fun _ _ _ h => h.elim) (Or.inl ⟨by rfl, ?y1⟩) hS0.out ?_
  case y1 =>
    intro V hV
    go_simp
  simp only [Act.put, List.setIfInBounds_toArray, List.set_cons_zero, List.set_cons_succ]
  refine wpAnyH_take (i := 5) (oi := ⟨some 46, Op.fieldAddr 43 (.tmp 2) 6, 0, "law.go:123", #[], none⟩) (v := .pointer (some ⟨g, 37, none⟩)) rfl (by kernel_rfl) (by kernel_rfl) (by kernel_rfl) (fun _ _ _ h => h.elim) (Or.inl ⟨by rfl, ?y2⟩) hS0.out ?_
  case y2 =>
    intro V hV
    go_simp
  simp only [Act.put, List.setIfInBounds_toArray, List.set_cons_zero, List.set_cons_succ]
  refine wpAnyH_ready (rs := [0, 2, 4, 6]) (by kernel_rfl) (by simp) (AllReadyH.cons (i := 0) (o := ⟨some 41, Op.buildSlice 40 0 #[], 40, "law.go:123", #[], none⟩) rfl ?_ (AllReadyH.cons (i := 2) (o := ⟨some 43, Op.load 40 (.tmp 42), 40, "law.go:123", #[⟨1, .data⟩], none⟩) rfl ?_ (AllReadyH.cons (i := 4) (o := ⟨some 45, Op.buildSlice 40 0 #[], 40, "law.go:123", #[], none⟩) rfl ?_ (AllReadyH.cons (i := 6) (o := ⟨some 47, Op.load 40 (.tmp 46), 40, "law.go:123", #[⟨5, .data⟩], none⟩) rfl ?_ AllReadyH.nil))))
  · intro K1 hK1
    refine step_bs0 (by rfl) rfl ?_
    obtain ⟨V1, hv1⟩ : ∃ V, V0.alloc (.cells #[] 9) = V := ⟨_, rfl⟩
    obtain ⟨q1, hq1⟩ : ∃ m, V0.heap.size = m := ⟨_, rfl⟩
    have R1 : Hid (R13 A g p V1 (some (.slice (some ⟨q1, 0, none⟩) 0 0, [])) none) := by rw [← hv1, ← hq1]; exact R0.out.bs
    rw [hv1, hq1]
    clear hv1 hq1
    refine hK1.out _ _ R1.out.keep ?_
    clear hK1
    intro _
    try simp only [Act.put, List.setIfInBounds_toArray, List.set_cons_zero, List.set_cons_succ]
    refine wpAnyH_ready (rs := [2, 4, 6]) (by kernel_rfl) (by simp) (AllReadyH.cons (i := 2) (o := ⟨some 43, Op.load 40 (.tmp 42), 40, "law.go:123", #[⟨1, .data⟩], none⟩) rfl ?_ (AllReadyH.cons (i := 4) (o := ⟨some 45, Op.buildSlice 40 0 #[], 40, "law.go:123", #[], none⟩) rfl ?_ (AllReadyH.cons (i := 6) (o := ⟨some 47, Op.load 40 (.tmp 46), 40, "law.go:123", #[⟨5, .data⟩], none⟩) rfl ?_ AllReadyH.nil)))
    · intro K1 hK1
      rw [if_pos (by rfl)]
      have hc : V1.cell? ⟨g, 36, none⟩ = some (.slice p.y.a p.y.n p.y.c) := R1.out.blk.cell (Pp.tail HL.out.2 1)
      go_wp2
      clear hc
      refine hK1.out _ _ R1.out.keep ?_
      clear hK1
      intro _
      try simp only [Act.put, List.setIfInBounds_toArray, List.set_cons_zero, List.set_cons_succ]
      refine wpAnyH_ready (rs := [3, 4, 6]) (by kernel_rfl) (by simp) (AllReadyH.cons (i := 3) (o := ⟨some 44, Op.call { callee := Callee.builtin Builtin.append, args := #[Operand.tmp 41, Operand.tmp 43], argTypes := #[40, 40] }, 40, "law.go:123", #[⟨0, .data⟩, ⟨2, .data⟩], none⟩) rfl ?_ (AllReadyH.cons (i := 4) (o := ⟨some 45, Op.buildSlice 40 0 #[], 40, "law.go:123", #[], none⟩) rfl ?_ (AllReadyH.cons (i := 6) (o := ⟨some 47, Op.load 40 (.tmp 46), 40, "law.go:123", #[⟨5, .data⟩], none⟩) rfl ?_ AllReadyH.nil)))
      · intro K1 hK1
        obtain ⟨v3, V3, hr3, hR3⟩ := R1.out.app (s := p.y) (l := yes) (strs_keep HY.out.1 R1.out.keep HNE.out.1) HY.out.2.1 HL.out.1 40
        refine step_run (by rfl) (.tmp 41) (.tmp 43) rfl _ p.y rfl rfl hr3 ?_
        have R3 : Hid (R13 A g p V3 (some (v3, yes)) none) := hR3
        clear hr3 hR3
        refine hK1.out _ _ R3.out.keep ?_
        clear hK1
        intro _
        try simp only [Act.put, List.setIfInBounds_toArray, List.set_cons_zero, List.set_cons_succ]
        refine wpAnyH_ready (rs := [4, 6]) (by kernel_rfl) (by simp) (AllReadyH.cons (i := 4) (o := ⟨some 45, Op.buildSlice 40 0 #[], 40, "law.go:123", #[], none⟩) rfl ?_ (AllReadyH.cons (i := 6) (o := ⟨some 47, Op.load 40 (.tmp 46), 40, "law.go:123", #[⟨5, .data⟩], none⟩) rfl ?_ AllReadyH.nil))
        · intro K1 hK1
          refine step_bs0 (by rfl) rfl ?_
          obtain ⟨V4, hv4⟩ : ∃ V, V3.alloc (.cells #[] 9) = V := ⟨_, rfl⟩
          obtain ⟨q4, hq4⟩ : ∃ m, V3.heap.size = m := ⟨_, rfl⟩
          have R4 : Hid (R13 A g p V4 (some (v3, yes)) (some (.slice (some ⟨q4, 0, none⟩) 0 0, []))) := by rw [← hv4, ← hq4]; exact R3.out.swap.bs.swap
          rw [hv4, hq4]
          clear hv4 hq4
          refine hK1.out _ _ R4.out.keep ?_
          clear hK1
          intro _
          try simp only [Act.put, List.setIfInBounds_toArray, List.set_cons_zero, List.set_cons_succ]
          refine wpAnyH_ready (rs := [6]) (by kernel_rfl) (by simp) (AllReadyH.cons (i := 6) (o := ⟨some 47, Op.load 40 (.tmp 46), 40, "law.go:123", #[⟨5, .data⟩], none⟩) rfl ?_ AllReadyH.nil)
          · intro K1 hK1
            rw [if_pos (by rfl)]
            have hc : V4.cell? ⟨g, 37, none⟩ = some (.slice p.n.a p.n.n p.n.c) := R4.out.blk.cell (Pp.tail HL.out.2 2)
            go_wp2
            clear hc
            refine hK1.out _ _ R4.out.keep ?_
            clear hK1
            intro _
            try simp only [Act.put, List.setIfInBounds_toArray, List.set_cons_zero, List.set_cons_succ]
            refine wpAnyH_take (i := 8) (oi := ⟨some 49, Op.fieldAddr 43 (.tmp 2) 5, 0, "law.go:123", #[⟨0, .phase⟩, ⟨1, .phase⟩, ⟨2, .phase⟩, ⟨3, .phase⟩, { on := 4, ground := Ground.textOnly Departure.lateStores }, ⟨5, .phase⟩, ⟨6, .phase⟩, { on := 7, ground := Ground.textOnly Departure.lateStoresUnsure }], none⟩) (v := .pointer (some ⟨g, 36, none⟩)) rfl (by kernel_rfl) (by kernel_rfl) (by kernel_rfl) (fun _ _ _ h => h.elim) (Or.inl ⟨by rfl, ?y3⟩) R4.out.keep ?_
            case y3 =>
              intro V hV
              go_simp
            simp only [Act.put, List.setIfInBounds_toArray, List.set_cons_zero, List.set_cons_succ]
            refine wpAnyH_ready (rs := [7]) (by kernel_rfl) (by simp) (AllReadyH.cons (i := 7) (o := ⟨some 48, Op.call { callee := Callee.builtin Builtin.append, args := #[Operand.tmp 45, Operand.tmp 47], argTypes := #[40, 40] }, 40, "law.go:123", #[⟨4, .data⟩, ⟨6, .data⟩, ⟨3, .chain⟩], none⟩) rfl ?_ AllReadyH.nil)
            · intro K1 hK1
              obtain ⟨v6, V6, hr6, hR6⟩ := R4.out.swap.app (s := p.n) (l := no) (strs_keep HN.out.1 R4.out.keep HNE.out.2) HN.out.2.1 HL.out.1 40
              refine step_run (by rfl) (.tmp 45) (.tmp 47) rfl _ p.n rfl rfl hr6 ?_
              have R6 : Hid (R13 A g p V6 (some (v3, yes)) (some (v6, no))) := hR6.swap
              clear hr6 hR6
              refine hK1.out _ _ R6.out.keep ?_
              clear hK1
              intro _
              try simp only [Act.put, List.setIfInBounds_toArray, List.set_cons_zero, List.set_cons_succ]
              refine wpAnyH_ready (rs := [9]) (by kernel_rfl) (by simp) (AllReadyH.cons (i := 9) (o := ⟨none, Op.store 40 (.tmp 49) (.tmp 44), 0, "law.go:123", #[⟨8, .data⟩, ⟨3, .data⟩, ⟨7, .chain⟩, ⟨0, .phase⟩, ⟨1, .phase⟩, ⟨2, .phase⟩, ⟨3, .phase⟩, { on := 4, ground := Ground.textOnly Departure.lateStores }, ⟨5, .phase⟩, ⟨6, .phase⟩, { on := 7, ground := Ground.textOnly Departure.lateStoresUnsure }], none⟩) rfl ?_ AllReadyH.nil)
              · intro K1 hK1
                obtain ⟨sy, hsy, hty, hyn, hyb⟩ := own_txt R6.out.fst.1 HY.out.2.2.1 (by have := HY.out.2.1; omega)
                obtain ⟨sn, hsn, htn, hnn, hnb⟩ := own_txt R6.out.snd.1 HN.out.2.2.1 (by have := HN.out.2.1; omega)
                subst hsy
                subst hsn
                refine step_st (by rfl) 40 (.tmp 49) (.tmp 44) rfl g 36 (.slice sy.a sy.n sy.c) 43 _ rfl rfl R6.out.blk (by rw [Pp.length HL.out.2]; omega) (by kernel_rfl) rfl rfl ?_
                obtain ⟨V7, hv7⟩ : ∃ V, V6.setCell ⟨g, 36, none⟩ (.slice sy.a sy.n sy.c) = V := ⟨_, rfl⟩
                have F7 : Hid (Half A g p yes no sy sn V7) := half_of HL R6.out.blk R6.out.keep hty htn hyb hnb hv7
                rw [hv7]
                clear hv7 hty htn hyb hnb hyn hnn
                refine hK1.out _ _ F7.out.2.2.2.1 ?_
                clear hK1
                intro _
                try simp only [Act.put, List.setIfInBounds_toArray, List.set_cons_zero, List.set_cons_succ]
                refine wpAnyH_take (i := 10) (oi := ⟨some 50, Op.fieldAddr 43 (.tmp 2) 6, 0, "law.go:123", #[⟨0, .phase⟩, ⟨1, .phase⟩, ⟨2, .phase⟩, ⟨3, .phase⟩, ⟨4, .phase⟩, ⟨5, .phase⟩, ⟨6, .phase⟩, ⟨7, .phase⟩, ⟨8, .phase⟩, ⟨9, .phase⟩], none⟩) (v := .pointer (some ⟨g, 37, none⟩)) rfl (by kernel_rfl) (by kernel_rfl) (by kernel_rfl) (fun _ _ _ h => h.elim) (Or.inl ⟨by rfl, ?y4⟩) F7.out.2.2.2.1 ?_
                case y4 =>
                  intro V hV
                  go_simp
                simp only [Act.put, List.setIfInBounds_toArray, List.set_cons_zero, List.set_cons_succ]
                refine wpAnyH_ready (rs := [11]) (by kernel_rfl) (by simp) (AllReadyH.cons (i := 11) (o := ⟨none, Op.store 40 (.tmp 50) (.tmp 48), 0, "law.go:123", #[⟨10, .data⟩, ⟨7, .data⟩, ⟨9, .chain⟩, ⟨0, .phase⟩, ⟨1, .phase⟩, ⟨2, .phase⟩, ⟨3, .phase⟩, ⟨4, .phase⟩, ⟨5, .phase⟩, ⟨6, .phase⟩, ⟨7, .phase⟩, ⟨8, .phase⟩, ⟨9, .phase⟩], none⟩) rfl ?_ AllReadyH.nil)
                · intro K1 hK1
                  refine step_st (by rfl) 40 (.tmp 50) (.tmp 48) rfl g 37 (.slice sn.a sn.n sn.c) 43 _ rfl rfl F7.out.1 (by rw [Pp.length (p := { p with y := sy }) HL.out.2]; omega) (by kernel_rfl) rfl rfl ?_
                  obtain ⟨V8, hv8⟩ : ∃ V, V7.setCell ⟨g, 37, none⟩ (.slice sn.a sn.n sn.c) = V := ⟨_, rfl⟩
                  have F8 : Hid (Copied A g p yes no sy sn V8) := copied_of HL F7.out hv8
                  rw [hv8]
                  clear hv8
                  refine hK1.out _ _ F8.out.2.2.2 ?_
                  clear hK1
                  intro _
                  try simp only [Act.put, List.setIfInBounds_toArray, List.set_cons_zero, List.set_cons_succ]
                  refine wpAnyH_done (by kernel_rfl) ?_ _
                  exact hQ V8 _ _ sy sn F8.out
        · intro K1 hK1
          rw [if_pos (by rfl)]
          have hc : V3.cell? ⟨g, 37, none⟩ = some (.slice p.n.a p.n.n p.n.c) := R3.out.blk.cell (Pp.tail HL.out.2 2)
          go_wp2
          clear hc
          refine hK1.out _ _ R3.out.keep ?_
          clear hK1
          intro _
          try simp only [Act.put, List.setIfInBounds_toArray, List.set_cons_zero, List.set_cons_succ]
          refine wpAnyH_take (i := 8) (oi := ⟨some 49, Op.fieldAddr 43 (.tmp 2) 5, 0, "law.go:123", #[⟨0, .phase⟩, ⟨1, .phase⟩, ⟨2, .phase⟩, ⟨3, .phase⟩, { on := 4, ground := Ground.textOnly Departure.lateStores }, ⟨5, .phase⟩, ⟨6, .phase⟩, { on := 7, ground := Ground.textOnly Departure.lateStoresUnsure }], none⟩) (v := .pointer (some ⟨g, 36, none⟩)) rfl (by kernel_rfl) (by kernel_rfl) (by kernel_rfl) (fun _ _ _ h => h.elim) (Or.inl ⟨by rfl, ?y5⟩) R3.out.keep ?_
          case y5 =>
            intro V hV
            go_simp
          simp only [Act.put, List.setIfInBounds_toArray, List.set_cons_zero, List.set_cons_succ]
          refine wpAnyH_ready (rs := [4]) (by kernel_rfl) (by simp) (AllReadyH.cons (i := 4) (o := ⟨some 45, Op.buildSlice 40 0 #[], 40, "law.go:123", #[], none⟩) rfl ?_ AllReadyH.nil)
          · intro K1 hK1
            refine step_bs0 (by rfl) rfl ?_
            obtain ⟨V5, hv5⟩ : ∃ V, V3.alloc (.cells #[] 9) = V := ⟨_, rfl⟩
            obtain ⟨q5, hq5⟩ : ∃ m, V3.heap.size = m := ⟨_, rfl⟩
            have R5 : Hid (R13 A g p V5 (some (v3, yes)) (some (.slice (some ⟨q5, 0, none⟩) 0 0, []))) := by rw [← hv5, ← hq5]; exact R3.out.swap.bs.swap
            rw [hv5, hq5]
            clear hv5 hq5
            refine hK1.out _ _ R5.out.keep ?_
            clear hK1
            intro _
            try simp only [Act.put, List.setIfInBounds_toArray, List.set_cons_zero, List.set_cons_succ]
            refine wpAnyH_ready (rs := [7]) (by kernel_rfl) (by simp) (AllReadyH.cons (i := 7) (o := ⟨some 48, Op.call { callee := Callee.builtin Builtin.append, args := #[Operand.tmp 45, Operand.tmp 47], argTypes := #[40, 40] }, 40, "law.go:123", #[⟨4, .data⟩, ⟨6, .data⟩, ⟨3, .chain⟩], none⟩) rfl ?_ AllReadyH.nil)
            · intro K1 hK1
              obtain ⟨v6, V6, hr6, hR6⟩ := R5.out.swap.app (s := p.n) (l := no) (strs_keep HN.out.1 R5.out.keep HNE.out.2) HN.out.2.1 HL.out.1 40
              refine step_run (by rfl) (.tmp 45) (.tmp 47) rfl _ p.n rfl rfl hr6 ?_
              have R6 : Hid (R13 A g p V6 (some (v3, yes)) (some (v6, no))) := hR6.swap
              clear hr6 hR6
              refine hK1.out _ _ R6.out.keep ?_
              clear hK1
              intro _
              try simp only [Act.put, List.setIfInBounds_toArray, List.set_cons_zero, List.set_cons_succ]
              refine wpAnyH_ready (rs := [9]) (by kernel_rfl) (by simp) (AllReadyH.cons (i := 9) (o := ⟨none, Op.store 40 (.tmp 49) (.tmp 44), 0, "law.go:123", #[⟨8, .data⟩, ⟨3, .data⟩, ⟨7, .chain⟩, ⟨0, .phase⟩, ⟨1, .phase⟩, ⟨2, .phase⟩, ⟨3, .phase⟩, { on := 4, ground := Ground.textOnly Departure.lateStores }, ⟨5, .phase⟩, ⟨6, .phase⟩, { on := 7, ground := Ground.textOnly Departure.lateStoresUnsure }], none⟩) rfl ?_ AllReadyH.nil)
              · intro K1 hK1
                obtain ⟨sy, hsy, hty, hyn, hyb⟩ := own_txt R6.out.fst.1 HY.out.2.2.1 (by have := HY.out.2.1; omega)
                obtain ⟨sn, hsn, htn, hnn, hnb⟩ := own_txt R6.out.snd.1 HN.out.2.2.1 (by have := HN.out.2.1; omega)
                subst hsy
                subst hsn
                refine step_st (by rfl) 40 (.tmp 49) (.tmp 44) rfl g 36 (.slice sy.a sy.n sy.c) 43 _ rfl rfl R6.out.blk (by rw [Pp.length HL.out.2]; omega) (by kernel_rfl) rfl rfl ?_
                obtain ⟨V7, hv7⟩ : ∃ V, V6.setCell ⟨g, 36, none⟩ (.slice sy.a sy.n sy.c) = V := ⟨_, rfl⟩
                have F7 : Hid (Half A g p yes no sy sn V7) := half_of HL R6.out.blk R6.out.keep hty htn hyb hnb hv7
                rw [hv7]
                clear hv7 hty htn hyb hnb hyn hnn
                refine hK1.out _ _ F7.out.2.2.2.1 ?_
                clear hK1
                intro _
                try simp only [Act.put, List.setIfInBounds_toArray, List.set_cons_zero, List.set_cons_succ]
                refine wpAnyH_take (i := 10) (oi := ⟨some 50, Op.fieldAddr 43 (.tmp 2) 6, 0, "law.go:123", #[⟨0, .phase⟩, ⟨1, .phase⟩, ⟨2, .phase⟩, ⟨3, .phase⟩, ⟨4, .phase⟩, ⟨5, .phase⟩, ⟨6, .phase⟩, ⟨7, .phase⟩, ⟨8, .phase⟩, ⟨9, .phase⟩], none⟩) (v := .pointer (some ⟨g, 37, none⟩)) rfl (by kernel_rfl) (by kernel_rfl) (by kernel_rfl) (fun _ _ _ h => h.elim) (Or.inl ⟨by rfl, ?y6⟩) F7.out.2.2.2.1 ?_
                case y6 =>
                  intro V hV
                  go_simp
                simp only [Act.put, List.setIfInBounds_toArray, List.set_cons_zero, List.set_cons_succ]
                refine wpAnyH_ready (rs := [11]) (by kernel_rfl) (by simp) (AllReadyH.cons (i := 11) (o := ⟨none, Op.store 40 (.tmp 50) (.tmp 48), 0, "law.go:123", #[⟨10, .data⟩, ⟨7, .data⟩, ⟨9, .chain⟩, ⟨0, .phase⟩, ⟨1, .phase⟩, ⟨2, .phase⟩, ⟨3, .phase⟩, ⟨4, .phase⟩, ⟨5, .phase⟩, ⟨6, .phase⟩, ⟨7, .phase⟩, ⟨8, .phase⟩, ⟨9, .phase⟩], none⟩) rfl ?_ AllReadyH.nil)
                · intro K1 hK1
                  refine step_st (by rfl) 40 (.tmp 50) (.tmp 48) rfl g 37 (.slice sn.a sn.n sn.c) 43 _ rfl rfl F7.out.1 (by rw [Pp.length (p := { p with y := sy }) HL.out.2]; omega) (by kernel_rfl) rfl rfl ?_
                  obtain ⟨V8, hv8⟩ : ∃ V, V7.setCell ⟨g, 37, none⟩ (.slice sn.a sn.n sn.c) = V := ⟨_, rfl⟩
                  have F8 : Hid (Copied A g p yes no sy sn V8) := copied_of HL F7.out hv8
                  rw [hv8]
                  clear hv8
                  refine hK1.out _ _ F8.out.2.2.2 ?_
                  clear hK1
                  intro _
                  try simp only [Act.put, List.setIfInBounds_toArray, List.set_cons_zero, List.set_cons_succ]
                  refine wpAnyH_done (by kernel_rfl) ?_ _
                  exact hQ V8 _ _ sy sn F8.out
      · intro K1 hK1
        refine step_bs0 (by rfl) rfl ?_
        obtain ⟨V3, hv3⟩ : ∃ V, V1.alloc (.cells #[] 9) = V := ⟨_, rfl⟩
        obtain ⟨q3, hq3⟩ : ∃ m, V1.heap.size = m := ⟨_, rfl⟩
        have R3 : Hid (R13 A g p V3 (some (.slice (some ⟨q1, 0, none⟩) 0 0, [])) (some (.slice (some ⟨q3, 0, none⟩) 0 0, []))) := by rw [← hv3, ← hq3]; exact R1.out.swap.bs.swap
        rw [hv3, hq3]
        clear hv3 hq3
        refine hK1.out _ _ R3.out.keep ?_
        clear hK1
        intro _
        try simp only [Act.put, List.setIfInBounds_toArray, List.set_cons_zero, List.set_cons_succ]
        refine wpAnyH_ready (rs := [3, 6]) (by kernel_rfl) (by simp) (AllReadyH.cons (i := 3) (o := ⟨some 44, Op.call { callee := Callee.builtin Builtin.append, args := #[Operand.tmp 41, Operand.tmp 43], argTypes := #[40, 40] }, 40, "law.go:123", #[⟨0, .data⟩, ⟨2, .data⟩], none⟩) rfl ?_ (AllReadyH.cons (i := 6) (o := ⟨some 47, Op.load 40 (.tmp 46), 40, "law.go:123", #[⟨5, .data⟩], none⟩) rfl ?_ AllReadyH.nil))
        · intro K1 hK1
          obtain ⟨v4, V4, hr4, hR4⟩ := R3.out.app (s := p.y) (l := yes) (strs_keep HY.out.1 R3.out.keep HNE.out.1) HY.out.2.1 HL.out.1 40
          refine step_run (by rfl) (.tmp 41) (.tmp 43) rfl _ p.y rfl rfl hr4 ?_
          have R4 : Hid (R13 A g p V4 (some (v4, yes)) (some (.slice (some ⟨q3, 0, none⟩) 0 0, []))) := hR4
          clear hr4 hR4
          refine hK1.out _ _ R4.out.keep ?_
          clear hK1
          intro _
          try simp only [Act.put, List.setIfInBounds_toArray, List.set_cons_zero, List.set_cons_succ]
          refine wpAnyH_ready (rs := [6]) (by kernel_rfl) (by simp) (AllReadyH.cons (i := 6) (o := ⟨some 47, Op.load 40 (.tmp 46), 40, "law.go:123", #[⟨5, .data⟩], none⟩) rfl ?_ AllReadyH.nil)
          · intro K1 hK1
            rw [if_pos (by rfl)]
            have hc : V4.cell? ⟨g, 37, none⟩ = some (.slice p.n.a p.n.n p.n.c) := R4.out.blk.cell (Pp.tail HL.out.2 2)
            go_wp2
            clear hc
            refine hK1.out _ _ R4.out.keep ?_
            clear hK1
            intro _
            try simp only [Act.put, List.setIfInBounds_toArray, List.set_cons_zero, List.set_cons_succ]
            refine wpAnyH_take (i := 8) (oi := ⟨some 49, Op.fieldAddr 43 (.tmp 2) 5, 0, "law.go:123", #[⟨0, .phase⟩, ⟨1, .phase⟩, ⟨2, .phase⟩, ⟨3, .phase⟩, { on := 4, ground := Ground.textOnly Departure.lateStores }, ⟨5, .phase⟩, ⟨6, .phase⟩, { on := 7, ground := Ground.textOnly Departure.lateStoresUnsure }], none⟩) (v := .pointer (some ⟨g, 36, none⟩)) rfl (by kernel_rfl) (by kernel_rfl) (by kernel_rfl) (fun _ _ _ h => h.elim) (Or.inl ⟨by rfl, ?y7⟩) R4.out.keep ?_
            case y7 =>
              intro V hV
              go_simp
            simp only [Act.put, List.setIfInBounds_toArray, List.set_cons_zero, List.set_cons_succ]
            refine wpAnyH_ready (rs := [7]) (by kernel_rfl) (by simp) (AllReadyH.cons (i := 7) (o := ⟨some 48, Op.call { callee := Callee.builtin Builtin.append, args := #[Operand.tmp 45, Operand.tmp 47], argTypes := #[40, 40] }, 40, "law.go:123", #[⟨4, .data⟩, ⟨6, .data⟩, ⟨3, .chain⟩], none⟩) rfl ?_ AllReadyH.nil)
            · intro K1 hK1
              obtain ⟨v6, V6, hr6, hR6⟩ := R4.out.swap.app (s := p.n) (l := no) (strs_keep HN.out.1 R4.out.keep HNE.out.2) HN.out.2.1 HL.out.1 40
              refine step_run (by rfl) (.tmp 45) (.tmp 47) rfl _ p.n rfl rfl hr6 ?_
              have R6 : Hid (R13 A g p V6 (some (v4, yes)) (some (v6, no))) := hR6.swap
              clear hr6 hR6
              refine hK1.out _ _ R6.out.keep ?_
              clear hK1
              intro _
              try simp only [Act.put, List.setIfInBounds_toArray, List.set_cons_zero, List.set_cons_succ]
              refine wpAnyH_ready (rs := [9]) (by kernel_rfl) (by simp) (AllReadyH.cons (i := 9) (o := ⟨none, Op.store 40 (.tmp 49) (.tmp 44), 0, "law.go:123", #[⟨8, .data⟩, ⟨3, .data⟩, ⟨7, .chain⟩, ⟨0, .phase⟩, ⟨1, .phase⟩, ⟨2, .phase⟩, ⟨3, .phase⟩, { on := 4, ground := Ground.textOnly Departure.lateStores }, ⟨5, .phase⟩, ⟨6, .phase⟩, { on := 7, ground := Ground.textOnly Departure.lateStoresUnsure }], none⟩) rfl ?_ AllReadyH.nil)
              · intro K1 hK1
                obtain ⟨sy, hsy, hty, hyn, hyb⟩ := own_txt R6.out.fst.1 HY.out.2.2.1 (by have := HY.out.2.1; omega)
                obtain ⟨sn, hsn, htn, hnn, hnb⟩ := own_txt R6.out.snd.1 HN.out.2.2.1 (by have := HN.out.2.1; omega)
                subst hsy
                subst hsn
                refine step_st (by rfl) 40 (.tmp 49) (.tmp 44) rfl g 36 (.slice sy.a sy.n sy.c) 43 _ rfl rfl R6.out.blk (by rw [Pp.length HL.out.2]; omega) (by kernel_rfl) rfl rfl ?_
                obtain ⟨V7, hv7⟩ : ∃ V, V6.setCell ⟨g, 36, none⟩ (.slice sy.a sy.n sy.c) = V := ⟨_, rfl⟩
                have F7 : Hid (Half A g p yes no sy sn V7) := half_of HL R6.out.blk R6.out.keep hty htn hyb hnb hv7
                rw [hv7]
                clear hv7 hty htn hyb hnb hyn hnn
                refine hK1.out _ _ F7.out.2.2.2.1 ?_
                clear hK1
                intro _
                try simp only [Act.put, List.setIfInBounds_toArray, List.set_cons_zero, List.set_cons_succ]
                refine wpAnyH_take (i := 10) (oi := ⟨some 50, Op.fieldAddr 43 (.tmp 2) 6, 0, "law.go:123", #[⟨0, .phase⟩, ⟨1, .phase⟩, ⟨2, .phase⟩, ⟨3, .phase⟩, ⟨4, .phase⟩, ⟨5, .phase⟩, ⟨6, .phase⟩, ⟨7, .phase⟩, ⟨8, .phase⟩, ⟨9, .phase⟩], none⟩) (v := .pointer (some ⟨g, 37, none⟩)) rfl (by kernel_rfl) (by kernel_rfl) (by kernel_rfl) (fun _ _ _ h => h.elim) (Or.inl ⟨by rfl, ?y8⟩) F7.out.2.2.2.1 ?_
                case y8 =>
                  intro V hV
                  go_simp
                simp only [Act.put, List.setIfInBounds_toArray, List.set_cons_zero, List.set_cons_succ]
                refine wpAnyH_ready (rs := [11]) (by kernel_rfl) (by simp) (AllReadyH.cons (i := 11) (o := ⟨none, Op.store 40 (.tmp 50) (.tmp 48), 0, "law.go:123", #[⟨10, .data⟩, ⟨7, .data⟩, ⟨9, .chain⟩, ⟨0, .phase⟩, ⟨1, .phase⟩, ⟨2, .phase⟩, ⟨3, .phase⟩, ⟨4, .phase⟩, ⟨5, .phase⟩, ⟨6, .phase⟩, ⟨7, .phase⟩, ⟨8, .phase⟩, ⟨9, .phase⟩], none⟩) rfl ?_ AllReadyH.nil)
                · intro K1 hK1
                  refine step_st (by rfl) 40 (.tmp 50) (.tmp 48) rfl g 37 (.slice sn.a sn.n sn.c) 43 _ rfl rfl F7.out.1 (by rw [Pp.length (p := { p with y := sy }) HL.out.2]; omega) (by kernel_rfl) rfl rfl ?_
                  obtain ⟨V8, hv8⟩ : ∃ V, V7.setCell ⟨g, 37, none⟩ (.slice sn.a sn.n sn.c) = V := ⟨_, rfl⟩
                  have F8 : Hid (Copied A g p yes no sy sn V8) := copied_of HL F7.out hv8
                  rw [hv8]
                  clear hv8
                  refine hK1.out _ _ F8.out.2.2.2 ?_
                  clear hK1
                  intro _
                  try simp only [Act.put, List.setIfInBounds_toArray, List.set_cons_zero, List.set_cons_succ]
                  refine wpAnyH_done (by kernel_rfl) ?_ _
                  exact hQ V8 _ _ sy sn F8.out
        · intro K1 hK1
          rw [if_pos (by rfl)]
          have hc : V3.cell? ⟨g, 37, none⟩ = some (.slice p.n.a p.n.n p.n.c) := R3.out.blk.cell (Pp.tail HL.out.2 2)
          go_wp2
          clear hc
          refine hK1.out _ _ R3.out.keep ?_
          clear hK1
          intro _
          try simp only [Act.put, List.setIfInBounds_toArray, List.set_cons_zero, List.set_cons_succ]
          refine wpAnyH_ready (rs := [3]) (by kernel_rfl) (by simp) (AllReadyH.cons (i := 3) (o := ⟨some 44, Op.call { callee := Callee.builtin Builtin.append, args := #[Operand.tmp 41, Operand.tmp 43], argTypes := #[40, 40] }, 40, "law.go:123", #[⟨0, .data⟩, ⟨2, .data⟩], none⟩) rfl ?_ AllReadyH.nil)
          · intro K1 hK1
            obtain ⟨v5, V5, hr5, hR5⟩ := R3.out.app (s := p.y) (l := yes) (strs_keep HY.out.1 R3.out.keep HNE.out.1) HY.out.2.1 HL.out.1 40
            refine step_run (by rfl) (.tmp 41) (.tmp 43) rfl _ p.y rfl rfl hr5 ?_
            have R5 : Hid (R13 A g p V5 (some (v5, yes)) (some (.slice (some ⟨q3, 0, none⟩) 0 0, []))) := hR5
            clear hr5 hR5
            refine hK1.out _ _ R5.out.keep ?_
            clear hK1
            intro _
            try simp only [Act.put, List.setIfInBounds_toArray, List.set_cons_zero, List.set_cons_succ]
            refine wpAnyH_take (i := 8) (oi := ⟨some 49, Op.fieldAddr 43 (.tmp 2) 5, 0, "law.go:123", #[⟨0, .phase⟩, ⟨1, .phase⟩, ⟨2, .phase⟩, ⟨3, .phase⟩, { on := 4, ground := Ground.textOnly Departure.lateStores }, ⟨5, .phase⟩, ⟨6, .phase⟩, { on := 7, ground := Ground.textOnly Departure.lateStoresUnsure }], none⟩) (v := .pointer (some ⟨g, 36, none⟩)) rfl (by kernel_rfl) (by kernel_rfl) (by kernel_rfl) (fun _ _ _ h => h.elim) (Or.inl ⟨by rfl, ?y9⟩) R5.out.keep ?_
            case y9 =>
              intro V hV
              go_simp
            simp only [Act.put, List.setIfInBounds_toArray, List.set_cons_zero, List.set_cons_succ]
            refine wpAnyH_ready (rs := [7]) (by kernel_rfl) (by simp) (AllReadyH.cons (i := 7) (o := ⟨some 48, Op.call { callee := Callee.builtin Builtin.append, args := #[Operand.tmp 45, Operand.tmp 47], argTypes := #[40, 40] }, 40, "law.go:123", #[⟨4, .data⟩, ⟨6, .data⟩, ⟨3, .chain⟩], none⟩) rfl ?_ AllReadyH.nil)
            · intro K1 hK1
              obtain ⟨v6, V6, hr6, hR6⟩ := R5.out.swap.app (s := p.n) (l := no) (strs_keep HN.out.1 R5.out.keep HNE.out.2) HN.out.2.1 HL.out.1 40
              refine step_run (by rfl) (.tmp 45) (.tmp 47) rfl _ p.n rfl rfl hr6 ?_
              have R6 : Hid (R13 A g p V6 (some (v5, yes)) (some (v6, no))) := hR6.swap
              clear hr6 hR6
              refine hK1.out _ _ R6.out.keep ?_
              clear hK1
              intro _
              try simp only [Act.put, List.setIfInBounds_toArray, List.set_cons_zero, List.set_cons_succ]
              refine wpAnyH_ready (rs := [9]) (by kernel_rfl) (by simp) (AllReadyH.cons (i := 9) (o := ⟨none, Op.store 40 (.tmp 49) (.tmp 44), 0, "law.go:123", #[⟨8, .data⟩, ⟨3, .data⟩, ⟨7, .chain⟩, ⟨0, .phase⟩, ⟨1, .phase⟩, ⟨2, .phase⟩, ⟨3, .phase⟩, { on := 4, ground := Ground.textOnly Departure.lateStores }, ⟨5, .phase⟩, ⟨6, .phase⟩, { on := 7, ground := Ground.textOnly Departure.lateStoresUnsure }], none⟩) rfl ?_ AllReadyH.nil)
              · intro K1 hK1
                obtain ⟨sy, hsy, hty, hyn, hyb⟩ := own_txt R6.out.fst.1 HY.out.2.2.1 (by have := HY.out.2.1; omega)
                obtain ⟨sn, hsn, htn, hnn, hnb⟩ := own_txt R6.out.snd.1 HN.out.2.2.1 (by have := HN.out.2.1; omega)
                subst hsy
                subst hsn
                refine step_st (by rfl) 40 (.tmp 49) (.tmp 44) rfl g 36 (.slice sy.a sy.n sy.c) 43 _ rfl rfl R6.out.blk (by rw [Pp.length HL.out.2]; omega) (by kernel_rfl) rfl rfl ?_
                obtain ⟨V7, hv7⟩ : ∃ V, V6.setCell ⟨g, 36, none⟩ (.slice sy.a sy.n sy.c) = V := ⟨_, rfl⟩
                have F7 : Hid (Half A g p yes no sy sn V7) := half_of HL R6.out.blk R6.out.keep hty htn hyb hnb hv7
                rw [hv7]
                clear hv7 hty htn hyb hnb hyn hnn
                refine hK1.out _ _ F7.out.2.2.2.1 ?_
                clear hK1
                intro _
                try simp only [Act.put, List.setIfInBounds_toArray, List.set_cons_zero, List.set_cons_succ]
                refine wpAnyH_take (i := 10) (oi := ⟨some 50, Op.fieldAddr 43 (.tmp 2) 6, 0, "law.go:123", #[⟨0, .phase⟩, ⟨1, .phase⟩, ⟨2, .phase⟩, ⟨3, .phase⟩, ⟨4, .phase⟩, ⟨5, .phase⟩, ⟨6, .phase⟩, ⟨7, .phase⟩, ⟨8, .phase⟩, ⟨9, .phase⟩], none⟩) (v := .pointer (some ⟨g, 37, none⟩)) rfl (by kernel_rfl) (by kernel_rfl) (by kernel_rfl) (fun _ _ _ h => h.elim) (Or.inl ⟨by rfl, ?y10⟩) F7.out.2.2.2.1 ?_
                case y10 =>
                  intro V hV
                  go_simp
                simp only [Act.put, List.setIfInBounds_toArray, List.set_cons_zero, List.set_cons_succ]
                refine wpAnyH_ready (rs := [11]) (by kernel_rfl) (by simp) (AllReadyH.cons (i := 11) (o := ⟨none, Op.store 40 (.tmp 50) (.tmp 48), 0, "law.go:123", #[⟨10, .data⟩, ⟨7, .data⟩, ⟨9, .chain⟩, ⟨0, .phase⟩, ⟨1, .phase⟩, ⟨2, .phase⟩, ⟨3, .phase⟩, ⟨4, .phase⟩, ⟨5, .phase⟩, ⟨6, .phase⟩, ⟨7, .phase⟩, ⟨8, .phase⟩, ⟨9, .phase⟩], none⟩) rfl ?_ AllReadyH.nil)
                · intro K1 hK1
                  refine step_st (by rfl) 40 (.tmp 50) (.tmp 48) rfl g 37 (.slice sn.a sn.n sn.c) 43 _ rfl rfl F7.out.1 (by rw [Pp.length (p := { p with y := sy }) HL.out.2]; omega) (by kernel_rfl) rfl rfl ?_
                  obtain ⟨V8, hv8⟩ : ∃ V, V7.setCell ⟨g, 37, none⟩ (.slice sn.a sn.n sn.c) = V := ⟨_, rfl⟩
                  have F8 : Hid (Copied A g p yes no sy sn V8) := copied_of HL F7.out hv8
                  rw [hv8]
                  clear hv8
                  refine hK1.out _ _ F8.out.2.2.2 ?_
                  clear hK1
                  intro _
                  try simp only [Act.put, List.setIfInBounds_toArray, List.set_cons_zero, List.set_cons_succ]
                  refine wpAnyH_done (by kernel_rfl) ?_ _
                  exact hQ V8 _ _ sy sn F8.out
      · intro K1 hK1
        rw [if_pos (by rfl)]
        have hc : V1.cell? ⟨g, 37, none⟩ = some (.slice p.n.a p.n.n p.n.c) := R1.out.blk.cell (Pp.tail HL.out.2 2)
        go_wp2
        clear hc
        refine hK1.out _ _ R1.out.keep ?_
        clear hK1
        intro _
        try simp only [Act.put, List.setIfInBounds_toArray, List.set_cons_zero, List.set_cons_succ]
        refine wpAnyH_ready (rs := [3, 4]) (by kernel_rfl) (by simp) (AllReadyH.cons (i := 3) (o := ⟨some 44, Op.call { callee := Callee.builtin Builtin.append, args := #[Operand.tmp 41, Operand.tmp 43], argTypes := #[40, 40] }, 40, "law.go:123", #[⟨0, .data⟩, ⟨2, .data⟩], none⟩) rfl ?_ (AllReadyH.cons (i := 4) (o := ⟨some 45, Op.buildSlice 40 0 #[], 40, "law.go:123", #[], none⟩) rfl ?_ AllReadyH.nil))
        · intro K1 hK1
          obtain ⟨v4, V4, hr4, hR4⟩ := R1.out.app (s := p.y) (l := yes) (strs_keep HY.out.1 R1.out.keep HNE.out.1) HY.out.2.1 HL.out.1 40
          refine step_run (by rfl) (.tmp 41) (.tmp 43) rfl _ p.y rfl rfl hr4 ?_
          have R4 : Hid (R13 A g p V4 (some (v4, yes)) none) := hR4
          clear hr4 hR4
          refine hK1.out _ _ R4.out.keep ?_
          clear hK1
          intro _
          try simp only [Act.put, List.setIfInBounds_toArray, List.set_cons_zero, List.set_cons_succ]
          refine wpAnyH_take (i := 8) (oi := ⟨some 49, Op.fieldAddr 43 (.tmp 2) 5, 0, "law.go:123", #[⟨0, .phase⟩, ⟨1, .phase⟩, ⟨2, .phase⟩, ⟨3, .phase⟩, { on := 4, ground := Ground.textOnly Departure.lateStores }, ⟨5, .phase⟩, ⟨6, .phase⟩, { on := 7, ground := Ground.textOnly Departure.lateStoresUnsure }], none⟩) (v := .pointer (some ⟨g, 36, none⟩)) rfl (by kernel_rfl) (by kernel_rfl) (by kernel_rfl) (fun _ _ _ h => h.elim) (Or.inl ⟨by rfl, ?y11⟩) R4.out.keep ?_
          case y11 =>
            intro V hV
            go_simp
          simp only [Act.put, List.setIfInBounds_toArray, List.set_cons_zero, List.set_cons_succ]
          refine wpAnyH_ready (rs := [4]) (by kernel_rfl) (by simp) (AllReadyH.cons (i := 4) (o := ⟨some 45, Op.buildSlice 40 0 #[], 40, "law.go:123", #[], none⟩) rfl ?_ AllReadyH.nil)
          · intro K1 hK1
            refine step_bs0 (by rfl) rfl ?_
            obtain ⟨V5, hv5⟩ : ∃ V, V4.alloc (.cells #[] 9) = V := ⟨_, rfl⟩
            obtain ⟨q5, hq5⟩ : ∃ m, V4.heap.size = m := ⟨_, rfl⟩
            have R5 : Hid (R13 A g p V5 (some (v4, yes)) (some (.slice (some ⟨q5, 0, none⟩) 0 0, []))) := by rw [← hv5, ← hq5]; exact R4.out.swap.bs.swap
            rw [hv5, hq5]
            clear hv5 hq5
            refine hK1.out _ _ R5.out.keep ?_
            clear hK1
            intro _
            try simp only [Act.put, List.setIfInBounds_toArray, List.set_cons_zero, List.set_cons_succ]
            refine wpAnyH_ready (rs := [7]) (by kernel_rfl) (by simp) (AllReadyH.cons (i := 7) (o := ⟨some 48, Op.call { callee := Callee.builtin Builtin.append, args := #[Operand.tmp 45, Operand.tmp 47], argTypes := #[40, 40] }, 40, "law.go:123", #[⟨4, .data⟩, ⟨6, .data⟩, ⟨3, .chain⟩], none⟩) rfl ?_ AllReadyH.nil)
            · intro K1 hK1
              obtain ⟨v6, V6, hr6, hR6⟩ := R5.out.swap.app (s := p.n) (l := no) (strs_keep HN.out.1 R5.out.keep HNE.out.2) HN.out.2.1 HL.out.1 40
              refine step_run (by rfl) (.tmp 45) (.tmp 47) rfl _ p.n rfl rfl hr6 ?_
              have R6 : Hid (R13 A g p V6 (some (v4, yes)) (some (v6, no))) := hR6.swap
              clear hr6 hR6
              refine hK1.out _ _ R6.out.keep ?_
              clear hK1
              intro _
              try simp only [Act.put, List.setIfInBounds_toArray, List.set_cons_zero, List.set_cons_succ]
              refine wpAnyH_ready (rs := [9]) (by kernel_rfl) (by simp) (AllReadyH.cons (i := 9) (o := ⟨none, Op.store 40 (.tmp 49) (.tmp 44), 0, "law.go:123", #[⟨8, .data⟩, ⟨3, .data⟩, ⟨7, .chain⟩, ⟨0, .phase⟩, ⟨1, .phase⟩, ⟨2, .phase⟩, ⟨3, .phase⟩, { on := 4, ground := Ground.textOnly Departure.lateStores }, ⟨5, .phase⟩, ⟨6, .phase⟩, { on := 7, ground := Ground.textOnly Departure.lateStoresUnsure }], none⟩) rfl ?_ AllReadyH.nil)
              · intro K1 hK1
                obtain ⟨sy, hsy, hty, hyn, hyb⟩ := own_txt R6.out.fst.1 HY.out.2.2.1 (by have := HY.out.2.1; omega)
                obtain ⟨sn, hsn, htn, hnn, hnb⟩ := own_txt R6.out.snd.1 HN.out.2.2.1 (by have := HN.out.2.1; omega)
                subst hsy
                subst hsn
                refine step_st (by rfl) 40 (.tmp 49) (.tmp 44) rfl g 36 (.slice sy.a sy.n sy.c) 43 _ rfl rfl R6.out.blk (by rw [Pp.length HL.out.2]; omega) (by kernel_rfl) rfl rfl ?_
                obtain ⟨V7, hv7⟩ : ∃ V, V6.setCell ⟨g, 36, none⟩ (.slice sy.a sy.n sy.c) = V := ⟨_, rfl⟩
                have F7 : Hid (Half A g p yes no sy sn V7) := half_of HL R6.out.blk R6.out.keep hty htn hyb hnb hv7
                rw [hv7]
                clear hv7 hty htn hyb hnb hyn hnn
                refine hK1.out _ _ F7.out.2.2.2.1 ?_
                clear hK1
                intro _
                try simp only [Act.put, List.setIfInBounds_toArray, List.set_cons_zero, List.set_cons_succ]
                refine wpAnyH_take (i := 10) (oi := ⟨some 50, Op.fieldAddr 43 (.tmp 2) 6, 0, "law.go:123", #[⟨0, .phase⟩, ⟨1, .phase⟩, ⟨2, .phase⟩, ⟨3, .phase⟩, ⟨4, .phase⟩, ⟨5, .phase⟩, ⟨6, .phase⟩, ⟨7, .phase⟩, ⟨8, .phase⟩, ⟨9, .phase⟩], none⟩) (v := .pointer (some ⟨g, 37, none⟩)) rfl (by kernel_rfl) (by kernel_rfl) (by kernel_rfl) (fun _ _ _ h => h.elim) (Or.inl ⟨by rfl, ?y12⟩) F7.out.2.2.2.1 ?_
                case y12 =>
                  intro V hV
                  go_simp
                simp only [Act.put, List.setIfInBounds_toArray, List.set_cons_zero, List.set_cons_succ]
                refine wpAnyH_ready (rs := [11]) (by kernel_rfl) (by simp) (AllReadyH.cons (i := 11) (o := ⟨none, Op.store 40 (.tmp 50) (.tmp 48), 0, "law.go:123", #[⟨10, .data⟩, ⟨7, .data⟩, ⟨9, .chain⟩, ⟨0, .phase⟩, ⟨1, .phase⟩, ⟨2, .phase⟩, ⟨3, .phase⟩, ⟨4, .phase⟩, ⟨5, .phase⟩, ⟨6, .phase⟩, ⟨7, .phase⟩, ⟨8, .phase⟩, ⟨9, .phase⟩], none⟩) rfl ?_ AllReadyH.nil)
                · intro K1 hK1
                  refine step_st (by rfl) 40 (.tmp 50) (.tmp 48) rfl g 37 (.slice sn.a sn.n sn.c) 43 _ rfl rfl F7.out.1 (by rw [Pp.length (p := { p with y := sy }) HL.out.2]; omega) (by kernel_rfl) rfl rfl ?_
                  obtain ⟨V8, hv8⟩ : ∃ V, V7.setCell ⟨g, 37, none⟩ (.slice sn.a sn.n sn.c) = V := ⟨_, rfl⟩
                  have F8 : Hid (Copied A g p yes no sy sn V8) := copied_of HL F7.out hv8
                  rw [hv8]
                  clear hv8
                  refine hK1.out _ _ F8.out.2.2.2 ?_
                  clear hK1
                  intro _
                  try simp only [Act.put, List.setIfInBounds_toArray, List.set_cons_zero, List.set_cons_succ]
                  refine wpAnyH_done (by kernel_rfl) ?_ _
                  exact hQ V8 _ _ sy sn F8.out
        · intro K1 hK1
          refine step_bs0 (by rfl) rfl ?_
          obtain ⟨V4, hv4⟩ : ∃ V, V1.alloc (.cells #[] 9) = V := ⟨_, rfl⟩
          obtain ⟨q4, hq4⟩ : ∃ m, V1.heap.size = m := ⟨_, rfl⟩
          have R4 : Hid (R13 A g p V4 (some (.slice (some ⟨q1, 0, none⟩) 0 0, [])) (some (.slice (some ⟨q4, 0, none⟩) 0 0, []))) := by rw [← hv4, ← hq4]; exact R1.out.swap.bs.swap
          rw [hv4, hq4]
          clear hv4 hq4
          refine hK1.out _ _ R4.out.keep ?_
          clear hK1
          intro _
          try simp only [Act.put, List.setIfInBounds_toArray, List.set_cons_zero, List.set_cons_succ]
          refine wpAnyH_ready (rs := [3]) (by kernel_rfl) (by simp) (AllReadyH.cons (i := 3) (o := ⟨some 44, Op.call { callee := Callee.builtin Builtin.append, args := #[Operand.tmp 41, Operand.tmp 43], argTypes := #[40, 40] }, 40, "law.go:123", #[⟨0, .data⟩, ⟨2, .data⟩], none⟩) rfl ?_ AllReadyH.nil)
          · intro K1 hK1
            obtain ⟨v5, V5, hr5, hR5⟩ := R4.out.app (s := p.y) (l := yes) (strs_keep HY.out.1 R4.out.keep HNE.out.1) HY.out.2.1 HL.out.1 40
            refine step_run (by rfl) (.tmp 41) (.tmp 43) rfl _ p.y rfl rfl hr5 ?_
            have R5 : Hid (R13 A g p V5 (some (v5, yes)) (some (.slice (some ⟨q4, 0, none⟩) 0 0, []))) := hR5
            clear hr5 hR5
            refine hK1.out _ _ R5.out.keep ?_
            clear hK1
            intro _
            try simp only [Act.put, List.setIfInBounds_toArray, List.set_cons_zero, List.set_cons_succ]
            refine wpAnyH_take (i := 8) (oi := ⟨some 49, Op.fieldAddr 43 (.tmp 2) 5, 0, "law.go:123", #[⟨0, .phase⟩, ⟨1, .phase⟩, ⟨2, .phase⟩, ⟨3, .phase⟩, { on := 4, ground := Ground.textOnly Departure.lateStores }, ⟨5, .phase⟩, ⟨6, .phase⟩, { on := 7, ground := Ground.textOnly Departure.lateStoresUnsure }], none⟩) (v := .pointer (some ⟨g, 36, none⟩)) rfl (by kernel_rfl) (by kernel_rfl) (by kernel_rfl) (fun _ _ _ h => h.elim) (Or.inl ⟨by rfl, ?y13⟩) R5.out.keep ?_
            case y13 =>
              intro V hV
              go_simp
            simp only [Act.put, List.setIfInBounds_toArray, List.set_cons_zero, List.set_cons_succ]
            refine wpAnyH_ready (rs := [7]) (by kernel_rfl) (by simp) (AllReadyH.cons (i := 7) (o := ⟨some 48, Op.call { callee := Callee.builtin Builtin.append, args := #[Operand.tmp 45, Operand.tmp 47], argTypes := #[40, 40] }, 40, "law.go:123", #[⟨4, .data⟩, ⟨6, .data⟩, ⟨3, .chain⟩], none⟩) rfl ?_ AllReadyH.nil)
            · intro K1 hK1
              obtain ⟨v6, V6, hr6, hR6⟩ := R5.out.swap.app (s := p.n) (l := no) (strs_keep HN.out.1 R5.out.keep HNE.out.2) HN.out.2.1 HL.out.1 40
              refine step_run (by rfl) (.tmp 45) (.tmp 47) rfl _ p.n rfl rfl hr6 ?_
              have R6 : Hid (R13 A g p V6 (some (v5, yes)) (some (v6, no))) := hR6.swap
              clear hr6 hR6
              refine hK1.out _ _ R6.out.keep ?_
              clear hK1
              intro _
              try simp only [Act.put, List.setIfInBounds_toArray, List.set_cons_zero, List.set_cons_succ]
              refine wpAnyH_ready (rs := [9]) (by kernel_rfl) (by simp) (AllReadyH.cons (i := 9) (o := ⟨none, Op.store 40 (.tmp 49) (.tmp 44), 0, "law.go:123", #[⟨8, .data⟩, ⟨3, .data⟩, ⟨7, .chain⟩, ⟨0, .phase⟩, ⟨1, .phase⟩, ⟨2, .phase⟩, ⟨3, .phase⟩, { on := 4, ground := Ground.textOnly Departure.lateStores }, ⟨5, .phase⟩, ⟨6, .phase⟩, { on := 7, ground := Ground.textOnly Departure.lateStoresUnsure }], none⟩) rfl ?_ AllReadyH.nil)
              · intro K1 hK1
                obtain ⟨sy, hsy, hty, hyn, hyb⟩ := own_txt R6.out.fst.1 HY.out.2.2.1 (by have := HY.out.2.1; omega)
                obtain ⟨sn, hsn, htn, hnn, hnb⟩ := own_txt R6.out.snd.1 HN.out.2.2.1 (by have := HN.out.2.1; omega)
                subst hsy
                subst hsn
                refine step_st (by rfl) 40 (.tmp 49) (.tmp 44) rfl g 36 (.slice sy.a sy.n sy.c) 43 _ rfl rfl R6.out.blk (by rw [Pp.length HL.out.2]; omega) (by kernel_rfl) rfl rfl ?_
                obtain ⟨V7, hv7⟩ : ∃ V, V6.setCell ⟨g, 36, none⟩ (.slice sy.a sy.n sy.c) = V := ⟨_, rfl⟩
                have F7 : Hid (Half A g p yes no sy sn V7) := half_of HL R6.out.blk R6.out.keep hty htn hyb hnb hv7
                rw [hv7]
                clear hv7 hty htn hyb hnb hyn hnn
                refine hK1.out _ _ F7.out.2.2.2.1 ?_
                clear hK1
                intro _
                try simp only [Act.put, List.setIfInBounds_toArray, List.set_cons_zero, List.set_cons_succ]
                refine wpAnyH_take (i := 10) (oi := ⟨some 50, Op.fieldAddr 43 (.tmp 2) 6, 0, "law.go:123", #[⟨0, .phase⟩, ⟨1, .phase⟩, ⟨2, .phase⟩, ⟨3, .phase⟩, ⟨4, .phase⟩, ⟨5, .phase⟩, ⟨6, .phase⟩, ⟨7, .phase⟩, ⟨8, .phase⟩, ⟨9, .phase⟩], none⟩) (v := .pointer (some ⟨g, 37, none⟩)) rfl (by kernel_rfl) (by kernel_rfl) (by kernel_rfl) (fun _ _ _ h => h.elim) (Or.inl ⟨by rfl, ?y14⟩) F7.out.2.2.2.1 ?_
                case y14 =>
                  intro V hV
                  go_simp
                simp only [Act.put, List.setIfInBounds_toArray, List.set_cons_zero, List.set_cons_succ]
                refine wpAnyH_ready (rs := [11]) (by kernel_rfl) (by simp) (AllReadyH.cons (i := 11) (o := ⟨none, Op.store 40 (.tmp 50) (.tmp 48), 0, "law.go:123", #[⟨10, .data⟩, ⟨7, .data⟩, ⟨9, .chain⟩, ⟨0, .phase⟩, ⟨1, .phase⟩, ⟨2, .phase⟩, ⟨3, .phase⟩, ⟨4, .phase⟩, ⟨5, .phase⟩, ⟨6, .phase⟩, ⟨7, .phase⟩, ⟨8, .phase⟩, ⟨9, .phase⟩], none⟩) rfl ?_ AllReadyH.nil)
                · intro K1 hK1
                  refine step_st (by rfl) 40 (.tmp 50) (.tmp 48) rfl g 37 (.slice sn.a sn.n sn.c) 43 _ rfl rfl F7.out.1 (by rw [Pp.length (p := { p with y := sy }) HL.out.2]; omega) (by kernel_rfl) rfl rfl ?_
                  obtain ⟨V8, hv8⟩ : ∃ V, V7.setCell ⟨g, 37, none⟩ (.slice sn.a sn.n sn.c) = V := ⟨_, rfl⟩
                  have F8 : Hid (Copied A g p yes no sy sn V8) := copied_of HL F7.out hv8
                  rw [hv8]
                  clear hv8
                  refine hK1.out _ _ F8.out.2.2.2 ?_
                  clear hK1
                  intro _
                  try simp only [Act.put, List.setIfInBounds_toArray, List.set_cons_zero, List.set_cons_succ]
                  refine wpAnyH_done (by kernel_rfl) ?_ _
                  exact hQ V8 _ _ sy sn F8.out
    · intro K1 hK1
      refine step_bs0 (by rfl) rfl ?_
      obtain ⟨V2, hv2⟩ : ∃ V, V1.alloc (.cells #[] 9) = V := ⟨_, rfl⟩
      obtain ⟨q2, hq2⟩ : ∃ m, V1.heap.size = m := ⟨_, rfl⟩
      have R2 : Hid (R13 A g p V2 (some (.slice (some ⟨q1, 0, none⟩) 0 0, [])) (some (.slice (some ⟨q2, 0, none⟩) 0 0, []))) := by rw [← hv2, ← hq2]; exact R1.out.swap.bs.swap
      rw [hv2, hq2]
      clear hv2 hq2
      refine hK1.out _ _ R2.out.keep ?_
      clear hK1
      intro _
      try simp only [Act.put, List.setIfInBounds_toArray, List.set_cons_zero, List.set_cons_succ]
      refine wpAnyH_ready (rs := [2, 6]) (by kernel_rfl) (by simp) (AllReadyH.cons (i := 2) (o := ⟨some 43, Op.load 40 (.tmp 42), 40, "law.go:123", #[⟨1, .data⟩], none⟩) rfl ?_ (AllReadyH.cons (i := 6) (o := ⟨some 47, Op.load 40 (.tmp 46), 40, "law.go:123", #[⟨5, .data⟩], none⟩) rfl ?_ AllReadyH.nil))
      · intro K1 hK1
        rw [if_pos (by rfl)]
        have hc : V2.cell? ⟨g, 36, none⟩ = some (.slice p.y.a p.y.n p.y.c) := R2.out.blk.cell (Pp.tail HL.out.2 1)
        go_wp2
        clear hc
        refine hK1.out _ _ R2.out.keep ?_
        clear hK1
        intro _
        try simp only [Act.put, List.setIfInBounds_toArray, List.set_cons_zero, List.set_cons_succ]
        refine wpAnyH_ready (rs := [3, 6]) (by kernel_rfl) (by simp) (AllReadyH.cons (i := 3) (o := ⟨some 44, Op.call { callee := Callee.builtin Builtin.append, args := #[Operand.tmp 41, Operand.tmp 43], argTypes := #[40, 40] }, 40, "law.go:123", #[⟨0, .data⟩, ⟨2, .data⟩], none⟩) rfl ?_ (AllReadyH.cons (i := 6) (o := ⟨some 47, Op.load 40 (.tmp 46), 40, "law.go:123", #[⟨5, .data⟩], none⟩) rfl ?_ AllReadyH.nil))
        · intro K1 hK1
          obtain ⟨v4, V4, hr4, hR4⟩ := R2.out.app (s := p.y) (l := yes) (strs_keep HY.out.1 R2.out.keep HNE.out.1) HY.out.2.1 HL.out.1 40
          refine step_run (by rfl) (.tmp 41) (.tmp 43) rfl _ p.y rfl rfl hr4 ?_
          have R4 : Hid (R13 A g p V4 (some (v4, yes)) (some (.slice (some ⟨q2, 0, none⟩) 0 0, []))) := hR4
          clear hr4 hR4
          refine hK1.out _ _ R4.out.keep ?_
          clear hK1
          intro _
          try simp only [Act.put, List.setIfInBounds_toArray, List.set_cons_zero, List.set_cons_succ]
          refine wpAnyH_ready (rs := [6]) (by kernel_rfl) (by simp) (AllReadyH.cons (i := 6) (o := ⟨some 47, Op.load 40 (.tmp 46), 40, "law.go:123", #[⟨5, .data⟩], none⟩) rfl ?_ AllReadyH.nil)
          · intro K1 hK1
            rw [if_pos (by rfl)]
            have hc : V4.cell? ⟨g, 37, none⟩ = some (.slice p.n.a p.n.n p.n.c) := R4.out.blk.cell (Pp.tail HL.out.2 2)
            go_wp2
            clear hc
            refine hK1.out _ _ R4.out.keep ?_
            clear hK1
            intro _
            try simp only [Act.put, List.setIfInBounds_toArray, List.set_cons_zero, List.set_cons_succ]
            refine wpAnyH_take (i := 8) (oi := ⟨some 49, Op.fieldAddr 43 (.tmp 2) 5, 0, "law.go:123", #[⟨0, .phase⟩, ⟨1, .phase⟩, ⟨2, .phase⟩, ⟨3, .phase⟩, { on := 4, ground := Ground.textOnly Departure.lateStores }, ⟨5, .phase⟩, ⟨6, .phase⟩, { on := 7, ground := Ground.textOnly Departure.lateStoresUnsure }], none⟩) (v := .pointer (some ⟨g, 36, none⟩)) rfl (by kernel_rfl) (by kernel_rfl) (by kernel_rfl) (fun _ _ _ h => h.elim) (Or.inl ⟨by rfl, ?y15⟩) R4.out.keep ?_
            case y15 =>
              intro V hV
              go_simp
            simp only [Act.put, List.setIfInBounds_toArray, List.set_cons_zero, List.set_cons_succ]
            refine wpAnyH_ready (rs := [7]) (by kernel_rfl) (by simp) (AllReadyH.cons (i := 7) (o := ⟨some 48, Op.call { callee := Callee.builtin Builtin.append, args := #[Operand.tmp 45, Operand.tmp 47], argTypes := #[40, 40] }, 40, "law.go:123", #[⟨4, .data⟩, ⟨6, .data⟩, ⟨3, .chain⟩], none⟩) rfl ?_ AllReadyH.nil)
            · intro K1 hK1
              obtain ⟨v6, V6, hr6, hR6⟩ := R4.out.swap.app (s := p.n) (l := no) (strs_keep HN.out.1 R4.out.keep HNE.out.2) HN.out.2.1 HL.out.1 40
              refine step_run (by rfl) (.tmp 45) (.tmp 47) rfl _ p.n rfl rfl hr6 ?_
              have R6 : Hid (R13 A g p V6 (some (v4, yes)) (some (v6, no))) := hR6.swap
              clear hr6 hR6
              refine hK1.out _ _ R6.out.keep ?_
              clear hK1
              intro _
              try simp only [Act.put, List.setIfInBounds_toArray, List.set_cons_zero, List.set_cons_succ]
              refine wpAnyH_ready (rs := [9]) (by kernel_rfl) (by simp) (AllReadyH.cons (i := 9) (o := ⟨none, Op.store 40 (.tmp 49) (.tmp 44), 0, "law.go:123", #[⟨8, .data⟩, ⟨3, .data⟩, ⟨7, .chain⟩, ⟨0, .phase⟩, ⟨1, .phase⟩, ⟨2, .phase⟩, ⟨3, .phase⟩, { on := 4, ground := Ground.textOnly Departure.lateStores }, ⟨5, .phase⟩, ⟨6, .phase⟩, { on := 7, ground := Ground.textOnly Departure.lateStoresUnsure }], none⟩) rfl ?_ AllReadyH.nil)
              · intro K1 hK1
                obtain ⟨sy, hsy, hty, hyn, hyb⟩ := own_txt R6.out.fst.1 HY.out.2.2.1 (by have := HY.out.2.1; omega)
                obtain ⟨sn, hsn, htn, hnn, hnb⟩ := own_txt R6.out.snd.1 HN.out.2.2.1 (by have := HN.out.2.1; omega)
                subst hsy
                subst hsn
                refine step_st (by rfl) 40 (.tmp 49) (.tmp 44) rfl g 36 (.slice sy.a sy.n sy.c) 43 _ rfl rfl R6.out.blk (by rw [Pp.length HL.out.2]; omega) (by kernel_rfl) rfl rfl ?_
                obtain ⟨V7, hv7⟩ : ∃ V, V6.setCell ⟨g, 36, none⟩ (.slice sy.a sy.n sy.c) = V := ⟨_, rfl⟩
                have F7 : Hid (Half A g p yes no sy sn V7) := half_of HL R6.out.blk R6.out.keep hty htn hyb hnb hv7
                rw [hv7]
                clear hv7 hty htn hyb hnb hyn hnn
                refine hK1.out _ _ F7.out.2.2.2.1 ?_
                clear hK1
                intro _
                try simp only [Act.put, List.setIfInBounds_toArray, List.set_cons_zero, List.set_cons_succ]
                refine wpAnyH_take (i := 10) (oi := ⟨some 50, Op.fieldAddr 43 (.tmp 2) 6, 0, "law.go:123", #[⟨0, .phase⟩, ⟨1, .phase⟩, ⟨2, .phase⟩, ⟨3, .phase⟩, ⟨4, .phase⟩, ⟨5, .phase⟩, ⟨6, .phase⟩, ⟨7, .phase⟩, ⟨8, .phase⟩, ⟨9, .phase⟩], none⟩) (v := .pointer (some ⟨g, 37, none⟩)) rfl (by kernel_rfl) (by kernel_rfl) (by kernel_rfl) (fun _ _ _ h => h.elim) (Or.inl ⟨by rfl, ?y16⟩) F7.out.2.2.2.1 ?_
                case y16 =>
                  intro V hV
                  go_simp
                simp only [Act.put, List.setIfInBounds_toArray, List.set_cons_zero, List.set_cons_succ]
                refine wpAnyH_ready (rs := [11]) (by kernel_rfl) (by simp) (AllReadyH.cons (i := 11) (o := ⟨none, Op.store 40 (.tmp 50) (.tmp 48), 0, "law.go:123", #[⟨10, .data⟩, ⟨7, .data⟩, ⟨9, .chain⟩, ⟨0, .phase⟩, ⟨1, .phase⟩, ⟨2, .phase⟩, ⟨3, .phase⟩, ⟨4, .phase⟩, ⟨5, .phase⟩, ⟨6, .phase⟩, ⟨7, .phase⟩, ⟨8, .phase⟩, ⟨9, .phase⟩], none⟩) rfl ?_ AllReadyH.nil)
                · intro K1 hK1
                  refine step_st (by rfl) 40 (.tmp 50) (.tmp 48) rfl g 37 (.slice sn.a sn.n sn.c) 43 _ rfl rfl F7.out.1 (by rw [Pp.length (p := { p with y := sy }) HL.out.2]; omega) (by kernel_rfl) rfl rfl ?_
                  obtain ⟨V8, hv8⟩ : ∃ V, V7.setCell ⟨g, 37, none⟩ (.slice sn.a sn.n sn.c) = V := ⟨_, rfl⟩
                  have F8 : Hid (Copied A g p yes no sy sn V8) := copied_of HL F7.out hv8
                  rw [hv8]
                  clear hv8
                  refine hK1.out _ _ F8.out.2.2.2 ?_
                  clear hK1
                  intro _
                  try simp only [Act.put, List.setIfInBounds_toArray, List.set_cons_zero, List.set_cons_succ]
                  refine wpAnyH_done (by kernel_rfl) ?_ _
                  exact hQ V8 _ _ sy sn F8.out
        · intro K1 hK1
          rw [if_pos (by rfl)]
          have hc : V2.cell? ⟨g, 37, none⟩ = some (.slice p.n.a p.n.n p.n.c) := R2.out.blk.cell (Pp.tail HL.out.2 2)
          go_wp2
          clear hc
          refine hK1.out _ _ R2.out.keep ?_
          clear hK1
          intro _
          try simp only [Act.put, List.setIfInBounds_toArray, List.set_cons_zero, List.set_cons_succ]
          refine wpAnyH_ready (rs := [3]) (by kernel_rfl) (by simp) (AllReadyH.cons (i := 3) (o := ⟨some 44, Op.call { callee := Callee.builtin Builtin.append, args := #[Operand.tmp 41, Operand.tmp 43], argTypes := #[40, 40] }, 40, "law.go:123", #[⟨0, .data⟩, ⟨2, .data⟩], none⟩) rfl ?_ AllReadyH.nil)
          · intro K1 hK1
            obtain ⟨v5, V5, hr5, hR5⟩ := R2.out.app (s := p.y) (l := yes) (strs_keep HY.out.1 R2.out.keep HNE.out.1) HY.out.2.1 HL.out.1 40
            refine step_run (by rfl) (.tmp 41) (.tmp 43) rfl _ p.y rfl rfl hr5 ?_
            have R5 : Hid (R13 A g p V5 (some (v5, yes)) (some (.slice (some ⟨q2, 0, none⟩) 0 0, []))) := hR5
            clear hr5 hR5
            refine hK1.out _ _ R5.out.keep ?_
            clear hK1
            intro _
            try simp only [Act.put, List.setIfInBounds_toArray, List.set_cons_zero, List.set_cons_succ]
            refine wpAnyH_take (i := 8) (oi := ⟨some 49, Op.fieldAddr 43 (.tmp 2) 5, 0, "law.go:123", #[⟨0, .phase⟩, ⟨1, .phase⟩, ⟨2, .phase⟩, ⟨3, .phase⟩, { on := 4, ground := Ground.textOnly Departure.lateStores }, ⟨5, .phase⟩, ⟨6, .phase⟩, { on := 7, ground := Ground.textOnly Departure.lateStoresUnsure }], none⟩) (v := .pointer (some ⟨g, 36, none⟩)) rfl (by kernel_rfl) (by kernel_rfl) (by kernel_rfl) (fun _ _ _ h => h.elim) (Or.inl ⟨by rfl, ?y17⟩) R5.out.keep ?_
            case y17 =>
              intro V hV
              go_simp
            simp only [Act.put, List.setIfInBounds_toArray, List.set_cons_zero, List.set_cons_succ]
            refine wpAnyH_ready (rs := [7]) (by kernel_rfl) (by simp) (AllReadyH.cons (i := 7) (o := ⟨some 48, Op.call { callee := Callee.builtin Builtin.append, args := #[Operand.tmp 45, Operand.tmp 47], argTypes := #[40, 40] }, 40, "law.go:123", #[⟨4, .data⟩, ⟨6, .data⟩, ⟨3, .chain⟩], none⟩) rfl ?_ AllReadyH.nil)
            · intro K1 hK1
              obtain ⟨v6, V6, hr6, hR6⟩ := R5.out.swap.app (s := p.n) (l := no) (strs_keep HN.out.1 R5.out.keep HNE.out.2) HN.out.2.1 HL.out.1 40
              refine step_run (by rfl) (.tmp 45) (.tmp 47) rfl _ p.n rfl rfl hr6 ?_
              have R6 : Hid (R13 A g p V6 (some (v5, yes)) (some (v6, no))) := hR6.swap
              clear hr6 hR6
              refine hK1.out _ _ R6.out.keep ?_
              clear hK1
              intro _
              try simp only [Act.put, List.setIfInBounds_toArray, List.set_cons_zero, List.set_cons_succ]
              refine wpAnyH_ready (rs := [9]) (by kernel_rfl) (by simp) (AllReadyH.cons (i := 9) (o := ⟨none, Op.store 40 (.tmp 49) (.tmp 44), 0, "law.go:123", #[⟨8, .data⟩, ⟨3, .data⟩, ⟨7, .chain⟩, ⟨0, .phase⟩, ⟨1, .phase⟩, ⟨2, .phase⟩, ⟨3, .phase⟩, { on := 4, ground := Ground.textOnly Departure.lateStores }, ⟨5, .phase⟩, ⟨6, .phase⟩, { on := 7, ground := Ground.textOnly Departure.lateStoresUnsure }], none⟩) rfl ?_ AllReadyH.nil)
              · intro K1 hK1
                obtain ⟨sy, hsy, hty, hyn, hyb⟩ := own_txt R6.out.fst.1 HY.out.2.2.1 (by have := HY.out.2.1; omega)
                obtain ⟨sn, hsn, htn, hnn, hnb⟩ := own_txt R6.out.snd.1 HN.out.2.2.1 (by have := HN.out.2.1; omega)
                subst hsy
                subst hsn
                refine step_st (by rfl) 40 (.tmp 49) (.tmp 44) rfl g 36 (.slice sy.a sy.n sy.c) 43 _ rfl rfl R6.out.blk (by rw [Pp.length HL.out.2]; omega) (by kernel_rfl) rfl rfl ?_
                obtain ⟨V7, hv7⟩ : ∃ V, V6.setCell ⟨g, 36, none⟩ (.slice sy.a sy.n sy.c) = V := ⟨_, rfl⟩
                have F7 : Hid (Half A g p yes no sy sn V7) := half_of HL R6.out.blk R6.out.keep hty htn hyb hnb hv7
                rw [hv7]
                clear hv7 hty htn hyb hnb hyn hnn
                refine hK1.out _ _ F7.out.2.2.2.1 ?_
                clear hK1
                intro _
                try simp only [Act.put, List.setIfInBounds_toArray, List.set_cons_zero, List.set_cons_succ]
                refine wpAnyH_take (i := 10) (oi := ⟨some 50, Op.fieldAddr 43 (.tmp 2) 6, 0, "law.go:123", #[⟨0, .phase⟩, ⟨1, .phase⟩, ⟨2, .phase⟩, ⟨3, .phase⟩, ⟨4, .phase⟩, ⟨5, .phase⟩, ⟨6, .phase⟩, ⟨7, .phase⟩, ⟨8, .phase⟩, ⟨9, .phase⟩], none⟩) (v := .pointer (some ⟨g, 37, none⟩)) rfl (by kernel_rfl) (by kernel_rfl) (by kernel_rfl) (fun _ _ _ h => h.elim) (Or.inl ⟨by rfl, ?y18⟩) F7.out.2.2.2.1 ?_
                case y18 =>
                  intro V hV
                  go_simp
                simp only [Act.put, List.setIfInBounds_toArray, List.set_cons_zero, List.set_cons_succ]
                refine wpAnyH_ready (rs := [11]) (by kernel_rfl) (by simp) (AllReadyH.cons (i := 11) (o := ⟨none, Op.store 40 (.tmp 50) (.tmp 48), 0, "law.go:123", #[⟨10, .data⟩, ⟨7, .data⟩, ⟨9, .chain⟩, ⟨0, .phase⟩, ⟨1, .phase⟩, ⟨2, .phase⟩, ⟨3, .phase⟩, ⟨4, .phase⟩, ⟨5, .phase⟩, ⟨6, .phase⟩, ⟨7, .phase⟩, ⟨8, .phase⟩, ⟨9, .phase⟩], none⟩) rfl ?_ AllReadyH.nil)
                · intro K1 hK1
                  refine step_st (by rfl) 40 (.tmp 50) (.tmp 48) rfl g 37 (.slice sn.a sn.n sn.c) 43 _ rfl rfl F7.out.1 (by rw [Pp.length (p := { p with y := sy }) HL.out.2]; omega) (by kernel_rfl) rfl rfl ?_
                  obtain ⟨V8, hv8⟩ : ∃ V, V7.setCell ⟨g, 37, none⟩ (.slice sn.a sn.n sn.c) = V := ⟨_, rfl⟩
                  have F8 : Hid (Copied A g p yes no sy sn V8) := copied_of HL F7.out hv8
                  rw [hv8]
                  clear hv8
                  refine hK1.out _ _ F8.out.2.2.2 ?_
                  clear hK1
                  intro _
                  try simp only [Act.put, List.setIfInBounds_toArray, List.set_cons_zero, List.set_cons_succ]
                  refine wpAnyH_done (by kernel_rfl) ?_ _
                  exact hQ V8 _ _ sy sn F8.out
      · intro K1 hK1
        rw [if_pos (by rfl)]
        have hc : V2.cell? ⟨g, 37, none⟩ = some (.slice p.n.a p.n.n p.n.c) := R2.out.blk.cell (Pp.tail HL.out.2 2)
        go_wp2
        clear hc
        refine hK1.out _ _ R2.out.keep ?_
        clear hK1
        intro _
        try simp only [Act.put, List.setIfInBounds_toArray, List.set_cons_zero, List.set_cons_succ]
        refine wpAnyH_ready (rs := [2]) (by kernel_rfl) (by simp) (AllReadyH.cons (i := 2) (o := ⟨some 43, Op.load 40 (.tmp 42), 40, "law.go:123", #[⟨1, .data⟩], none⟩) rfl ?_ AllReadyH.nil)
        · intro K1 hK1
          rw [if_pos (by rfl)]
          have hc : V2.cell? ⟨g, 36, none⟩ = some (.slice p.y.a p.y.n p.y.c) := R2.out.blk.cell (Pp.tail HL.out.2 1)
          go_wp2
          clear hc
          refine hK1.out _ _ R2.out.keep ?_
          clear hK1
          intro _
          try simp only [Act.put, List.setIfInBounds_toArray, List.set_cons_zero, List.set_cons_succ]
          refine wpAnyH_ready (rs := [3]) (by kernel_rfl) (by simp) (AllReadyH.cons (i := 3) (o := ⟨some 44, Op.call { callee := Callee.builtin Builtin.append, args := #[Operand.tmp 41, Operand.tmp 43], argTypes := #[40, 40] }, 40, "law.go:123", #[⟨0, .data⟩, ⟨2, .data⟩], none⟩) rfl ?_ AllReadyH.nil)
          · intro K1 hK1
            obtain ⟨v5, V5, hr5, hR5⟩ := R2.out.app (s := p.y) (l := yes) (strs_keep HY.out.1 R2.out.keep HNE.out.1) HY.out.2.1 HL.out.1 40
            refine step_run (by rfl) (.tmp 41) (.tmp 43) rfl _ p.y rfl rfl hr5 ?_
            have R5 : Hid (R13 A g p V5 (some (v5, yes)) (some (.slice (some ⟨q2, 0, none⟩) 0 0, []))) := hR5
            clear hr5 hR5
            refine hK1.out _ _ R5.out.keep ?_
            clear hK1
            intro _
            try simp only [Act.put, List.setIfInBounds_toArray, List.set_cons_zero, List.set_cons_succ]
            refine wpAnyH_take (i := 8) (oi := ⟨some 49, Op.fieldAddr 43 (.tmp 2) 5, 0, "law.go:123", #[⟨0, .phase⟩, ⟨1, .phase⟩, ⟨2, .phase⟩, ⟨3, .phase⟩, { on := 4, ground := Ground.textOnly Departure.lateStores }, ⟨5, .phase⟩, ⟨6, .phase⟩, { on := 7, ground := Ground.textOnly Departure.lateStoresUnsure }], none⟩) (v := .pointer (some ⟨g, 36, none⟩)) rfl (by kernel_rfl) (by kernel_rfl) (by kernel_rfl) (fun _ _ _ h => h.elim) (Or.inl ⟨by rfl, ?y19⟩) R5.out.keep ?_
            case y19 =>
              intro V hV
              go_simp
            simp only [Act.put, List.setIfInBounds_toArray, List.set_cons_zero, List.set_cons_succ]
            refine wpAnyH_ready (rs := [7]) (by kernel_rfl) (by simp) (AllReadyH.cons (i := 7) (o := ⟨some 48, Op.call { callee := Callee.builtin Builtin.append, args := #[Operand.tmp 45, Operand.tmp 47], argTypes := #[40, 40] }, 40, "law.go:123", #[⟨4, .data⟩, ⟨6, .data⟩, ⟨3, .chain⟩], none⟩) rfl ?_ AllReadyH.nil)
            · intro K1 hK1
              obtain ⟨v6, V6, hr6, hR6⟩ := R5.out.swap.app (s := p.n) (l := no) (strs_keep HN.out.1 R5.out.keep HNE.out.2) HN.out.2.1 HL.out.1 40
              refine step_run (by rfl) (.tmp 45) (.tmp 47) rfl _ p.n rfl rfl hr6 ?_
              have R6 : Hid (R13 A g p V6 (some (v5, yes)) (some (v6, no))) := hR6.swap
              clear hr6 hR6
              refine hK1.out _ _ R6.out.keep ?_
              clear hK1
              intro _
              try simp only [Act.put, List.setIfInBounds_toArray, List.set_cons_zero, List.set_cons_succ]
              refine wpAnyH_ready (rs := [9]) (by kernel_rfl) (by simp) (AllReadyH.cons (i := 9) (o := ⟨none, Op.store 40 (.tmp 49) (.tmp 44), 0, "law.go:123", #[⟨8, .data⟩, ⟨3, .data⟩, ⟨7, .chain⟩, ⟨0, .phase⟩, ⟨1, .phase⟩, ⟨2, .phase⟩, ⟨3, .phase⟩, { on := 4, ground := Ground.textOnly Departure.lateStores }, ⟨5, .phase⟩, ⟨6, .phase⟩, { on := 7, ground := Ground.textOnly Departure.lateStoresUnsure }], none⟩) rfl ?_ AllReadyH.nil)
              · intro K1 hK1
                obtain ⟨sy, hsy, hty, hyn, hyb⟩ := own_txt R6.out.fst.1 HY.out.2.2.1 (by have := HY.out.2.1; omega)
                obtain ⟨sn, hsn, htn, hnn, hnb⟩ := own_txt R6.out.snd.1 HN.out.2.2.1 (by have := HN.out.2.1; omega)
                subst hsy
                subst hsn
                refine step_st (by rfl) 40 (.tmp 49) (.tmp 44) rfl g 36 (.slice sy.a sy.n sy.c) 43 _ rfl rfl R6.out.blk (by rw [Pp.length HL.out.2]; omega) (by kernel_rfl) rfl rfl ?_
                obtain ⟨V7, hv7⟩ : ∃ V, V6.setCell ⟨g, 36, none⟩ (.slice sy.a sy.n sy.c) = V := ⟨_, rfl⟩
                have F7 : Hid (Half A g p yes no sy sn V7) := half_of HL R6.out.blk R6.out.keep hty htn hyb hnb hv7
                rw [hv7]
                clear hv7 hty htn hyb hnb hyn hnn
                refine hK1.out _ _ F7.out.2.2.2.1 ?_
                clear hK1
                intro _
                try simp only [Act.put, List.setIfInBounds_toArray, List.set_cons_zero, List.set_cons_succ]
                refine wpAnyH_take (i := 10) (oi := ⟨some 50, Op.fieldAddr 43 (.tmp 2) 6, 0, "law.go:123", #[⟨0, .phase⟩, ⟨1, .phase⟩, ⟨2, .phase⟩, ⟨3, .phase⟩, ⟨4, .phase⟩, ⟨5, .phase⟩, ⟨6, .phase⟩, ⟨7, .phase⟩, ⟨8, .phase⟩, ⟨9, .phase⟩], none⟩) (v := .pointer (some ⟨g, 37, none⟩)) rfl (by kernel_rfl) (by kernel_rfl) (by kernel_rfl) (fun _ _ _ h => h.elim) (Or.inl ⟨by rfl, ?y20⟩) F7.out.2.2.2.1 ?_
                case y20 =>
                  intro V hV
                  go_simp
                simp only [Act.put, List.setIfInBounds_toArray, List.set_cons_zero, List.set_cons_succ]
                refine wpAnyH_ready (rs := [11]) (by kernel_rfl) (by simp) (AllReadyH.cons (i := 11) (o := ⟨none, Op.store 40 (.tmp 50) (.tmp 48), 0, "law.go:123", #[⟨10, .data⟩, ⟨7, .data⟩, ⟨9, .chain⟩, ⟨0, .phase⟩, ⟨1, .phase⟩, ⟨2, .phase⟩, ⟨3, .phase⟩, ⟨4, .phase⟩, ⟨5, .phase⟩, ⟨6, .phase⟩, ⟨7, .phase⟩, ⟨8, .phase⟩, ⟨9, .phase⟩], none⟩) rfl ?_ AllReadyH.nil)
                · intro K1 hK1
                  refine step_st (by rfl) 40 (.tmp 50) (.tmp 48) rfl g 37 (.slice sn.a sn.n sn.c) 43 _ rfl rfl F7.out.1 (by rw [Pp.length (p := { p with y := sy }) HL.out.2]; omega) (by kernel_rfl) rfl rfl ?_
                  obtain ⟨V8, hv8⟩ : ∃ V, V7.setCell ⟨g, 37, none⟩ (.slice sn.a sn.n sn.c) = V := ⟨_, rfl⟩
                  have F8 : Hid (Copied A g p yes no sy sn V8) := copied_of HL F7.out hv8
                  rw [hv8]
                  clear hv8
                  refine hK1.out _ _ F8.out.2.2.2 ?_
                  clear hK1
                  intro _
                  try simp only [Act.put, List.setIfInBounds_toArray, List.set_cons_zero, List.set_cons_succ]
                  refine wpAnyH_done (by kernel_rfl) ?_ _
                  exact hQ V8 _ _ sy sn F8.out
    · intro K1 hK1
      rw [if_pos (by rfl)]
      have hc : V1.cell? ⟨g, 37, none⟩ = some (.slice p.n.a p.n.n p.n.c) := R1.out.blk.cell (Pp.tail HL.out.2 2)
      go_wp2
      clear hc
      refine hK1.out _ _ R1.out.keep ?_
      clear hK1
      intro _
      try simp only [Act.put, List.setIfInBounds_toArray, List.set_cons_zero, List.set_cons_succ]
      refine wpAnyH_ready (rs := [2, 4]) (by kernel_rfl) (by simp) (AllReadyH.cons (i := 2) (o := ⟨some 43, Op.load 40 (.tmp 42), 40, "law.go:123", #[⟨1, .data⟩], none⟩) rfl ?_ (AllReadyH.cons (i := 4) (o := ⟨some 45, Op.buildSlice 40 0 #[], 40, "law.go:123", #[], none⟩) rfl ?_ AllReadyH.nil))
      · intro K1 hK1
        rw [if_pos (by rfl)]
        have hc : V1.cell? ⟨g, 36, none⟩ = some (.slice p.y.a p.y.n p.y.c) := R1.out.blk.cell (Pp.tail HL.out.2 1)
        go_wp2
        clear hc
        refine hK1.out _ _ R1.out.keep ?_
        clear hK1
        intro _
        try simp only [Act.put, List.setIfInBounds_toArray, List.set_cons_zero, List.set_cons_succ]
        refine wpAnyH_ready (rs := [3, 4]) (by kernel_rfl) (by simp) (AllReadyH.cons (i := 3) (o := ⟨some 44, Op.call { callee := Callee.builtin Builtin.append, args := #[Operand.tmp 41, Operand.tmp 43], argTypes := #[40, 40] }, 40, "law.go:123", #[⟨0, .data⟩, ⟨2, .data⟩], none⟩) rfl ?_ (AllReadyH.cons (i := 4) (o := ⟨some 45, Op.buildSlice 40 0 #[], 40, "law.go:123", #[], none⟩) rfl ?_ AllReadyH.nil))
        · intro K1 hK1
          obtain ⟨v4, V4, hr4, hR4⟩ := R1.out.app (s := p.y) (l := yes) (strs_keep HY.out.1 R1.out.keep HNE.out.1) HY.out.2.1 HL.out.1 40
          refine step_run (by rfl) (.tmp 41) (.tmp 43) rfl _ p.y rfl rfl hr4 ?_
          have R4 : Hid (R13 A g p V4 (some (v4, yes)) none) := hR4
          clear hr4 hR4
          refine hK1.out _ _ R4.out.keep ?_
          clear hK1
          intro _
          try simp only [Act.put, List.setIfInBounds_toArray, List.set_cons_zero, List.set_cons_succ]
          refine wpAnyH_take (i := 8) (oi := ⟨some 49, Op.fieldAddr 43 (.tmp 2) 5, 0, "law.go:123", #[⟨0, .phase⟩, ⟨1, .phase⟩, ⟨2, .phase⟩, ⟨3, .phase⟩, { on := 4, ground := Ground.textOnly Departure.lateStores }, ⟨5, .phase⟩, ⟨6, .phase⟩, { on := 7, ground := Ground.textOnly Departure.lateStoresUnsure }], none⟩) (v := .pointer (some ⟨g, 36, none⟩)) rfl (by kernel_rfl) (by kernel_rfl) (by kernel_rfl) (fun _ _ _ h => h.elim) (Or.inl ⟨by rfl, ?y21⟩) R4.out.keep ?_
          case y21 =>
            intro V hV
            go_simp
          simp only [Act.put, List.setIfInBounds_toArray, List.set_cons_zero, List.set_cons_succ]
          refine wpAnyH_ready (rs := [4]) (by kernel_rfl) (by simp) (AllReadyH.cons (i := 4) (o := ⟨some 45, Op.buildSlice 40 0 #[], 40, "law.go:123", #[], none⟩) rfl ?_ AllReadyH.nil)
          · intro K1 hK1
            refine step_bs0 (by rfl) rfl ?_
            obtain ⟨V5, hv5⟩ : ∃ V, V4.alloc (.cells #[] 9) = V := ⟨_, rfl⟩
            obtain ⟨q5, hq5⟩ : ∃ m, V4.heap.size = m := ⟨_, rfl⟩
            have R5 : Hid (R13 A g p V5 (some (v4, yes)) (some (.slice (some ⟨q5, 0, none⟩) 0 0, []))) := by rw [← hv5, ← hq5]; exact R4.out.swap.bs.swap
            rw [hv5, hq5]
            clear hv5 hq5
            refine hK1.out _ _ R5.out.keep ?_
            clear hK1
            intro _
            try simp only [Act.put, List.setIfInBounds_toArray, List.set_cons_zero, List.set_cons_succ]
            refine wpAnyH_ready (rs := [7]) (by kernel_rfl) (by simp) (AllReadyH.cons (i := 7) (o := ⟨some 48, Op.call { callee := Callee.builtin Builtin.append, args := #[Operand.tmp 45, Operand.tmp 47], argTypes := #[40, 40] }, 40, "law.go:123", #[⟨4, .data⟩, ⟨6, .data⟩, ⟨3, .chain⟩], none⟩) rfl ?_ AllReadyH.nil)
            · intro K1 hK1
              obtain ⟨v6, V6, hr6, hR6⟩ := R5.out.swap.app (s := p.n) (l := no) (strs_keep HN.out.1 R5.out.keep HNE.out.2) HN.out.2.1 HL.out.1 40
              refine step_run (by rfl) (.tmp 45) (.tmp 47) rfl _ p.n rfl rfl hr6 ?_
              have R6 : Hid (R13 A g p V6 (some (v4, yes)) (some (v6, no))) := hR6.swap
              clear hr6 hR6
              refine hK1.out _ _ R6.out.keep ?_
              clear hK1
              intro _
              try simp only [Act.put, List.setIfInBounds_toArray, List.set_cons_zero, List.set_cons_succ]
              refine wpAnyH_ready (rs := [9]) (by kernel_rfl) (by simp) (AllReadyH.cons (i := 9) (o := ⟨none, Op.store 40 (.tmp 49) (.tmp 44), 0, "law.go:123", #[⟨8, .data⟩, ⟨3, .data⟩, ⟨7, .chain⟩, ⟨0, .phase⟩, ⟨1, .phase⟩, ⟨2, .phase⟩, ⟨3, .phase⟩, { on := 4, ground := Ground.textOnly Departure.lateStores }, ⟨5, .phase⟩, ⟨6, .phase⟩, { on := 7, ground := Ground.textOnly Departure.lateStoresUnsure }], none⟩) rfl ?_ AllReadyH.nil)
              · intro K1 hK1
                obtain ⟨sy, hsy, hty, hyn, hyb⟩ := own_txt R6.out.fst.1 HY.out.2.2.1 (by have := HY.out.2.1; omega)
                obtain ⟨sn, hsn, htn, hnn, hnb⟩ := own_txt R6.out.snd.1 HN.out.2.2.1 (by have := HN.out.2.1; omega)
                subst hsy
                subst hsn
                refine step_st (by rfl) 40 (.tmp 49) (.tmp 44) rfl g 36 (.slice sy.a sy.n sy.c) 43 _ rfl rfl R6.out.blk (by rw [Pp.length HL.out.2]; omega) (by kernel_rfl) rfl rfl ?_
                obtain ⟨V7, hv7⟩ : ∃ V, V6.setCell ⟨g, 36, none⟩ (.slice sy.a sy.n sy.c) = V := ⟨_, rfl⟩
                have F7 : Hid (Half A g p yes no sy sn V7) := half_of HL R6.out.blk R6.out.keep hty htn hyb hnb hv7
                rw [hv7]
                clear hv7 hty htn hyb hnb hyn hnn
                refine hK1.out _ _ F7.out.2.2.2.1 ?_
                clear hK1
                intro _
                try simp only [Act.put, List.setIfInBounds_toArray, List.set_cons_zero, List.set_cons_succ]
                refine wpAnyH_take (i := 10) (oi := ⟨some 50, Op.fieldAddr 43 (.tmp 2) 6, 0, "law.go:123", #[⟨0, .phase⟩, ⟨1, .phase⟩, ⟨2, .phase⟩, ⟨3, .phase⟩, ⟨4, .phase⟩, ⟨5, .phase⟩, ⟨6, .phase⟩, ⟨7, .phase⟩, ⟨8, .phase⟩, ⟨9, .phase⟩], none⟩) (v := .pointer (some ⟨g, 37, none⟩)) rfl (by kernel_rfl) (by kernel_rfl) (by kernel_rfl) (fun _ _ _ h => h.elim) (Or.inl ⟨by rfl, ?y22⟩) F7.out.2.2.2.1 ?_
                case y22 =>
                  intro V hV
                  go_simp
                simp only [Act.put, List.setIfInBounds_toArray, List.set_cons_zero, List.set_cons_succ]
                refine wpAnyH_ready (rs := [11]) (by kernel_rfl) (by simp) (AllReadyH.cons (i := 11) (o := ⟨none, Op.store 40 (.tmp 50) (.tmp 48), 0, "law.go:123", #[⟨10, .data⟩, ⟨7, .data⟩, ⟨9, .chain⟩, ⟨0, .phase⟩, ⟨1, .phase⟩, ⟨2, .phase⟩, ⟨3, .phase⟩, ⟨4, .phase⟩, ⟨5, .phase⟩, ⟨6, .phase⟩, ⟨7, .phase⟩, ⟨8, .phase⟩, ⟨9, .phase⟩], none⟩) rfl ?_ AllReadyH.nil)
                · intro K1 hK1
                  refine step_st (by rfl) 40 (.tmp 50) (.tmp 48) rfl g 37 (.slice sn.a sn.n sn.c) 43 _ rfl rfl F7.out.1 (by rw [Pp.length (p := { p with y := sy }) HL.out.2]; omega) (by kernel_rfl) rfl rfl ?_
                  obtain ⟨V8, hv8⟩ : ∃ V, V7.setCell ⟨g, 37, none⟩ (.slice sn.a sn.n sn.c) = V := ⟨_, rfl⟩
                  have F8 : Hid (Copied A g p yes no sy sn V8) := copied_of HL F7.out hv8
                  rw [hv8]
                  clear hv8
                  refine hK1.out _ _ F8.out.2.2.2 ?_
                  clear hK1
                  intro _
                  try simp only [Act.put, List.setIfInBounds_toArray, List.set_cons_zero, List.set_cons_succ]
                  refine wpAnyH_done (by kernel_rfl) ?_ _
                  exact hQ V8 _ _ sy sn F8.out
        · intro K1 hK1
          refine step_bs0 (by rfl) rfl ?_
          obtain ⟨V4, hv4⟩ : ∃ V, V1.alloc (.cells #[] 9) = V := ⟨_, rfl⟩
          obtain ⟨q4, hq4⟩ : ∃ m, V1.heap.size = m := ⟨_, rfl⟩
          have R4 : Hid (R13 A g p V4 (some (.slice (some ⟨q1, 0, none⟩) 0 0, [])) (some (.slice (some ⟨q4, 0, none⟩) 0 0, []))) := by rw [← hv4, ← hq4]; exact R1.out.swap.bs.swap
          rw [hv4, hq4]
          clear hv4 hq4
          refine hK1.out _ _ R4.out.keep ?_
          clear hK1
          intro _
          try simp only [Act.put, List.setIfInBounds_toArray, List.set_cons_zero, List.set_cons_succ]
          refine wpAnyH_ready (rs := [3]) (by kernel_rfl) (by simp) (AllReadyH.cons (i := 3) (o := ⟨some 44, Op.call { callee := Callee.builtin Builtin.append, args := #[Operand.tmp 41, Operand.tmp 43], argTypes := #[40, 40] }, 40, "law.go:123", #[⟨0, .data⟩, ⟨2, .data⟩], none⟩) rfl ?_ AllReadyH.nil)
          · intro K1 hK1
            obtain ⟨v5, V5, hr5, hR5⟩ := R4.out.app (s := p.y) (l := yes) (strs_keep HY.out.1 R4.out.keep HNE.out.1) HY.out.2.1 HL.out.1 40
            refine step_run (by rfl) (.tmp 41) (.tmp 43) rfl _ p.y rfl rfl hr5 ?_
            have R5 : Hid (R13 A g p V5 (some (v5, yes)) (some (.slice (some ⟨q4, 0, none⟩) 0 0, []))) := hR5
            clear hr5 hR5
            refine hK1.out _ _ R5.out.keep ?_
            clear hK1
            intro _
            try simp only [Act.put, List.setIfInBounds_toArray, List.set_cons_zero, List.set_cons_succ]
            refine wpAnyH_take (i := 8) (oi := ⟨some 49, Op.fieldAddr 43 (.tmp 2) 5, 0, "law.go:123", #[⟨0, .phase⟩, ⟨1, .phase⟩, ⟨2, .phase⟩, ⟨3, .phase⟩, { on := 4, ground := Ground.textOnly Departure.lateStores }, ⟨5, .phase⟩, ⟨6, .phase⟩, { on := 7, ground := Ground.textOnly Departure.lateStoresUnsure }], none⟩) (v := .pointer (some ⟨g, 36, none⟩)) rfl (by kernel_rfl) (by kernel_rfl) (by kernel_rfl) (fun _ _ _ h => h.elim) (Or.inl ⟨by rfl, ?y23⟩) R5.out.keep ?_
            case y23 =>
              intro V hV
              go_simp
            simp only [Act.put, List.setIfInBounds_toArray, List.set_cons_zero, List.set_cons_succ]
            refine wpAnyH_ready (rs := [7]) (by kernel_rfl) (by simp) (AllReadyH.cons (i := 7) (o := ⟨some 48, Op.call { callee := Callee.builtin Builtin.append, args := #[Operand.tmp 45, Operand.tmp 47], argTypes := #[40, 40] }, 40, "law.go:123", #[⟨4, .data⟩, ⟨6, .data⟩, ⟨3, .chain⟩], none⟩) rfl ?_ AllReadyH.nil)
            · intro K1 hK1
              obtain ⟨v6, V6, hr6, hR6⟩ := R5.out.swap.app (s := p.n) (l := no) (strs_keep HN.out.1 R5.out.keep HNE.out.2) HN.out.2.1 HL.out.1 40
              refine step_run (by rfl) (.tmp 45) (.tmp 47) rfl _ p.n rfl rfl hr6 ?_
              have R6 : Hid (R13 A g p V6 (some (v5, yes)) (some (v6, no))) := hR6.swap
              clear hr6 hR6
              refine hK1.out _ _ R6.out.keep ?_
              clear hK1
              intro _
              try simp only [Act.put, List.setIfInBounds_toArray, List.set_cons_zero, List.set_cons_succ]
              refine wpAnyH_ready (rs := [9]) (by kernel_rfl) (by simp) (AllReadyH.cons (i := 9) (o := ⟨none, Op.store 40 (.tmp 49) (.tmp 44), 0, "law.go:123", #[⟨8, .data⟩, ⟨3, .data⟩, ⟨7, .chain⟩, ⟨0, .phase⟩, ⟨1, .phase⟩, ⟨2, .phase⟩, ⟨3, .phase⟩, { on := 4, ground := Ground.textOnly Departure.lateStores }, ⟨5, .phase⟩, ⟨6, .phase⟩, { on := 7, ground := Ground.textOnly Departure.lateStoresUnsure }], none⟩) rfl ?_ AllReadyH.nil)
              · intro K1 hK1
                obtain ⟨sy, hsy, hty, hyn, hyb⟩ := own_txt R6.out.fst.1 HY.out.2.2.1 (by have := HY.out.2.1; omega)
                obtain ⟨sn, hsn, htn, hnn, hnb⟩ := own_txt R6.out.snd.1 HN.out.2.2.1 (by have := HN.out.2.1; omega)
                subst hsy
                subst hsn
                refine step_st (by rfl) 40 (.tmp 49) (.tmp 44) rfl g 36 (.slice sy.a sy.n sy.c) 43 _ rfl rfl R6.out.blk (by rw [Pp.length HL.out.2]; omega) (by kernel_rfl) rfl rfl ?_
                obtain ⟨V7, hv7⟩ : ∃ V, V6.setCell ⟨g, 36, none⟩ (.slice sy.a sy.n sy.c) = V := ⟨_, rfl⟩
                have F7 : Hid (Half A g p yes no sy sn V7) := half_of HL R6.out.blk R6.out.keep hty htn hyb hnb hv7
                rw [hv7]
                clear hv7 hty htn hyb hnb hyn hnn
                refine hK1.out _ _ F7.out.2.2.2.1 ?_
                clear hK1
                intro _
                try simp only [Act.put, List.setIfInBounds_toArray, List.set_cons_zero, List.set_cons_succ]
                refine wpAnyH_take (i := 10) (oi := ⟨some 50, Op.fieldAddr 43 (.tmp 2) 6, 0, "law.go:123", #[⟨0, .phase⟩, ⟨1, .phase⟩, ⟨2, .phase⟩, ⟨3, .phase⟩, ⟨4, .phase⟩, ⟨5, .phase⟩, ⟨6, .phase⟩, ⟨7, .phase⟩, ⟨8, .phase⟩, ⟨9, .phase⟩], none⟩) (v := .pointer (some ⟨g, 37, none⟩)) rfl (by kernel_rfl) (by kernel_rfl) (by kernel_rfl) (fun _ _ _ h => h.elim) (Or.inl ⟨by rfl, ?y24⟩) F7.out.2.2.2.1 ?_
                case y24 =>
                  intro V hV
                  go_simp
                simp only [Act.put, List.setIfInBounds_toArray, List.set_cons_zero, List.set_cons_succ]
                refine wpAnyH_ready (rs := [11]) (by kernel_rfl) (by simp) (AllReadyH.cons (i := 11) (o := ⟨none, Op.store 40 (.tmp 50) (.tmp 48), 0, "law.go:123", #[⟨10, .data⟩, ⟨7, .data⟩, ⟨9, .chain⟩, ⟨0, .phase⟩, ⟨1, .phase⟩, ⟨2, .phase⟩, ⟨3, .phase⟩, ⟨4, .phase⟩, ⟨5, .phase⟩, ⟨6, .phase⟩, ⟨7, .phase⟩, ⟨8, .phase⟩, ⟨9, .phase⟩], none⟩) rfl ?_ AllReadyH.nil)
                · intro K1 hK1
                  refine step_st (by rfl) 40 (.tmp 50) (.tmp 48) rfl g 37 (.slice sn.a sn.n sn.c) 43 _ rfl rfl F7.out.1 (by rw [Pp.length (p := { p with y := sy }) HL.out.2]; omega) (by kernel_rfl) rfl rfl ?_
                  obtain ⟨V8, hv8⟩ : ∃ V, V7.setCell ⟨g, 37, none⟩ (.slice sn.a sn.n sn.c) = V := ⟨_, rfl⟩
                  have F8 : Hid (Copied A g p yes no sy sn V8) := copied_of HL F7.out hv8
                  rw [hv8]
                  clear hv8
                  refine hK1.out _ _ F8.out.2.2.2 ?_
                  clear hK1
                  intro _
                  try simp only [Act.put, List.setIfInBounds_toArray, List.set_cons_zero, List.set_cons_succ]
                  refine wpAnyH_done (by kernel_rfl) ?_ _
                  exact hQ V8 _ _ sy sn F8.out
      · intro K1 hK1
        refine step_bs0 (by rfl) rfl ?_
        obtain ⟨V3, hv3⟩ : ∃ V, V1.alloc (.cells #[] 9) = V := ⟨_, rfl⟩
        obtain ⟨q3, hq3⟩ : ∃ m, V1.heap.size = m := ⟨_, rfl⟩
        have R3 : Hid (R13 A g p V3 (some (.slice (some ⟨q1, 0, none⟩) 0 0, [])) (some (.slice (some ⟨q3, 0, none⟩) 0 0, []))) := by rw [← hv3, ← hq3]; exact R1.out.swap.bs.swap
        rw [hv3, hq3]
        clear hv3 hq3
        refine hK1.out _ _ R3.out.keep ?_
        clear hK1
        intro _
        try simp only [Act.put, List.setIfInBounds_toArray, List.set_cons_zero, List.set_cons_succ]
        refine wpAnyH_ready (rs := [2]) (by kernel_rfl) (by simp) (AllReadyH.cons (i := 2) (o := ⟨some 43, Op.load 40 (.tmp 42), 40, "law.go:123", #[⟨1, .data⟩], none⟩) rfl ?_ AllReadyH.nil)
        · intro K1 hK1
          rw [if_pos (by rfl)]
          have hc : V3.cell? ⟨g, 36, none⟩ = some (.slice p.y.a p.y.n p.y.c) := R3.out.blk.cell (Pp.tail HL.out.2 1)
          go_wp2
          clear hc
          refine hK1.out _ _ R3.out.keep ?_
          clear hK1
          intro _
          try simp only [Act.put, List.setIfInBounds_toArray, List.set_cons_zero, List.set_cons_succ]
          refine wpAnyH_ready (rs := [3]) (by kernel_rfl) (by simp) (AllReadyH.cons (i := 3) (o := ⟨some 44, Op.call { callee := Callee.builtin Builtin.append, args := #[Operand.tmp 41, Operand.tmp 43], argTypes := #[40, 40] }, 40, "law.go:123", #[⟨0, .data⟩, ⟨2, .data⟩], none⟩) rfl ?_ AllReadyH.nil)
          · intro K1 hK1
            obtain ⟨v5, V5, hr5, hR5⟩ := R3.out.app (s := p.y) (l := yes) (strs_keep HY.out.1 R3.out.keep HNE.out.1) HY.out.2.1 HL.out.1 40
            refine step_run (by rfl) (.tmp 41) (.tmp 43) rfl _ p.y rfl rfl hr5 ?_
            have R5 : Hid (R13 A g p V5 (some (v5, yes)) (some (.slice (some ⟨q3, 0, none⟩) 0 0, []))) := hR5
            clear hr5 hR5
            refine hK1.out _ _ R5.out.keep ?_
            clear hK1
            intro _
            try simp only [Act.put, List.setIfInBounds_toArray, List.set_cons_zero, List.set_cons_succ]
            refine wpAnyH_take (i := 8) (oi := ⟨some 49, Op.fieldAddr 43 (.tmp 2) 5, 0, "law.go:123", #[⟨0, .phase⟩, ⟨1, .phase⟩, ⟨2, .phase⟩, ⟨3, .phase⟩, { on := 4, ground := Ground.textOnly Departure.lateStores }, ⟨5, .phase⟩, ⟨6, .phase⟩, { on := 7, ground := Ground.textOnly Departure.lateStoresUnsure }], none⟩) (v := .pointer (some ⟨g, 36, none⟩)) rfl (by kernel_rfl) (by kernel_rfl) (by kernel_rfl) (fun _ _ _ h => h.elim) (Or.inl ⟨by rfl, ?y25⟩) R5.out.keep ?_
            case y25 =>
              intro V hV
              go_simp
            simp only [Act.put, List.setIfInBounds_toArray, List.set_cons_zero, List.set_cons_succ]
            refine wpAnyH_ready (rs := [7]) (by kernel_rfl) (by simp) (AllReadyH.cons (i := 7) (o := ⟨some 48, Op.call { callee := Callee.builtin Builtin.append, args := #[Operand.tmp 45, Operand.tmp 47], argTypes := #[40, 40] }, 40, "law.go:123", #[⟨4, .data⟩, ⟨6, .data⟩, ⟨3, .chain⟩], none⟩) rfl ?_ AllReadyH.nil)
            · intro K1 hK1
              obtain ⟨v6, V6, hr6, hR6⟩ := R5.out.swap.app (s := p.n) (l := no) (strs_keep HN.out.1 R5.out.keep HNE.out.2) HN.out.2.1 HL.out.1 40
              refine step_run (by rfl) (.tmp 45) (.tmp 47) rfl _ p.n rfl rfl hr6 ?_
              have R6 : Hid (R13 A g p V6 (some (v5, yes)) (some (v6, no))) := hR6.swap
              clear hr6 hR6
              refine hK1.out _ _ R6.out.keep ?_
              clear hK1
              intro _
              try simp only [Act.put, List.setIfInBounds_toArray, List.set_cons_zero, List.set_cons_succ]
              refine wpAnyH_ready (rs := [9]) (by kernel_rfl) (by simp) (AllReadyH.cons (i := 9) (o := ⟨none, Op.store 40 (.tmp 49) (.tmp 44), 0, "law.go:123", #[⟨8, .data⟩, ⟨3, .data⟩, ⟨7, .chain⟩, ⟨0, .phase⟩, ⟨1, .phase⟩, ⟨2, .phase⟩, ⟨3, .phase⟩, { on := 4, ground := Ground.textOnly Departure.lateStores }, ⟨5, .phase⟩, ⟨6, .phase⟩, { on := 7, ground := Ground.textOnly Departure.lateStoresUnsure }], none⟩) rfl ?_ AllReadyH.nil)
              · intro K1 hK1
                obtain ⟨sy, hsy, hty, hyn, hyb⟩ := own_txt R6.out.fst.1 HY.out.2.2.1 (by have := HY.out.2.1; omega)
                obtain ⟨sn, hsn, htn, hnn, hnb⟩ := own_txt R6.out.snd.1 HN.out.2.2.1 (by have := HN.out.2.1; omega)
                subst hsy
                subst hsn
                refine step_st (by rfl) 40 (.tmp 49) (.tmp 44) rfl g 36 (.slice sy.a sy.n sy.c) 43 _ rfl rfl R6.out.blk (by rw [Pp.length HL.out.2]; omega) (by kernel_rfl) rfl rfl ?_
                obtain ⟨V7, hv7⟩ : ∃ V, V6.setCell ⟨g, 36, none⟩ (.slice sy.a sy.n sy.c) = V := ⟨_, rfl⟩
                have F7 : Hid (Half A g p yes no sy sn V7) := half_of HL R6.out.blk R6.out.keep hty htn hyb hnb hv7
                rw [hv7]
                clear hv7 hty htn hyb hnb hyn hnn
                refine hK1.out _ _ F7.out.2.2.2.1 ?_
                clear hK1
                intro _
                try simp only [Act.put, List.setIfInBounds_toArray, List.set_cons_zero, List.set_cons_succ]
                refine wpAnyH_take (i := 10) (oi := ⟨some 50, Op.fieldAddr 43 (.tmp 2) 6, 0, "law.go:123", #[⟨0, .phase⟩, ⟨1, .phase⟩, ⟨2, .phase⟩, ⟨3, .phase⟩, ⟨4, .phase⟩, ⟨5, .phase⟩, ⟨6, .phase⟩, ⟨7, .phase⟩, ⟨8, .phase⟩, ⟨9, .phase⟩], none⟩) (v := .pointer (some ⟨g, 37, none⟩)) rfl (by kernel_rfl) (by kernel_rfl) (by kernel_rfl) (fun _ _ _ h => h.elim) (Or.inl ⟨by rfl, ?y26⟩) F7.out.2.2.2.1 ?_
                case y26 =>
                  intro V hV
                  go_simp
                simp only [Act.put, List.setIfInBounds_toArray, List.set_cons_zero, List.set_cons_succ]
                refine wpAnyH_ready (rs := [11]) (by kernel_rfl) (by simp) (AllReadyH.cons (i := 11) (o := ⟨none, Op.store 40 (.tmp 50) (.tmp 48), 0, "law.go:123", #[⟨10, .data⟩, ⟨7, .data⟩, ⟨9, .chain⟩, ⟨0, .phase⟩, ⟨1, .phase⟩, ⟨2, .phase⟩, ⟨3, .phase⟩, ⟨4, .phase⟩, ⟨5, .phase⟩, ⟨6, .phase⟩, ⟨7, .phase⟩, ⟨8, .phase⟩, ⟨9, .phase⟩], none⟩) rfl ?_ AllReadyH.nil)
                · intro K1 hK1
                  refine step_st (by rfl) 40 (.tmp 50) (.tmp 48) rfl g 37 (.slice sn.a sn.n sn.c) 43 _ rfl rfl F7.out.1 (by rw [Pp.length (p := { p with y := sy }) HL.out.2]; omega) (by kernel_rfl) rfl rfl ?_
                  obtain ⟨V8, hv8⟩ : ∃ V, V7.setCell ⟨g, 37, none⟩ (.slice sn.a sn.n sn.c) = V := ⟨_, rfl⟩
                  have F8 : Hid (Copied A g p yes no sy sn V8) := copied_of HL F7.out hv8
                  rw [hv8]
                  clear hv8
                  refine hK1.out _ _ F8.out.2.2.2 ?_
                  clear hK1
                  intro _
                  try simp only [Act.put, List.setIfInBounds_toArray, List.set_cons_zero, List.set_cons_succ]
                  refine wpAnyH_done (by kernel_rfl) ?_ _
                  exact hQ V8 _ _ sy sn F8.out
  · intro K1 hK1
    rw [if_pos (by rfl)]
    have hc : V0.cell? ⟨g, 36, none⟩ = some (.slice p.y.a p.y.n p.y.c) := R0.out.blk.cell (Pp.tail HL.out.2 1)
    go_wp2
    clear hc
    refine hK1.out _ _ hS0.out ?_
    clear hK1
    intro _
    try simp only [Act.put, List.setIfInBounds_toArray, List.set_cons_zero, List.set_cons_succ]
    refine wpAnyH_ready (rs := [0, 4, 6]) (by kernel_rfl) (by simp) (AllReadyH.cons (i := 0) (o := ⟨some 41, Op.buildSlice 40 0 #[], 40, "law.go:123", #[], none⟩) rfl ?_ (AllReadyH.cons (i := 4) (o := ⟨some 45, Op.buildSlice 40 0 #[], 40, "law.go:123", #[], none⟩) rfl ?_ (AllReadyH.cons (i := 6) (o := ⟨some 47, Op.load 40 (.tmp 46), 40, "law.go:123", #[⟨5, .data⟩], none⟩) rfl ?_ AllReadyH.nil)))
    · intro K1 hK1
      refine step_bs0 (by rfl) rfl ?_
      obtain ⟨V2, hv2⟩ : ∃ V, V0.alloc (.cells #[] 9) = V := ⟨_, rfl⟩
      obtain ⟨q2, hq2⟩ : ∃ m, V0.heap.size = m := ⟨_, rfl⟩
      have R2 : Hid (R13 A g p V2 (some (.slice (some ⟨q2, 0, none⟩) 0 0, [])) none) := by rw [← hv2, ← hq2]; exact R0.out.bs
      rw [hv2, hq2]
      clear hv2 hq2
      refine hK1.out _ _ R2.out.keep ?_
      clear hK1
      intro _
      try simp only [Act.put, List.setIfInBounds_toArray, List.set_cons_zero, List.set_cons_succ]
      refine wpAnyH_ready (rs := [3, 4, 6]) (by kernel_rfl) (by simp) (AllReadyH.cons (i := 3) (o := ⟨some 44, Op.call { callee := Callee.builtin Builtin.append, args := #[Operand.tmp 41, Operand.tmp 43], argTypes := #[40, 40] }, 40, "law.go:123", #[⟨0, .data⟩, ⟨2, .data⟩], none⟩) rfl ?_ (AllReadyH.cons (i := 4) (o := ⟨some 45, Op.buildSlice 40 0 #[], 40, "law.go:123", #[], none⟩) rfl ?_ (AllReadyH.cons (i := 6) (o := ⟨some 47, Op.load 40 (.tmp 46), 40, "law.go:123", #[⟨5, .data⟩], none⟩) rfl ?_ AllReadyH.nil)))
      · intro K1 hK1
        obtain ⟨v3, V3, hr3, hR3⟩ := R2.out.app (s := p.y) (l := yes) (strs_keep HY.out.1 R2.out.keep HNE.out.1) HY.out.2.1 HL.out.1 40
        refine step_run (by rfl) (.tmp 41) (.tmp 43) rfl _ p.y rfl rfl hr3 ?_
        have R3 : Hid (R13 A g p V3 (some (v3, yes)) none) := hR3
        clear hr3 hR3
        refine hK1.out _ _ R3.out.keep ?_
        clear hK1
        intro _
        try simp only [Act.put, List.setIfInBounds_toArray, List.set_cons_zero, List.set_cons_succ]
        refine wpAnyH_ready (rs := [4, 6]) (by kernel_rfl) (by simp) (AllReadyH.cons (i := 4) (o := ⟨some 45, Op.buildSlice 40 0 #[], 40, "law.go:123", #[], none⟩) rfl ?_ (AllReadyH.cons (i := 6) (o := ⟨some 47, Op.load 40 (.tmp 46), 40, "law.go:123", #[⟨5, .data⟩], none⟩) rfl ?_ AllReadyH.nil))
        · intro K1 hK1
          refine step_bs0 (by rfl) rfl ?_
          obtain ⟨V4, hv4⟩ : ∃ V, V3.alloc (.cells #[] 9) = V := ⟨_, rfl⟩
          obtain ⟨q4, hq4⟩ : ∃ m, V3.heap.size = m := ⟨_, rfl⟩
          have R4 : Hid (R13 A g p V4 (some (v3, yes)) (some (.slice (some ⟨q4, 0, none⟩) 0 0, []))) := by rw [← hv4, ← hq4]; exact R3.out.swap.bs.swap
          rw [hv4, hq4]
          clear hv4 hq4
          refine hK1.out _ _ R4.out.keep ?_
          clear hK1
          intro _
          try simp only [Act.put, List.setIfInBounds_toArray, List.set_cons_zero, List.set_cons_succ]
          refine wpAnyH_ready (rs := [6]) (by kernel_rfl) (by simp) (AllReadyH.cons (i := 6) (o := ⟨some 47, Op.load 40 (.tmp 46), 40, "law.go:123", #[⟨5, .data⟩], none⟩) rfl ?_ AllReadyH.nil)
          · intro K1 hK1
            rw [if_pos (by rfl)]
            have hc : V4.cell? ⟨g, 37, none⟩ = some (.slice p.n.a p.n.n p.n.c) := R4.out.blk.cell (Pp.tail HL.out.2 2)
            go_wp2
            clear hc
            refine hK1.out _ _ R4.out.keep ?_
            clear hK1
            intro _
            try simp only [Act.put, List.setIfInBounds_toArray, List.set_cons_zero, List.set_cons_succ]
            refine wpAnyH_take (i := 8) (oi := ⟨some 49, Op.fieldAddr 43 (.tmp 2) 5, 0, "law.go:123", #[⟨0, .phase⟩, ⟨1, .phase⟩, ⟨2, .phase⟩, ⟨3, .phase⟩, { on := 4, ground := Ground.textOnly Departure.lateStores }, ⟨5, .phase⟩, ⟨6, .phase⟩, { on := 7, ground := Ground.textOnly Departure.lateStoresUnsure }], none⟩) (v := .pointer (some ⟨g, 36, none⟩)) rfl (by kernel_rfl) (by kernel_rfl) (by kernel_rfl) (fun _ _ _ h => h.elim) (Or.inl ⟨by rfl, ?y27⟩) R4.out.keep ?_
            case y27 =>
              intro V hV
              go_simp
            simp only [Act.put, List.setIfInBounds_toArray, List.set_cons_zero, List.set_cons_succ]
            refine wpAnyH_ready (rs := [7]) (by kernel_rfl) (by simp) (AllReadyH.cons (i := 7) (o := ⟨some 48, Op.call { callee := Callee.builtin Builtin.append, args := #[Operand.tmp 45, Operand.tmp 47], argTypes := #[40, 40] }, 40, "law.go:123", #[⟨4, .data⟩, ⟨6, .data⟩, ⟨3, .chain⟩], none⟩) rfl ?_ AllReadyH.nil)
            · intro K1 hK1
              obtain ⟨v6, V6, hr6, hR6⟩ := R4.out.swap.app (s := p.n) (l := no) (strs_keep HN.out.1 R4.out.keep HNE.out.2) HN.out.2.1 HL.out.1 40
              refine step_run (by rfl) (.tmp 45) (.tmp 47) rfl _ p.n rfl rfl hr6 ?_
              have R6 : Hid (R13 A g p V6 (some (v3, yes)) (some (v6, no))) := hR6.swap
              clear hr6 hR6
              refine hK1.out _ _ R6.out.keep ?_
              clear hK1
              intro _
              try simp only [Act.put, List.setIfInBounds_toArray, List.set_cons_zero, List.set_cons_succ]
              refine wpAnyH_ready (rs := [9]) (by kernel_rfl) (by simp) (AllReadyH.cons (i := 9) (o := ⟨none, Op.store 40 (.tmp 49) (.tmp 44), 0, "law.go:123", #[⟨8, .data⟩, ⟨3, .data⟩, ⟨7, .chain⟩, ⟨0, .phase⟩, ⟨1, .phase⟩, ⟨2, .phase⟩, ⟨3, .phase⟩, { on := 4, ground := Ground.textOnly Departure.lateStores }, ⟨5, .phase⟩, ⟨6, .phase⟩, { on := 7, ground := Ground.textOnly Departure.lateStoresUnsure }], none⟩) rfl ?_ AllReadyH.nil)
              · intro K1 hK1
                obtain ⟨sy, hsy, hty, hyn, hyb⟩ := own_txt R6.out.fst.1 HY.out.2.2.1 (by have := HY.out.2.1; omega)
                obtain ⟨sn, hsn, htn, hnn, hnb⟩ := own_txt R6.out.snd.1 HN.out.2.2.1 (by have := HN.out.2.1; omega)
                subst hsy
                subst hsn
                refine step_st (by rfl) 40 (.tmp 49) (.tmp 44) rfl g 36 (.slice sy.a sy.n sy.c) 43 _ rfl rfl R6.out.blk (by rw [Pp.length HL.out.2]; omega) (by kernel_rfl) rfl rfl ?_
                obtain ⟨V7, hv7⟩ : ∃ V, V6.setCell ⟨g, 36, none⟩ (.slice sy.a sy.n sy.c) = V := ⟨_, rfl⟩
                have F7 : Hid (Half A g p yes no sy sn V7) := half_of HL R6.out.blk R6.out.keep hty htn hyb hnb hv7
                rw [hv7]
                clear hv7 hty htn hyb hnb hyn hnn
                refine hK1.out _ _ F7.out.2.2.2.1 ?_
                clear hK1
                intro _
                try simp only [Act.put, List.setIfInBounds_toArray, List.set_cons_zero, List.set_cons_succ]
                refine wpAnyH_take (i := 10) (oi := ⟨some 50, Op.fieldAddr 43 (.tmp 2) 6, 0, "law.go:123", #[⟨0, .phase⟩, ⟨1, .phase⟩, ⟨2, .phase⟩, ⟨3, .phase⟩, ⟨4, .phase⟩, ⟨5, .phase⟩, ⟨6, .phase⟩, ⟨7, .phase⟩, ⟨8, .phase⟩, ⟨9, .phase⟩], none⟩) (v := .pointer (some ⟨g, 37, none⟩)) rfl (by kernel_rfl) (by kernel_rfl) (by kernel_rfl) (fun _ _ _ h => h.elim) (Or.inl ⟨by rfl, ?y28⟩) F7.out.2.2.2.1 ?_
                case y28 =>
                  intro V hV
                  go_simp
                simp only [Act.put, List.setIfInBounds_toArray, List.set_cons_zero, List.set_cons_succ]
                refine wpAnyH_ready (rs := [11]) (by kernel_rfl) (by simp) (AllReadyH.cons (i := 11) (o := ⟨none, Op.store 40 (.tmp 50) (.tmp 48), 0, "law.go:123", #[⟨10, .data⟩, ⟨7, .data⟩, ⟨9, .chain⟩, ⟨0, .phase⟩, ⟨1, .phase⟩, ⟨2, .phase⟩, ⟨3, .phase⟩, ⟨4, .phase⟩, ⟨5, .phase⟩, ⟨6, .phase⟩, ⟨7, .phase⟩, ⟨8, .phase⟩, ⟨9, .phase⟩], none⟩) rfl ?_ AllReadyH.nil)
                · intro K1 hK1
                  refine step_st (by rfl) 40 (.tmp 50) (.tmp 48) rfl g 37 (.slice sn.a sn.n sn.c) 43 _ rfl rfl F7.out.1 (by rw [Pp.length (p := { p with y := sy }) HL.out.2]; omega) (by kernel_rfl) rfl rfl ?_
                  obtain ⟨V8, hv8⟩ : ∃ V, V7.setCell ⟨g, 37, none⟩ (.slice sn.a sn.n sn.c) = V := ⟨_, rfl⟩
                  have F8 : Hid (Copied A g p yes no sy sn V8) := copied_of HL F7.out hv8
                  rw [hv8]
                  clear hv8
                  refine hK1.out _ _ F8.out.2.2.2 ?_
                  clear hK1
                  intro _
                  try simp only [Act.put, List.setIfInBounds_toArray, List.set_cons_zero, List.set_cons_succ]
                  refine wpAnyH_done (by kernel_rfl) ?_ _
                  exact hQ V8 _ _ sy sn F8.out
        · intro K1 hK1
          rw [if_pos (by rfl)]
          have hc : V3.cell? ⟨g, 37, none⟩ = some (.slice p.n.a p.n.n p.n.c) := R3.out.blk.cell (Pp.tail HL.out.2 2)
          go_wp2
          clear hc
          refine hK1.out _ _ R3.out.keep ?_
          clear hK1
          intro _
          try simp only [Act.put, List.setIfInBounds_toArray, List.set_cons_zero, List.set_cons_succ]
          refine wpAnyH_take (i := 8) (oi := ⟨some 49, Op.fieldAddr 43 (.tmp 2) 5, 0, "law.go:123", #[⟨0, .phase⟩, ⟨1, .phase⟩, ⟨2, .phase⟩, ⟨3, .phase⟩, { on := 4, ground := Ground.textOnly Departure.lateStores }, ⟨5, .phase⟩, ⟨6, .phase⟩, { on := 7, ground := Ground.textOnly Departure.lateStoresUnsure }], none⟩) (v := .pointer (some ⟨g, 36, none⟩)) rfl (by kernel_rfl) (by kernel_rfl) (by kernel_rfl) (fun _ _ _ h => h.elim) (Or.inl ⟨by rfl, ?y29⟩) R3.out.keep ?_
          case y29 =>
            intro V hV
            go_simp
          simp only [Act.put, List.setIfInBounds_toArray, List.set_cons_zero, List.set_cons_succ]
          refine wpAnyH_ready (rs := [4]) (by kernel_rfl) (by simp) (AllReadyH.cons (i := 4) (o := ⟨some 45, Op.buildSlice 40 0 #[], 40, "law.go:123", #[], none⟩) rfl ?_ AllReadyH.nil)
          · intro K1 hK1
            refine step_bs0 (by rfl) rfl ?_
            obtain ⟨V5, hv5⟩ : ∃ V, V3.alloc (.cells #[] 9) = V := ⟨_, rfl⟩
            obtain ⟨q5, hq5⟩ : ∃ m, V3.heap.size = m := ⟨_, rfl⟩
            have R5 : Hid (R13 A g p V5 (some (v3, yes)) (some (.slice (some ⟨q5, 0, none⟩) 0 0, []))) := by rw [← hv5, ← hq5]; exact R3.out.swap.bs.swap
            rw [hv5, hq5]
            clear hv5 hq5
            refine hK1.out _ _ R5.out.keep ?_
            clear hK1
            intro _
            try simp only [Act.put, List.setIfInBounds_toArray, List.set_cons_zero, List.set_cons_succ]
            refine wpAnyH_ready (rs := [7]) (by kernel_rfl) (by simp) (AllReadyH.cons (i := 7) (o := ⟨some 48, Op.call { callee := Callee.builtin Builtin.append, args := #[Operand.tmp 45, Operand.tmp 47], argTypes := #[40, 40] }, 40, "law.go:123", #[⟨4, .data⟩, ⟨6, .data⟩, ⟨3, .chain⟩], none⟩) rfl ?_ AllReadyH.nil)
            · intro K1 hK1
              obtain ⟨v6, V6, hr6, hR6⟩ := R5.out.swap.app (s := p.n) (l := no) (strs_keep HN.out.1 R5.out.keep HNE.out.2) HN.out.2.1 HL.out.1 40
              refine step_run (by rfl) (.tmp 45) (.tmp 47) rfl _ p.n rfl rfl hr6 ?_
              have R6 : Hid (R13 A g p V6 (some (v3, yes)) (some (v6, no))) := hR6.swap
              clear hr6 hR6
              refine hK1.out _ _ R6.out.keep ?_
              clear hK1
              intro _
              try simp only [Act.put, List.setIfInBounds_toArray, List.set_cons_zero, List.set_cons_succ]
              refine wpAnyH_ready (rs := [9]) (by kernel_rfl) (by simp) (AllReadyH.cons (i := 9) (o := ⟨none, Op.store 40 (.tmp 49) (.tmp 44), 0, "law.go:123", #[⟨8, .data⟩, ⟨3, .data⟩, ⟨7, .chain⟩, ⟨0, .phase⟩, ⟨1, .phase⟩, ⟨2, .phase⟩, ⟨3, .phase⟩, { on := 4, ground := Ground.textOnly Departure.lateStores }, ⟨5, .phase⟩, ⟨6, .phase⟩, { on := 7, ground := Ground.textOnly Departure.lateStoresUnsure }], none⟩) rfl ?_ AllReadyH.nil)
              · intro K1 hK1
                obtain ⟨sy, hsy, hty, hyn, hyb⟩ := own_txt R6.out.fst.1 HY.out.2.2.1 (by have := HY.out.2.1; omega)
                obtain ⟨sn, hsn, htn, hnn, hnb⟩ := own_txt R6.out.snd.1 HN.out.2.2.1 (by have := HN.out.2.1; omega)
                subst hsy
                subst hsn
                refine step_st (by rfl) 40 (.tmp 49) (.tmp 44) rfl g 36 (.slice sy.a sy.n sy.c) 43 _ rfl rfl R6.out.blk (by rw [Pp.length HL.out.2]; omega) (by kernel_rfl) rfl rfl ?_
                obtain ⟨V7, hv7⟩ : ∃ V, V6.setCell ⟨g, 36, none⟩ (.slice sy.a sy.n sy.c) = V := ⟨_, rfl⟩
                have F7 : Hid (Half A g p yes no sy sn V7) := half_of HL R6.out.blk R6.out.keep hty htn hyb hnb hv7
                rw [hv7]
                clear hv7 hty htn hyb hnb hyn hnn
                refine hK1.out _ _ F7.out.2.2.2.1 ?_
                clear hK1
                intro _
                try simp only [Act.put, List.setIfInBounds_toArray, List.set_cons_zero, List.set_cons_succ]
                refine wpAnyH_take (i := 10) (oi := ⟨some 50, Op.fieldAddr 43 (.tmp 2) 6, 0, "law.go:123", #[⟨0, .phase⟩, ⟨1, .phase⟩, ⟨2, .phase⟩, ⟨3, .phase⟩, ⟨4, .phase⟩, ⟨5, .phase⟩, ⟨6, .phase⟩, ⟨7, .phase⟩, ⟨8, .phase⟩, ⟨9, .phase⟩], none⟩) (v := .pointer (some ⟨g, 37, none⟩)) rfl (by kernel_rfl) (by kernel_rfl) (by kernel_rfl) (fun _ _ _ h => h.elim) (Or.inl ⟨by rfl, ?y30⟩) F7.out.2.2.2.1 ?_
                case y30 =>
                  intro V hV
                  go_simp
                simp only [Act.put, List.setIfInBounds_toArray, List.set_cons_zero, List.set_cons_succ]
                refine wpAnyH_ready (rs := [11]) (by kernel_rfl) (by simp) (AllReadyH.cons (i := 11) (o := ⟨none, Op.store 40 (.tmp 50) (.tmp 48), 0, "law.go:123", #[⟨10, .data⟩, ⟨7, .data⟩, ⟨9, .chain⟩, ⟨0, .phase⟩, ⟨1, .phase⟩, ⟨2, .phase⟩, ⟨3, .phase⟩, ⟨4, .phase⟩, ⟨5, .phase⟩, ⟨6, .phase⟩, ⟨7, .phase⟩, ⟨8, .phase⟩, ⟨9, .phase⟩], none⟩) rfl ?_ AllReadyH.nil)
                · intro K1 hK1
                  refine step_st (by rfl) 40 (.tmp 50) (.tmp 48) rfl g 37 (.slice sn.a sn.n sn.c) 43 _ rfl rfl F7.out.1 (by rw [Pp.length (p := { p with y := sy }) HL.out.2]; omega) (by kernel_rfl) rfl rfl ?_
                  obtain ⟨V8, hv8⟩ : ∃ V, V7.setCell ⟨g, 37, none⟩ (.slice sn.a sn.n sn.c) = V := ⟨_, rfl⟩
                  have F8 : Hid (Copied A g p yes no sy sn V8) := copied_of HL F7.out hv8
                  rw [hv8]
                  clear hv8
                  refine hK1.out _ _ F8.out.2.2.2 ?_
                  clear hK1
                  intro _
                  try simp only [Act.put, List.setIfInBounds_toArray, List.set_cons_zero, List.set_cons_succ]
                  refine wpAnyH_done (by kernel_rfl) ?_ _
                  exact hQ V8 _ _ sy sn F8.out
      · intro K1 hK1
        refine step_bs0 (by rfl) rfl ?_
        obtain ⟨V3, hv3⟩ : ∃ V, V2.alloc (.cells #[] 9) = V := ⟨_, rfl⟩
        obtain ⟨q3, hq3⟩ : ∃ m, V2.heap.size = m := ⟨_, rfl⟩
        have R3 : Hid (R13 A g p V3 (some (.slice (some ⟨q2, 0, none⟩) 0 0, [])) (some (.slice (some ⟨q3, 0, none⟩) 0 0, []))) := by rw [← hv3, ← hq3]; exact R2.out.swap.bs.swap
        rw [hv3, hq3]
        clear hv3 hq3
        refine hK1.out _ _ R3.out.keep ?_
        clear hK1
        intro _
        try simp only [Act.put, List.setIfInBounds_toArray, List.set_cons_zero, List.set_cons_succ]
        refine wpAnyH_ready (rs := [3, 6]) (by kernel_rfl) (by simp) (AllReadyH.cons (i := 3) (o := ⟨some 44, Op.call { callee := Callee.builtin Builtin.append, args := #[Operand.tmp 41, Operand.tmp 43], argTypes := #[40, 40] }, 40, "law.go:123", #[⟨0, .data⟩, ⟨2, .data⟩], none⟩) rfl ?_ (AllReadyH.cons (i := 6) (o := ⟨some 47, Op.load 40 (.tmp 46), 40, "law.go:123", #[⟨5, .data⟩], none⟩) rfl ?_ AllReadyH.nil))
        · intro K1 hK1
          obtain ⟨v4, V4, hr4, hR4⟩ := R3.out.app (s := p.y) (l := yes) (strs_keep HY.out.1 R3.out.keep HNE.out.1) HY.out.2.1 HL.out.1 40
          refine step_run (by rfl) (.tmp 41) (.tmp 43) rfl _ p.y rfl rfl hr4 ?_
          have R4 : Hid (R13 A g p V4 (some (v4, yes)) (some (.slice (some ⟨q3, 0, none⟩) 0 0, []))) := hR4
          clear hr4 hR4
          refine hK1.out _ _ R4.out.keep ?_
          clear hK1
          intro _
          try simp only [Act.put, List.setIfInBounds_toArray, List.set_cons_zero, List.set_cons_succ]
          refine wpAnyH_ready (rs := [6]) (by kernel_rfl) (by simp) (AllReadyH.cons (i := 6) (o := ⟨some 47, Op.load 40 (.tmp 46), 40, "law.go:123", #[⟨5, .data⟩], none⟩) rfl ?_ AllReadyH.nil)
          · intro K1 hK1
            rw [if_pos (by rfl)]
            have hc : V4.cell? ⟨g, 37, none⟩ = some (.slice p.n.a p.n.n p.n.c) := R4.out.blk.cell (Pp.tail HL.out.2 2)
            go_wp2
            clear hc
            refine hK1.out _ _ R4.out.keep ?_
            clear hK1
            intro _
            try simp only [Act.put, List.setIfInBounds_toArray, List.set_cons_zero, List.set_cons_succ]
            refine wpAnyH_take (i := 8) (oi := ⟨some 49, Op.fieldAddr 43 (.tmp 2) 5, 0, "law.go:123", #[⟨0, .phase⟩, ⟨1, .phase⟩, ⟨2, .phase⟩, ⟨3, .phase⟩, { on := 4, ground := Ground.textOnly Departure.lateStores }, ⟨5, .phase⟩, ⟨6, .phase⟩, { on := 7, ground := Ground.textOnly Departure.lateStoresUnsure }], none⟩) (v := .pointer (some ⟨g, 36, none⟩)) rfl (by kernel_rfl) (by kernel_rfl) (by kernel_rfl) (fun _ _ _ h => h.elim) (Or.inl ⟨by rfl, ?y31⟩) R4.out.keep ?_
            case y31 =>
              intro V hV
              go_simp
            simp only [Act.put, List.setIfInBounds_toArray, List.set_cons_zero, List.set_cons_succ]
            refine wpAnyH_ready (rs := [7]) (by kernel_rfl) (by simp) (AllReadyH.cons (i := 7) (o := ⟨some 48, Op.call { callee := Callee.builtin Builtin.append, args := #[Operand.tmp 45, Operand.tmp 47], argTypes := #[40, 40] }, 40, "law.go:123", #[⟨4, .data⟩, ⟨6, .data⟩, ⟨3, .chain⟩], none⟩) rfl ?_ AllReadyH.nil)
            · intro K1 hK1
              obtain ⟨v6, V6, hr6, hR6⟩ := R4.out.swap.app (s := p.n) (l := no) (strs_keep HN.out.1 R4.out.keep HNE.out.2) HN.out.2.1 HL.out.1 40
              refine step_run (by rfl) (.tmp 45) (.tmp 47) rfl _ p.n rfl rfl hr6 ?_
              have R6 : Hid (R13 A g p V6 (some (v4, yes)) (some (v6, no))) := hR6.swap
              clear hr6 hR6
              refine hK1.out _ _ R6.out.keep ?_
              clear hK1
              intro _
              try simp only [Act.put, List.setIfInBounds_toArray, List.set_cons_zero, List.set_cons_succ]
              refine wpAnyH_ready (rs := [9]) (by kernel_rfl) (by simp) (AllReadyH.cons (i := 9) (o := ⟨none, Op.store 40 (.tmp 49) (.tmp 44), 0, "law.go:123", #[⟨8, .data⟩, ⟨3, .data⟩, ⟨7, .chain⟩, ⟨0, .phase⟩, ⟨1, .phase⟩, ⟨2, .phase⟩, ⟨3, .phase⟩, { on := 4, ground := Ground.textOnly Departure.lateStores }, ⟨5, .phase⟩, ⟨6, .phase⟩, { on := 7, ground := Ground.textOnly Departure.lateStoresUnsure }], none⟩) rfl ?_ AllReadyH.nil)
              · intro K1 hK1
                obtain ⟨sy, hsy, hty, hyn, hyb⟩ := own_txt R6.out.fst.1 HY.out.2.2.1 (by have := HY.out.2.1; omega)
                obtain ⟨sn, hsn, htn, hnn, hnb⟩ := own_txt R6.out.snd.1 HN.out.2.2.1 (by have := HN.out.2.1; omega)
                subst hsy
                subst hsn
                refine step_st (by rfl) 40 (.tmp 49) (.tmp 44) rfl g 36 (.slice sy.a sy.n sy.c) 43 _ rfl rfl R6.out.blk (by rw [Pp.length HL.out.2]; omega) (by kernel_rfl) rfl rfl ?_
                obtain ⟨V7, hv7⟩ : ∃ V, V6.setCell ⟨g, 36, none⟩ (.slice sy.a sy.n sy.c) = V := ⟨_, rfl⟩
                have F7 : Hid (Half A g p yes no sy sn V7) := half_of HL R6.out.blk R6.out.keep hty htn hyb hnb hv7
                rw [hv7]
                clear hv7 hty htn hyb hnb hyn hnn
                refine hK1.out _ _ F7.out.2.2.2.1 ?_
                clear hK1
                intro _
                try simp only [Act.put, List.setIfInBounds_toArray, List.set_cons_zero, List.set_cons_succ]
                refine wpAnyH_take (i := 10) (oi := ⟨some 50, Op.fieldAddr 43 (.tmp 2) 6, 0, "law.go:123", #[⟨0, .phase⟩, ⟨1, .phase⟩, ⟨2, .phase⟩, ⟨3, .phase⟩, ⟨4, .phase⟩, ⟨5, .phase⟩, ⟨6, .phase⟩, ⟨7, .phase⟩, ⟨8, .phase⟩, ⟨9, .phase⟩], none⟩) (v := .pointer (some ⟨g, 37, none⟩)) rfl (by kernel_rfl) (by kernel_rfl) (by kernel_rfl) (fun _ _ _ h => h.elim) (Or.inl ⟨by rfl, ?y32⟩) F7.out.2.2.2.1 ?_
                case y32 =>
                  intro V hV
                  go_simp
                simp only [Act.put, List.setIfInBounds_toArray, List.set_cons_zero, List.set_cons_succ]
                refine wpAnyH_ready (rs := [11]) (by kernel_rfl) (by simp) (AllReadyH.cons (i := 11) (o := ⟨none, Op.store 40 (.tmp 50) (.tmp 48), 0, "law.go:123", #[⟨10, .data⟩, ⟨7, .data⟩, ⟨9, .chain⟩, ⟨0, .phase⟩, ⟨1, .phase⟩, ⟨2, .phase⟩, ⟨3, .phase⟩, ⟨4, .phase⟩, ⟨5, .phase⟩, ⟨6, .phase⟩, ⟨7, .phase⟩, ⟨8, .phase⟩, ⟨9, .phase⟩], none⟩) rfl ?_ AllReadyH.nil)
                · intro K1 hK1
                  refine step_st (by rfl) 40 (.tmp 50) (.tmp 48) rfl g 37 (.slice sn.a sn.n sn.c) 43 _ rfl rfl F7.out.1 (by rw [Pp.length (p := { p with y := sy }) HL.out.2]; omega) (by kernel_rfl) rfl rfl ?_
                  obtain ⟨V8, hv8⟩ : ∃ V, V7.setCell ⟨g, 37, none⟩ (.slice sn.a sn.n sn.c) = V := ⟨_, rfl⟩
                  have F8 : Hid (Copied A g p yes no sy sn V8) := copied_of HL F7.out hv8
                  rw [hv8]
                  clear hv8
                  refine hK1.out _ _ F8.out.2.2.2 ?_
                  clear hK1
                  intro _
                  try simp only [Act.put, List.setIfInBounds_toArray, List.set_cons_zero, List.set_cons_succ]
                  refine wpAnyH_done (by kernel_rfl) ?_ _
                  exact hQ V8 _ _ sy sn F8.out
        · intro K1 hK1
          rw [if_pos (by rfl)]
          have hc : V3.cell? ⟨g, 37, none⟩ = some (.slice p.n.a p.n.n p.n.c) := R3.out.blk.cell (Pp.tail HL.out.2 2)
          go_wp2
          clear hc
          refine hK1.out _ _ R3.out.keep ?_
          clear hK1
          intro _
          try simp only [Act.put, List.setIfInBounds_toArray, List.set_cons_zero, List.set_cons_succ]
          refine wpAnyH_ready (rs := [3]) (by kernel_rfl) (by simp) (AllReadyH.cons (i := 3) (o := ⟨some 44, Op.call { callee := Callee.builtin Builtin.append, args := #[Operand.tmp 41, Operand.tmp 43], argTypes := #[40, 40] }, 40, "law.go:123", #[⟨0, .data⟩, ⟨2, .data⟩], none⟩) rfl ?_ AllReadyH.nil)
          · intro K1 hK1
            obtain ⟨v5, V5, hr5, hR5⟩ := R3.out.app (s := p.y) (l := yes) (strs_keep HY.out.1 R3.out.keep HNE.out.1) HY.out.2.1 HL.out.1 40
            refine step_run (by rfl) (.tmp 41) (.tmp 43) rfl _ p.y rfl rfl hr5 ?_
            have R5 : Hid (R13 A g p V5 (some (v5, yes)) (some (.slice (some ⟨q3, 0, none⟩) 0 0, []))) := hR5
            clear hr5 hR5
            refine hK1.out _ _ R5.out.keep ?_
            clear hK1
            intro _
            try simp only [Act.put, List.setIfInBounds_toArray, List.set_cons_zero, List.set_cons_succ]
            refine wpAnyH_take (i := 8) (oi := ⟨some 49, Op.fieldAddr 43 (.tmp 2) 5, 0, "law.go:123", #[⟨0, .phase⟩, ⟨1, .phase⟩, ⟨2, .phase⟩, ⟨3, .phase⟩, { on := 4, ground := Ground.textOnly Departure.lateStores }, ⟨5, .phase⟩, ⟨6, .phase⟩, { on := 7, ground := Ground.textOnly Departure.lateStoresUnsure }], none⟩) (v := .pointer (some ⟨g, 36, none⟩)) rfl (by kernel_rfl) (by kernel_rfl) (by kernel_rfl) (fun _ _ _ h => h.elim) (Or.inl ⟨by rfl, ?y33⟩) R5.out.keep ?_
            case y33 =>
              intro V hV
              go_simp
            simp only [Act.put, List.setIfInBounds_toArray, List.set_cons_zero, List.set_cons_succ]
            refine wpAnyH_ready (rs := [7]) (by kernel_rfl) (by simp) (AllReadyH.cons (i := 7) (o := ⟨some 48, Op.call { callee := Callee.builtin Builtin.append, args := #[Operand.tmp 45, Operand.tmp 47], argTypes := #[40, 40] }, 40, "law.go:123", #[⟨4, .data⟩, ⟨6, .data⟩, ⟨3, .chain⟩], none⟩) rfl ?_ AllReadyH.nil)
            · intro K1 hK1
              obtain ⟨v6, V6, hr6, hR6⟩ := R5.out.swap.app (s := p.n) (l := no) (strs_keep HN.out.1 R5.out.keep HNE.out.2) HN.out.2.1 HL.out.1 40
              refine step_run (by rfl) (.tmp 45) (.tmp 47) rfl _ p.n rfl rfl hr6 ?_
              have R6 : Hid (R13 A g p V6 (some (v5, yes)) (some (v6, no))) := hR6.swap
              clear hr6 hR6
              refine hK1.out _ _ R6.out.keep ?_
              clear hK1
              intro _
              try simp only [Act.put, List.setIfInBounds_toArray, List.set_cons_zero, List.set_cons_succ]
              refine wpAnyH_ready (rs := [9]) (by kernel_rfl) (by simp) (AllReadyH.cons (i := 9) (o := ⟨none, Op.store 40 (.tmp 49) (.tmp 44), 0, "law.go:123", #[⟨8, .data⟩, ⟨3, .data⟩, ⟨7, .chain⟩, ⟨0, .phase⟩, ⟨1, .phase⟩, ⟨2, .phase⟩, ⟨3, .phase⟩, { on := 4, ground := Ground.textOnly Departure.lateStores }, ⟨5, .phase⟩, ⟨6, .phase⟩, { on := 7, ground := Ground.textOnly Departure.lateStoresUnsure }], none⟩) rfl ?_ AllReadyH.nil)
              · intro K1 hK1
                obtain ⟨sy, hsy, hty, hyn, hyb⟩ := own_txt R6.out.fst.1 HY.out.2.2.1 (by have := HY.out.2.1; omega)
                obtain ⟨sn, hsn, htn, hnn, hnb⟩ := own_txt R6.out.snd.1 HN.out.2.2.1 (by have := HN.out.2.1; omega)
                subst hsy
                subst hsn
                refine step_st (by rfl) 40 (.tmp 49) (.tmp 44) rfl g 36 (.slice sy.a sy.n sy.c) 43 _ rfl rfl R6.out.blk (by rw [Pp.length HL.out.2]; omega) (by kernel_rfl) rfl rfl ?_
                obtain ⟨V7, hv7⟩ : ∃ V, V6.setCell ⟨g, 36, none⟩ (.slice sy.a sy.n sy.c) = V := ⟨_, rfl⟩
                have F7 : Hid (Half A g p yes no sy sn V7) := half_of HL R6.out.blk R6.out.keep hty htn hyb hnb hv7
                rw [hv7]
                clear hv7 hty htn hyb hnb hyn hnn
                refine hK1.out _ _ F7.out.2.2.2.1 ?_
                clear hK1
                intro _
                try simp only [Act.put, List.setIfInBounds_toArray, List.set_cons_zero, List.set_cons_succ]
                refine wpAnyH_take (i := 10) (oi := ⟨some 50, Op.fieldAddr 43 (.tmp 2) 6, 0, "law.go:123", #[⟨0, .phase⟩, ⟨1, .phase⟩, ⟨2, .phase⟩, ⟨3, .phase⟩, ⟨4, .phase⟩, ⟨5, .phase⟩, ⟨6, .phase⟩, ⟨7, .phase⟩, ⟨8, .phase⟩, ⟨9, .phase⟩], none⟩) (v := .pointer (some ⟨g, 37, none⟩)) rfl (by kernel_rfl) (by kernel_rfl) (by kernel_rfl) (fun _ _ _ h => h.elim) (Or.inl ⟨by rfl, ?y34⟩) F7.out.2.2.2.1 ?_
                case y34 =>
                  intro V hV
                  go_simp
                simp only [Act.put, List.setIfInBounds_toArray, List.set_cons_zero, List.set_cons_succ]
                refine wpAnyH_ready (rs := [11]) (by kernel_rfl) (by simp) (AllReadyH.cons (i := 11) (o := ⟨none, Op.store 40 (.tmp 50) (.tmp 48), 0, "law.go:123", #[⟨10, .data⟩, ⟨7, .data⟩, ⟨9, .chain⟩, ⟨0, .phase⟩, ⟨1, .phase⟩, ⟨2, .phase⟩, ⟨3, .phase⟩, ⟨4, .phase⟩, ⟨5, .phase⟩, ⟨6, .phase⟩, ⟨7, .phase⟩, ⟨8, .phase⟩, ⟨9, .phase⟩], none⟩) rfl ?_ AllReadyH.nil)
                · intro K1 hK1
                  refine step_st (by rfl) 40 (.tmp 50) (.tmp 48) rfl g 37 (.slice sn.a sn.n sn.c) 43 _ rfl rfl F7.out.1 (by rw [Pp.length (p := { p with y := sy }) HL.out.2]; omega) (by kernel_rfl) rfl rfl ?_
                  obtain ⟨V8, hv8⟩ : ∃ V, V7.setCell ⟨g, 37, none⟩ (.slice sn.a sn.n sn.c) = V := ⟨_, rfl⟩
                  have F8 : Hid (Copied A g p yes no sy sn V8) := copied_of HL F7.out hv8
                  rw [hv8]
                  clear hv8
                  refine hK1.out _ _ F8.out.2.2.2 ?_
                  clear hK1
                  intro _
                  try simp only [Act.put, List.setIfInBounds_toArray, List.set_cons_zero, List.set_cons_succ]
                  refine wpAnyH_done (by kernel_rfl) ?_ _
                  exact hQ V8 _ _ sy sn F8.out
      · intro K1 hK1
        rw [if_pos (by rfl)]
        have hc : V2.cell? ⟨g, 37, none⟩ = some (.slice p.n.a p.n.n p.n.c) := R2.out.blk.cell (Pp.tail HL.out.2 2)
        go_wp2
        clear hc
        refine hK1.out _ _ R2.out.keep ?_
        clear hK1
        intro _
        try simp only [Act.put, List.setIfInBounds_toArray, List.set_cons_zero, List.set_cons_succ]
        refine wpAnyH_ready (rs := [3, 4]) (by kernel_rfl) (by simp) (AllReadyH.cons (i := 3) (o := ⟨some 44, Op.call { callee := Callee.builtin Builtin.append, args := #[Operand.tmp 41, Operand.tmp 43], argTypes := #[40, 40] }, 40, "law.go:123", #[⟨0, .data⟩, ⟨2, .data⟩], none⟩) rfl ?_ (AllReadyH.cons (i := 4) (o := ⟨some 45, Op.buildSlice 40 0 #[], 40, "law.go:123", #[], none⟩) rfl ?_ AllReadyH.nil))
        · intro K1 hK1
          obtain ⟨v4, V4, hr4, hR4⟩ := R2.out.app (s := p.y) (l := yes) (strs_keep HY.out.1 R2.out.keep HNE.out.1) HY.out.2.1 HL.out.1 40
          refine step_run (by rfl) (.tmp 41) (.tmp 43) rfl _ p.y rfl rfl hr4 ?_
          have R4 : Hid (R13 A g p V4 (some (v4, yes)) none) := hR4
          clear hr4 hR4
          refine hK1.out _ _ R4.out.keep ?_
          clear hK1
          intro _
          try simp only [Act.put, List.setIfInBounds_toArray, List.set_cons_zero, List.set_cons_succ]
          refine wpAnyH_take (i := 8) (oi := ⟨some 49, Op.fieldAddr 43 (.tmp 2) 5, 0, "law.go:123", #[⟨0, .phase⟩, ⟨1, .phase⟩, ⟨2, .phase⟩, ⟨3, .phase⟩, { on := 4, ground := Ground.textOnly Departure.lateStores }, ⟨5, .phase⟩, ⟨6, .phase⟩, { on := 7, ground := Ground.textOnly Departure.lateStoresUnsure }], none⟩) (v := .pointer (some ⟨g, 36, none⟩)) rfl (by kernel_rfl) (by kernel_rfl) (by kernel_rfl) (fun _ _ _ h => h.elim) (Or.inl ⟨by rfl, ?y35⟩) R4.out.keep ?_
          case y35 =>
            intro V hV
            go_simp
          simp only [Act.put, List.setIfInBounds_toArray, List.set_cons_zero, List.set_cons_succ]
          refine wpAnyH_ready (rs := [4]) (by kernel_rfl) (by simp) (AllReadyH.cons (i := 4) (o := ⟨some 45, Op.buildSlice 40 0 #[], 40, "law.go:123", #[], none⟩) rfl ?_ AllReadyH.nil)
          · intro K1 hK1
            refine step_bs0 (by rfl) rfl ?_
            obtain ⟨V5, hv5⟩ : ∃ V, V4.alloc (.cells #[] 9) = V := ⟨_, rfl⟩
            obtain ⟨q5, hq5⟩ : ∃ m, V4.heap.size = m := ⟨_, rfl⟩
            have R5 : Hid (R13 A g p V5 (some (v4, yes)) (some (.slice (some ⟨q5, 0, none⟩) 0 0, []))) := by rw [← hv5, ← hq5]; exact R4.out.swap.bs.swap
            rw [hv5, hq5]
            clear hv5 hq5
            refine hK1.out _ _ R5.out.keep ?_
            clear hK1
            intro _
            try simp only [Act.put, List.setIfInBounds_toArray, List.set_cons_zero, List.set_cons_succ]
            refine wpAnyH_ready (rs := [7]) (by kernel_rfl) (by simp) (AllReadyH.cons (i := 7) (o := ⟨some 48, Op.call { callee := Callee.builtin Builtin.append, args := #[Operand.tmp 45, Operand.tmp 47], argTypes := #[40, 40] }, 40, "law.go:123", #[⟨4, .data⟩, ⟨6, .data⟩, ⟨3, .chain⟩], none⟩) rfl ?_ AllReadyH.nil)
            · intro K1 hK1
              obtain ⟨v6, V6, hr6, hR6⟩ := R5.out.swap.app (s := p.n) (l := no) (strs_keep HN.out.1 R5.out.keep HNE.out.2) HN.out.2.1 HL.out.1 40
              refine step_run (by rfl) (.tmp 45) (.tmp 47) rfl _ p.n rfl rfl hr6 ?_
              have R6 : Hid (R13 A g p V6 (some (v4, yes)) (some (v6, no))) := hR6.swap
              clear hr6 hR6
              refine hK1.out _ _ R6.out.keep ?_
              clear hK1
              intro _
              try simp only [Act.put, List.setIfInBounds_toArray, List.set_cons_zero, List.set_cons_succ]
              refine wpAnyH_ready (rs := [9]) (by kernel_rfl) (by simp) (AllReadyH.cons (i := 9) (o := ⟨none, Op.store 40 (.tmp 49) (.tmp 44), 0, "law.go:123", #[⟨8, .data⟩, ⟨3, .data⟩, ⟨7, .chain⟩, ⟨0, .phase⟩, ⟨1, .phase⟩, ⟨2, .phase⟩, ⟨3, .phase⟩, { on := 4, ground := Ground.textOnly Departure.lateStores }, ⟨5, .phase⟩, ⟨6, .phase⟩, { on := 7, ground := Ground.textOnly Departure.lateStoresUnsure }], none⟩) rfl ?_ AllReadyH.nil)
              · intro K1 hK1
                obtain ⟨sy, hsy, hty, hyn, hyb⟩ := own_txt R6.out.fst.1 HY.out.2.2.1 (by have := HY.out.2.1; omega)
                obtain ⟨sn, hsn, htn, hnn, hnb⟩ := own_txt R6.out.snd.1 HN.out.2.2.1 (by have := HN.out.2.1; omega)
                subst hsy
                subst hsn
                refine step_st (by rfl) 40 (.tmp 49) (.tmp 44) rfl g 36 (.slice sy.a sy.n sy.c) 43 _ rfl rfl R6.out.blk (by rw [Pp.length HL.out.2]; omega) (by kernel_rfl) rfl rfl ?_
                obtain ⟨V7, hv7⟩ : ∃ V, V6.setCell ⟨g, 36, none⟩ (.slice sy.a sy.n sy.c) = V := ⟨_, rfl⟩
                have F7 : Hid (Half A g p yes no sy sn V7) := half_of HL R6.out.blk R6.out.keep hty htn hyb hnb hv7
                rw [hv7]
                clear hv7 hty htn hyb hnb hyn hnn
                refine hK1.out _ _ F7.out.2.2.2.1 ?_
                clear hK1
                intro _
                try simp only [Act.put, List.setIfInBounds_toArray, List.set_cons_zero, List.set_cons_succ]
                refine wpAnyH_take (i := 10) (oi := ⟨some 50, Op.fieldAddr 43 (.tmp 2) 6, 0, "law.go:123", #[⟨0, .phase⟩, ⟨1, .phase⟩, ⟨2, .phase⟩, ⟨3, .phase⟩, ⟨4, .phase⟩, ⟨5, .phase⟩, ⟨6, .phase⟩, ⟨7, .phase⟩, ⟨8, .phase⟩, ⟨9, .phase⟩], none⟩) (v := .pointer (some ⟨g, 37, none⟩)) rfl (by kernel_rfl) (by kernel_rfl) (by kernel_rfl) (fun _ _ _ h => h.elim) (Or.inl ⟨by rfl, ?y36⟩) F7.out.2.2.2.1 ?_
                case y36 =>
                  intro V hV
                  go_simp
                simp only [Act.put, List.setIfInBounds_toArray, List.set_cons_zero, List.set_cons_succ]
                refine wpAnyH_ready (rs := [11]) (by kernel_rfl) (by simp) (AllReadyH.cons (i := 11) (o := ⟨none, Op.store 40 (.tmp 50) (.tmp 48), 0, "law.go:123", #[⟨10, .data⟩, ⟨7, .data⟩, ⟨9, .chain⟩, ⟨0, .phase⟩, ⟨1, .phase⟩, ⟨2, .phase⟩, ⟨3, .phase⟩, ⟨4, .phase⟩, ⟨5, .phase⟩, ⟨6, .phase⟩, ⟨7, .phase⟩, ⟨8, .phase⟩, ⟨9, .phase⟩], none⟩) rfl ?_ AllReadyH.nil)
                · intro K1 hK1
                  refine step_st (by rfl) 40 (.tmp 50) (.tmp 48) rfl g 37 (.slice sn.a sn.n sn.c) 43 _ rfl rfl F7.out.1 (by rw [Pp.length (p := { p with y := sy }) HL.out.2]; omega) (by kernel_rfl) rfl rfl ?_
                  obtain ⟨V8, hv8⟩ : ∃ V, V7.setCell ⟨g, 37, none⟩ (.slice sn.a sn.n sn.c) = V := ⟨_, rfl⟩
                  have F8 : Hid (Copied A g p yes no sy sn V8) := copied_of HL F7.out hv8
                  rw [hv8]
                  clear hv8
                  refine hK1.out _ _ F8.out.2.2.2 ?_
                  clear hK1
                  intro _
                  try simp only [Act.put, List.setIfInBounds_toArray, List.set_cons_zero, List.set_cons_succ]
                  refine wpAnyH_done (by kernel_rfl) ?_ _
                  exact hQ V8 _ _ sy sn F8.out
        · intro K1 hK1
          refine step_bs0 (by rfl) rfl ?_
          obtain ⟨V4, hv4⟩ : ∃ V, V2.alloc (.cells #[] 9) = V := ⟨_, rfl⟩
          obtain ⟨q4, hq4⟩ : ∃ m, V2.heap.size = m := ⟨_, rfl⟩
          have R4 : Hid (R13 A g p V4 (some (.slice (some ⟨q2, 0, none⟩) 0 0, [])) (some (.slice (some ⟨q4, 0, none⟩) 0 0, []))) := by rw [← hv4, ← hq4]; exact R2.out.swap.bs.swap
          rw [hv4, hq4]
          clear hv4 hq4
          refine hK1.out _ _ R4.out.keep ?_
          clear hK1
          intro _
          try simp only [Act.put, List.setIfInBounds_toArray, List.set_cons_zero, List.set_cons_succ]
          refine wpAnyH_ready (rs := [3]) (by kernel_rfl) (by simp) (AllReadyH.cons (i := 3) (o := ⟨some 44, Op.call { callee := Callee.builtin Builtin.append, args := #[Operand.tmp 41, Operand.tmp 43], argTypes := #[40, 40] }, 40, "law.go:123", #[⟨0, .data⟩, ⟨2, .data⟩], none⟩) rfl ?_ AllReadyH.nil)
          · intro K1 hK1
            obtain ⟨v5, V5, hr5, hR5⟩ := R4.out.app (s := p.y) (l := yes) (strs_keep HY.out.1 R4.out.keep HNE.out.1) HY.out.2.1 HL.out.1 40
            refine step_run (by rfl) (.tmp 41) (.tmp 43) rfl _ p.y rfl rfl hr5 ?_
            have R5 : Hid (R13 A g p V5 (some (v5, yes)) (some (.slice (some ⟨q4, 0, none⟩) 0 0, []))) := hR5
            clear hr5 hR5
            refine hK1.out _ _ R5.out.keep ?_
            clear hK1
            intro _
            try simp only [Act.put, List.setIfInBounds_toArray, List.set_cons_zero, List.set_cons_succ]
            refine wpAnyH_take (i := 8) (oi := ⟨some 49, Op.fieldAddr 43 (.tmp 2) 5, 0, "law.go:123", #[⟨0, .phase⟩, ⟨1, .phase⟩, ⟨2, .phase⟩, ⟨3, .phase⟩, { on := 4, ground := Ground.textOnly Departure.lateStores }, ⟨5, .phase⟩, ⟨6, .phase⟩, { on := 7, ground := Ground.textOnly Departure.lateStoresUnsure }], none⟩) (v := .pointer (some ⟨g, 36, none⟩)) rfl (by kernel_rfl) (by kernel_rfl) (by kernel_rfl) (fun _ _ _ h => h.elim) (Or.inl ⟨by rfl, ?y37⟩) R5.out.keep ?_
            case y37 =>
              intro V hV
              go_simp
            simp only [Act.put, List.setIfInBounds_toArray, List.set_cons_zero, List.set_cons_succ]
            refine wpAnyH_ready (rs := [7]) (by kernel_rfl) (by simp) (AllReadyH.cons (i := 7) (o := ⟨some 48, Op.call { callee := Callee.builtin Builtin.append, args := #[Operand.tmp 45, Operand.tmp 47], argTypes := #[40, 40] }, 40, "law.go:123", #[⟨4, .data⟩, ⟨6, .data⟩, ⟨3, .chain⟩], none⟩) rfl ?_ AllReadyH.nil)
            · intro K1 hK1
              obtain ⟨v6, V6, hr6, hR6⟩ := R5.out.swap.app (s := p.n) (l := no) (strs_keep HN.out.1 R5.out.keep HNE.out.2) HN.out.2.1 HL.out.1 40
              refine step_run (by rfl) (.tmp 45) (.tmp 47) rfl _ p.n rfl rfl hr6 ?_
              have R6 : Hid (R13 A g p V6 (some (v5, yes)) (some (v6, no))) := hR6.swap
              clear hr6 hR6
              refine hK1.out _ _ R6.out.keep ?_
              clear hK1
              intro _
              try simp only [Act.put, List.setIfInBounds_toArray, List.set_cons_zero, List.set_cons_succ]
              refine wpAnyH_ready (rs := [9]) (by kernel_rfl) (by simp) (AllReadyH.cons (i := 9) (o := ⟨none, Op.store 40 (.tmp 49) (.tmp 44), 0, "law.go:123", #[⟨8, .data⟩, ⟨3, .data⟩, ⟨7, .chain⟩, ⟨0, .phase⟩, ⟨1, .phase⟩, ⟨2, .phase⟩, ⟨3, .phase⟩, { on := 4, ground := Ground.textOnly Departure.lateStores }, ⟨5, .phase⟩, ⟨6, .phase⟩, { on := 7, ground := Ground.textOnly Departure.lateStoresUnsure }], none⟩) rfl ?_ AllReadyH.nil)
              · intro K1 hK1
                obtain ⟨sy, hsy, hty, hyn, hyb⟩ := own_txt R6.out.fst.1 HY.out.2.2.1 (by have := HY.out.2.1; omega)
                obtain ⟨sn, hsn, htn, hnn, hnb⟩ := own_txt R6.out.snd.1 HN.out.2.2.1 (by have := HN.out.2.1; omega)
                subst hsy
                subst hsn
                refine step_st (by rfl) 40 (.tmp 49) (.tmp 44) rfl g 36 (.slice sy.a sy.n sy.c) 43 _ rfl rfl R6.out.blk (by rw [Pp.length HL.out.2]; omega) (by kernel_rfl) rfl rfl ?_
                obtain ⟨V7, hv7⟩ : ∃ V, V6.setCell ⟨g, 36, none⟩ (.slice sy.a sy.n sy.c) = V := ⟨_, rfl⟩
                have F7 : Hid (Half A g p yes no sy sn V7) := half_of HL R6.out.blk R6.out.keep hty htn hyb hnb hv7
                rw [hv7]
                clear hv7 hty htn hyb hnb hyn hnn
                refine hK1.out _ _ F7.out.2.2.2.1 ?_
                clear hK1
                intro _
                try simp only [Act.put, List.setIfInBounds_toArray, List.set_cons_zero, List.set_cons_succ]
                refine wpAnyH_take (i := 10) (oi := ⟨some 50, Op.fieldAddr 43 (.tmp 2) 6, 0, "law.go:123", #[⟨0, .phase⟩, ⟨1, .phase⟩, ⟨2, .phase⟩, ⟨3, .phase⟩, ⟨4, .phase⟩, ⟨5, .phase⟩, ⟨6, .phase⟩, ⟨7, .phase⟩, ⟨8, .phase⟩, ⟨9, .phase⟩], none⟩) (v := .pointer (some ⟨g, 37, none⟩)) rfl (by kernel_rfl) (by kernel_rfl) (by kernel_rfl) (fun _ _ _ h => h.elim) (Or.inl ⟨by rfl, ?y38⟩) F7.out.2.2.2.1 ?_
                case y38 =>
                  intro V hV
                  go_simp
                simp only [Act.put, List.setIfInBounds_toArray, List.set_cons_zero, List.set_cons_succ]
                refine wpAnyH_ready (rs := [11]) (by kernel_rfl) (by simp) (AllReadyH.cons (i := 11) (o := ⟨none, Op.store 40 (.tmp 50) (.tmp 48), 0, "law.go:123", #[⟨10, .data⟩, ⟨7, .data⟩, ⟨9, .chain⟩, ⟨0, .phase⟩, ⟨1, .phase⟩, ⟨2, .phase⟩, ⟨3, .phase⟩, ⟨4, .phase⟩, ⟨5, .phase⟩, ⟨6, .phase⟩, ⟨7, .phase⟩, ⟨8, .phase⟩, ⟨9, .phase⟩], none⟩) rfl ?_ AllReadyH.nil)
                · intro K1 hK1
                  refine step_st (by rfl) 40 (.tmp 50) (.tmp 48) rfl g 37 (.slice sn.a sn.n sn.c) 43 _ rfl rfl F7.out.1 (by rw [Pp.length (p := { p with y := sy }) HL.out.2]; omega) (by kernel_rfl) rfl rfl ?_
                  obtain ⟨V8, hv8⟩ : ∃ V, V7.setCell ⟨g, 37, none⟩ (.slice sn.a sn.n sn.c) = V := ⟨_, rfl⟩
                  have F8 : Hid (Copied A g p yes no sy sn V8) := copied_of HL F7.out hv8
                  rw [hv8]
                  clear hv8
                  refine hK1.out _ _ F8.out.2.2.2 ?_
                  clear hK1
                  intro _
                  try simp only [Act.put, List.setIfInBounds_toArray, List.set_cons_zero, List.set_cons_succ]
                  refine wpAnyH_done (by kernel_rfl) ?_ _
                  exact hQ V8 _ _ sy sn F8.out
    · intro K1 hK1
      refine step_bs0 (by rfl) rfl ?_
      obtain ⟨V2, hv2⟩ : ∃ V, V0.alloc (.cells #[] 9) = V := ⟨_, rfl⟩
      obtain ⟨q2, hq2⟩ : ∃ m, V0.heap.size = m := ⟨_, rfl⟩
      have R2 : Hid (R13 A g p V2 none (some (.slice (some ⟨q2, 0, none⟩) 0 0, []))) := by rw [← hv2, ← hq2]; exact R0.out.swap.bs.swap
      rw [hv2, hq2]
      clear hv2 hq2
      refine hK1.out _ _ R2.out.keep ?_
      clear hK1
      intro _
      try simp only [Act.put, List.setIfInBounds_toArray, List.set_cons_zero, List.set_cons_succ]
      refine wpAnyH_ready (rs := [0, 6]) (by kernel_rfl) (by simp) (AllReadyH.cons (i := 0) (o := ⟨some 41, Op.buildSlice 40 0 #[], 40, "law.go:123", #[], none⟩) rfl ?_ (AllReadyH.cons (i := 6) (o := ⟨some 47, Op.load 40 (.tmp 46), 40, "law.go:123", #[⟨5, .data⟩], none⟩) rfl ?_ AllReadyH.nil))
      · intro K1 hK1
        refine step_bs0 (by rfl) rfl ?_
        obtain ⟨V3, hv3⟩ : ∃ V, V2.alloc (.cells #[] 9) = V := ⟨_, rfl⟩
        obtain ⟨q3, hq3⟩ : ∃ m, V2.heap.size = m := ⟨_, rfl⟩
        have R3 : Hid (R13 A g p V3 (some (.slice (some ⟨q3, 0, none⟩) 0 0, [])) (some (.slice (some ⟨q2, 0, none⟩) 0 0, []))) := by rw [← hv3, ← hq3]; exact R2.out.bs
        rw [hv3, hq3]
        clear hv3 hq3
        refine hK1.out _ _ R3.out.keep ?_
        clear hK1
        intro _
        try simp only [Act.put, List.setIfInBounds_toArray, List.set_cons_zero, List.set_cons_succ]
        refine wpAnyH_ready (rs := [3, 6]) (by kernel_rfl) (by simp) (AllReadyH.cons (i := 3) (o := ⟨some 44, Op.call { callee := Callee.builtin Builtin.append, args := #[Operand.tmp 41, Operand.tmp 43], argTypes := #[40, 40] }, 40, "law.go:123", #[⟨0, .data⟩, ⟨2, .data⟩], none⟩) rfl ?_ (AllReadyH.cons (i := 6) (o := ⟨some 47, Op.load 40 (.tmp 46), 40, "law.go:123", #[⟨5, .data⟩], none⟩) rfl ?_ AllReadyH.nil))
        · intro K1 hK1
          obtain ⟨v4, V4, hr4, hR4⟩ := R3.out.app (s := p.y) (l := yes) (strs_keep HY.out.1 R3.out.keep HNE.out.1) HY.out.2.1 HL.out.1 40
          refine step_run (by rfl) (.tmp 41) (.tmp 43) rfl _ p.y rfl rfl hr4 ?_
          have R4 : Hid (R13 A g p V4 (some (v4, yes)) (some (.slice (some ⟨q2, 0, none⟩) 0 0, []))) := hR4
          clear hr4 hR4
          refine hK1.out _ _ R4.out.keep ?_
          clear hK1
          intro _
          try simp only [Act.put, List.setIfInBounds_toArray, List.set_cons_zero, List.set_cons_succ]
          refine wpAnyH_ready (rs := [6]) (by kernel_rfl) (by simp) (AllReadyH.cons (i := 6) (o := ⟨some 47, Op.load 40 (.tmp 46), 40, "law.go:123", #[⟨5, .data⟩], none⟩) rfl ?_ AllReadyH.nil)
          · intro K1 hK1
            rw [if_pos (by rfl)]
            have hc : V4.cell? ⟨g, 37, none⟩ = some (.slice p.n.a p.n.n p.n.c) := R4.out.blk.cell (Pp.tail HL.out.2 2)
            go_wp2
            clear hc
            refine hK1.out _ _ R4.out.keep ?_
            clear hK1
            intro _
            try simp only [Act.put, List.setIfInBounds_toArray, List.set_cons_zero, List.set_cons_succ]
            refine wpAnyH_take (i := 8) (oi := ⟨some 49, Op.fieldAddr 43 (.tmp 2) 5, 0, "law.go:123", #[⟨0, .phase⟩, ⟨1, .phase⟩, ⟨2, .phase⟩, ⟨3, .phase⟩, { on := 4, ground := Ground.textOnly Departure.lateStores }, ⟨5, .phase⟩, ⟨6, .phase⟩, { on := 7, ground := Ground.textOnly Departure.lateStoresUnsure }], none⟩) (v := .pointer (some ⟨g, 36, none⟩)) rfl (by kernel_rfl) (by kernel_rfl) (by kernel_rfl) (fun _ _ _ h => h.elim) (Or.inl ⟨by rfl, ?y39⟩) R4.out.keep ?_
            case y39 =>
              intro V hV
              go_simp
            simp only [Act.put, List.setIfInBounds_toArray, List.set_cons_zero, List.set_cons_succ]
            refine wpAnyH_ready (rs := [7]) (by kernel_rfl) (by simp) (AllReadyH.cons (i := 7) (o := ⟨some 48, Op.call { callee := Callee.builtin Builtin.append, args := #[Operand.tmp 45, Operand.tmp 47], argTypes := #[40, 40] }, 40, "law.go:123", #[⟨4, .data⟩, ⟨6, .data⟩, ⟨3, .chain⟩], none⟩) rfl ?_ AllReadyH.nil)
            · intro K1 hK1
              obtain ⟨v6, V6, hr6, hR6⟩ := R4.out.swap.app (s := p.n) (l := no) (strs_keep HN.out.1 R4.out.keep HNE.out.2) HN.out.2.1 HL.out.1 40
              refine step_run (by rfl) (.tmp 45) (.tmp 47) rfl _ p.n rfl rfl hr6 ?_
              have R6 : Hid (R13 A g p V6 (some (v4, yes)) (some (v6, no))) := hR6.swap
              clear hr6 hR6
              refine hK1.out _ _ R6.out.keep ?_
              clear hK1
              intro _
              try simp only [Act.put, List.setIfInBounds_toArray, List.set_cons_zero, List.set_cons_succ]
              refine wpAnyH_ready (rs := [9]) (by kernel_rfl) (by simp) (AllReadyH.cons (i := 9) (o := ⟨none, Op.store 40 (.tmp 49) (.tmp 44), 0, "law.go:123", #[⟨8, .data⟩, ⟨3, .data⟩, ⟨7, .chain⟩, ⟨0, .phase⟩, ⟨1, .phase⟩, ⟨2, .phase⟩, ⟨3, .phase⟩, { on := 4, ground := Ground.textOnly Departure.lateStores }, ⟨5, .phase⟩, ⟨6, .phase⟩, { on := 7, ground := Ground.textOnly Departure.lateStoresUnsure }], none⟩) rfl ?_ AllReadyH.nil)
              · intro K1 hK1
                obtain ⟨sy, hsy, hty, hyn, hyb⟩ := own_txt R6.out.fst.1 HY.out.2.2.1 (by have := HY.out.2.1; omega)
                obtain ⟨sn, hsn, htn, hnn, hnb⟩ := own_txt R6.out.snd.1 HN.out.2.2.1 (by have := HN.out.2.1; omega)
                subst hsy
                subst hsn
                refine step_st (by rfl) 40 (.tmp 49) (.tmp 44) rfl g 36 (.slice sy.a sy.n sy.c) 43 _ rfl rfl R6.out.blk (by rw [Pp.length HL.out.2]; omega) (by kernel_rfl) rfl rfl ?_
                obtain ⟨V7, hv7⟩ : ∃ V, V6.setCell ⟨g, 36, none⟩ (.slice sy.a sy.n sy.c) = V := ⟨_, rfl⟩
                have F7 : Hid (Half A g p yes no sy sn V7) := half_of HL R6.out.blk R6.out.keep hty htn hyb hnb hv7
                rw [hv7]
                clear hv7 hty htn hyb hnb hyn hnn
                refine hK1.out _ _ F7.out.2.2.2.1 ?_
                clear hK1
                intro _
                try simp only [Act.put, List.setIfInBounds_toArray, List.set_cons_zero, List.set_cons_succ]
                refine wpAnyH_take (i := 10) (oi := ⟨some 50, Op.fieldAddr 43 (.tmp 2) 6, 0, "law.go:123", #[⟨0, .phase⟩, ⟨1, .phase⟩, ⟨2, .phase⟩, ⟨3, .phase⟩, ⟨4, .phase⟩, ⟨5, .phase⟩, ⟨6, .phase⟩, ⟨7, .phase⟩, ⟨8, .phase⟩, ⟨9, .phase⟩], none⟩) (v := .pointer (some ⟨g, 37, none⟩)) rfl (by kernel_rfl) (by kernel_rfl) (by kernel_rfl) (fun _ _ _ h => h.elim) (Or.inl ⟨by rfl, ?y40⟩) F7.out.2.2.2.1 ?_
                case y40 =>
                  intro V hV
                  go_simp
                simp only [Act.put, List.setIfInBounds_toArray, List.set_cons_zero, List.set_cons_succ]
                refine wpAnyH_ready (rs := [11]) (by kernel_rfl) (by simp) (AllReadyH.cons (i := 11) (o := ⟨none, Op.store 40 (.tmp 50) (.tmp 48), 0, "law.go:123", #[⟨10, .data⟩, ⟨7, .data⟩, ⟨9, .chain⟩, ⟨0, .phase⟩, ⟨1, .phase⟩, ⟨2, .phase⟩, ⟨3, .phase⟩, ⟨4, .phase⟩, ⟨5, .phase⟩, ⟨6, .phase⟩, ⟨7, .phase⟩, ⟨8, .phase⟩, ⟨9, .phase⟩], none⟩) rfl ?_ AllReadyH.nil)
                · intro K1 hK1
                  refine step_st (by rfl) 40 (.tmp 50) (.tmp 48) rfl g 37 (.slice sn.a sn.n sn.c) 43 _ rfl rfl F7.out.1 (by rw [Pp.length (p := { p with y := sy }) HL.out.2]; omega) (by kernel_rfl) rfl rfl ?_
                  obtain ⟨V8, hv8⟩ : ∃ V, V7.setCell ⟨g, 37, none⟩ (.slice sn.a sn.n sn.c) = V := ⟨_, rfl⟩
                  have F8 : Hid (Copied A g p yes no sy sn V8) := copied_of HL F7.out hv8
                  rw [hv8]
                  clear hv8
                  refine hK1.out _ _ F8.out.2.2.2 ?_
                  clear hK1
                  intro _
                  try simp only [Act.put, List.setIfInBounds_toArray, List.set_cons_zero, List.set_cons_succ]
                  refine wpAnyH_done (by kernel_rfl) ?_ _
                  exact hQ V8 _ _ sy sn F8.out
        · intro K1 hK1
          rw [if_pos (by rfl)]
          have hc : V3.cell? ⟨g, 37, none⟩ = some (.slice p.n.a p.n.n p.n.c) := R3.out.blk.cell (Pp.tail HL.out.2 2)
          go_wp2
          clear hc
          refine hK1.out _ _ R3.out.keep ?_
          clear hK1
          intro _
          try simp only [Act.put, List.setIfInBounds_toArray, List.set_cons_zero, List.set_cons_succ]
          refine wpAnyH_ready (rs := [3]) (by kernel_rfl) (by simp) (AllReadyH.cons (i := 3) (o := ⟨some 44, Op.call { callee := Callee.builtin Builtin.append, args := #[Operand.tmp 41, Operand.tmp 43], argTypes := #[40, 40] }, 40, "law.go:123", #[⟨0, .data⟩, ⟨2, .data⟩], none⟩) rfl ?_ AllReadyH.nil)
          · intro K1 hK1
            obtain ⟨v5, V5, hr5, hR5⟩ := R3.out.app (s := p.y) (l := yes) (strs_keep HY.out.1 R3.out.keep HNE.out.1) HY.out.2.1 HL.out.1 40
            refine step_run (by rfl) (.tmp 41) (.tmp 43) rfl _ p.y rfl rfl hr5 ?_
            have R5 : Hid (R13 A g p V5 (some (v5, yes)) (some (.slice (some ⟨q2, 0, none⟩) 0 0, []))) := hR5
            clear hr5 hR5
            refine hK1.out _ _ R5.out.keep ?_
            clear hK1
            intro _
            try simp only [Act.put, List.setIfInBounds_toArray, List.set_cons_zero, List.set_cons_succ]
            refine wpAnyH_take (i := 8) (oi := ⟨some 49, Op.fieldAddr 43 (.tmp 2) 5, 0, "law.go:123", #[⟨0, .phase⟩, ⟨1, .phase⟩, ⟨2, .phase⟩, ⟨3, .phase⟩, { on := 4, ground := Ground.textOnly Departure.lateStores }, ⟨5, .phase⟩, ⟨6, .phase⟩, { on := 7, ground := Ground.textOnly Departure.lateStoresUnsure }], none⟩) (v := .pointer (some ⟨g, 36, none⟩)) rfl (by kernel_rfl) (by kernel_rfl) (by kernel_rfl) (fun _ _ _ h => h.elim) (Or.inl ⟨by rfl, ?y41⟩) R5.out.keep ?_
            case y41 =>
              intro V hV
              go_simp
            simp only [Act.put, List.setIfInBounds_toArray, List.set_cons_zero, List.set_cons_succ]
            refine wpAnyH_ready (rs := [7]) (by kernel_rfl) (by simp) (AllReadyH.cons (i := 7) (o := ⟨some 48, Op.call { callee := Callee.builtin Builtin.append, args := #[Operand.tmp 45, Operand.tmp 47], argTypes := #[40, 40] }, 40, "law.go:123", #[⟨4, .data⟩, ⟨6, .data⟩, ⟨3, .chain⟩], none⟩) rfl ?_ AllReadyH.nil)
            · intro K1 hK1
              obtain ⟨v6, V6, hr6, hR6⟩ := R5.out.swap.app (s := p.n) (l := no) (strs_keep HN.out.1 R5.out.keep HNE.out.2) HN.out.2.1 HL.out.1 40
              refine step_run (by rfl) (.tmp 45) (.tmp 47) rfl _ p.n rfl rfl hr6 ?_
              have R6 : Hid (R13 A g p V6 (some (v5, yes)) (some (v6, no))) := hR6.swap
              clear hr6 hR6
              refine hK1.out _ _ R6.out.keep ?_
              clear hK1
              intro _
              try simp only [Act.put, List.setIfInBounds_toArray, List.set_cons_zero, List.set_cons_succ]
              refine wpAnyH_ready (rs := [9]) (by kernel_rfl) (by simp) (AllReadyH.cons (i := 9) (o := ⟨none, Op.store 40 (.tmp 49) (.tmp 44), 0, "law.go:123", #[⟨8, .data⟩, ⟨3, .data⟩, ⟨7, .chain⟩, ⟨0, .phase⟩, ⟨1, .phase⟩, ⟨2, .phase⟩, ⟨3, .phase⟩, { on := 4, ground := Ground.textOnly Departure.lateStores }, ⟨5, .phase⟩, ⟨6, .phase⟩, { on := 7, ground := Ground.textOnly Departure.lateStoresUnsure }], none⟩) rfl ?_ AllReadyH.nil)
              · intro K1 hK1
                obtain ⟨sy, hsy, hty, hyn, hyb⟩ := own_txt R6.out.fst.1 HY.out.2.2.1 (by have := HY.out.2.1; omega)
                obtain ⟨sn, hsn, htn, hnn, hnb⟩ := own_txt R6.out.snd.1 HN.out.2.2.1 (by have := HN.out.2.1; omega)
                subst hsy
                subst hsn
                refine step_st (by rfl) 40 (.tmp 49) (.tmp 44) rfl g 36 (.slice sy.a sy.n sy.c) 43 _ rfl rfl R6.out.blk (by rw [Pp.length HL.out.2]; omega) (by kernel_rfl) rfl rfl ?_
                obtain ⟨V7, hv7⟩ : ∃ V, V6.setCell ⟨g, 36, none⟩ (.slice sy.a sy.n sy.c) = V := ⟨_, rfl⟩
                have F7 : Hid (Half A g p yes no sy sn V7) := half_of HL R6.out.blk R6.out.keep hty htn hyb hnb hv7
                rw [hv7]
                clear hv7 hty htn hyb hnb hyn hnn
                refine hK1.out _ _ F7.out.2.2.2.1 ?_
                clear hK1
                intro _
                try simp only [Act.put, List.setIfInBounds_toArray, List.set_cons_zero, List.set_cons_succ]
                refine wpAnyH_take (i := 10) (oi := ⟨some 50, Op.fieldAddr 43 (.tmp 2) 6, 0, "law.go:123", #[⟨0, .phase⟩, ⟨1, .phase⟩, ⟨2, .phase⟩, ⟨3, .phase⟩, ⟨4, .phase⟩, ⟨5, .phase⟩, ⟨6, .phase⟩, ⟨7, .phase⟩, ⟨8, .phase⟩, ⟨9, .phase⟩], none⟩) (v := .pointer (some ⟨g, 37, none⟩)) rfl (by kernel_rfl) (by kernel_rfl) (by kernel_rfl) (fun _ _ _ h => h.elim) (Or.inl ⟨by rfl, ?y42⟩) F7.out.2.2.2.1 ?_
                case y42 =>
                  intro V hV
                  go_simp
                simp only [Act.put, List.setIfInBounds_toArray, List.set_cons_zero, List.set_cons_succ]
                refine wpAnyH_ready (rs := [11]) (by kernel_rfl) (by simp) (AllReadyH.cons (i := 11) (o := ⟨none, Op.store 40 (.tmp 50) (.tmp 48), 0, "law.go:123", #[⟨10, .data⟩, ⟨7, .data⟩, ⟨9, .chain⟩, ⟨0, .phase⟩, ⟨1, .phase⟩, ⟨2, .phase⟩, ⟨3, .phase⟩, ⟨4, .phase⟩, ⟨5, .phase⟩, ⟨6, .phase⟩, ⟨7, .phase⟩, ⟨8, .phase⟩, ⟨9, .phase⟩], none⟩) rfl ?_ AllReadyH.nil)
                · intro K1 hK1
                  refine step_st (by rfl) 40 (.tmp 50) (.tmp 48) rfl g 37 (.slice sn.a sn.n sn.c) 43 _ rfl rfl F7.out.1 (by rw [Pp.length (p := { p with y := sy }) HL.out.2]; omega) (by kernel_rfl) rfl rfl ?_
                  obtain ⟨V8, hv8⟩ : ∃ V, V7.setCell ⟨g, 37, none⟩ (.slice sn.a sn.n sn.c) = V := ⟨_, rfl⟩
                  have F8 : Hid (Copied A g p yes no sy sn V8) := copied_of HL F7.out hv8
                  rw [hv8]
                  clear hv8
                  refine hK1.out _ _ F8.out.2.2.2 ?_
                  clear hK1
                  intro _
                  try simp only [Act.put, List.setIfInBounds_toArray, List.set_cons_zero, List.set_cons_succ]
                  refine wpAnyH_done (by kernel_rfl) ?_ _
                  exact hQ V8 _ _ sy sn F8.out
      · intro K1 hK1
        rw [if_pos (by rfl)]
        have hc : V2.cell? ⟨g, 37, none⟩ = some (.slice p.n.a p.n.n p.n.c) := R2.out.blk.cell (Pp.tail HL.out.2 2)
        go_wp2
        clear hc
        refine hK1.out _ _ R2.out.keep ?_
        clear hK1
        intro _
        try simp only [Act.put, List.setIfInBounds_toArray, List.set_cons_zero, List.set_cons_succ]
        refine wpAnyH_ready (rs := [0]) (by kernel_rfl) (by simp) (AllReadyH.cons (i := 0) (o := ⟨some 41, Op.buildSlice 40 0 #[], 40, "law.go:123", #[], none⟩) rfl ?_ AllReadyH.nil)
        · intro K1 hK1
          refine step_bs0 (by rfl) rfl ?_
          obtain ⟨V4, hv4⟩ : ∃ V, V2.alloc (.cells #[] 9) = V := ⟨_, rfl⟩
          obtain ⟨q4, hq4⟩ : ∃ m, V2.heap.size = m := ⟨_, rfl⟩
          have R4 : Hid (R13 A g p V4 (some (.slice (some ⟨q4, 0, none⟩) 0 0, [])) (some (.slice (some ⟨q2, 0, none⟩) 0 0, []))) := by rw [← hv4, ← hq4]; exact R2.out.bs
          rw [hv4, hq4]
          clear hv4 hq4
          refine hK1.out _ _ R4.out.keep ?_
          clear hK1
          intro _
          try simp only [Act.put, List.setIfInBounds_toArray, List.set_cons_zero, List.set_cons_succ]
          refine wpAnyH_ready (rs := [3]) (by kernel_rfl) (by simp) (AllReadyH.cons (i := 3) (o := ⟨some 44, Op.call { callee := Callee.builtin Builtin.append, args := #[Operand.tmp 41, Operand.tmp 43], argTypes := #[40, 40] }, 40, "law.go:123", #[⟨0, .data⟩, ⟨2, .data⟩], none⟩) rfl ?_ AllReadyH.nil)
          · intro K1 hK1
            obtain ⟨v5, V5, hr5, hR5⟩ := R4.out.app (s := p.y) (l := yes) (strs_keep HY.out.1 R4.out.keep HNE.out.1) HY.out.2.1 HL.out.1 40
            refine step_run (by rfl) (.tmp 41) (.tmp 43) rfl _ p.y rfl rfl hr5 ?_
            have R5 : Hid (R13 A g p V5 (some (v5, yes)) (some (.slice (some ⟨q2, 0, none⟩) 0 0, []))) := hR5
            clear hr5 hR5
            refine hK1.out _ _ R5.out.keep ?_
            clear hK1
            intro _
            try simp only [Act.put, List.setIfInBounds_toArray, List.set_cons_zero, List.set_cons_succ]
            refine wpAnyH_take (i := 8) (oi := ⟨some 49, Op.fieldAddr 43 (.tmp 2) 5, 0, "law.go:123", #[⟨0, .phase⟩, ⟨1, .phase⟩, ⟨2, .phase⟩, ⟨3, .phase⟩, { on := 4, ground := Ground.textOnly Departure.lateStores }, ⟨5, .phase⟩, ⟨6, .phase⟩, { on := 7, ground := Ground.textOnly Departure.lateStoresUnsure }], none⟩) (v := .pointer (some ⟨g, 36, none⟩)) rfl (by kernel_rfl) (by kernel_rfl) (by kernel_rfl) (fun _ _ _ h => h.elim) (Or.inl ⟨by rfl, ?y43⟩) R5.out.keep ?_
            case y43 =>
              intro V hV
              go_simp
            simp only [Act.put, List.setIfInBounds_toArray, List.set_cons_zero, List.set_cons_succ]
            refine wpAnyH_ready (rs := [7]) (by kernel_rfl) (by simp) (AllReadyH.cons (i := 7) (o := ⟨some 48, Op.call { callee := Callee.builtin Builtin.append, args := #[Operand.tmp 45, Operand.tmp 47], argTypes := #[40, 40] }, 40, "law.go:123", #[⟨4, .data⟩, ⟨6, .data⟩, ⟨3, .chain⟩], none⟩) rfl ?_ AllReadyH.nil)
            · intro K1 hK1
              obtain ⟨v6, V6, hr6, hR6⟩ := R5.out.swap.app (s := p.n) (l := no) (strs_keep HN.out.1 R5.out.keep HNE.out.2) HN.out.2.1 HL.out.1 40
              refine step_run (by rfl) (.tmp 45) (.tmp 47) rfl _ p.n rfl rfl hr6 ?_
              have R6 : Hid (R13 A g p V6 (some (v5, yes)) (some (v6, no))) := hR6.swap
              clear hr6 hR6
              refine hK1.out _ _ R6.out.keep ?_
              clear hK1
              intro _
              try simp only [Act.put, List.setIfInBounds_toArray, List.set_cons_zero, List.set_cons_succ]
              refine wpAnyH_ready (rs := [9]) (by kernel_rfl) (by simp) (AllReadyH.cons (i := 9) (o := ⟨none, Op.store 40 (.tmp 49) (.tmp 44), 0, "law.go:123", #[⟨8, .data⟩, ⟨3, .data⟩, ⟨7, .chain⟩, ⟨0, .phase⟩, ⟨1, .phase⟩, ⟨2, .phase⟩, ⟨3, .phase⟩, { on := 4, ground := Ground.textOnly Departure.lateStores }, ⟨5, .phase⟩, ⟨6, .phase⟩, { on := 7, ground := Ground.textOnly Departure.lateStoresUnsure }], none⟩) rfl ?_ AllReadyH.nil)
              · intro K1 hK1
                obtain ⟨sy, hsy, hty, hyn, hyb⟩ := own_txt R6.out.fst.1 HY.out.2.2.1 (by have := HY.out.2.1; omega)
                obtain ⟨sn, hsn, htn, hnn, hnb⟩ := own_txt R6.out.snd.1 HN.out.2.2.1 (by have := HN.out.2.1; omega)
                subst hsy
                subst hsn
                refine step_st (by rfl) 40 (.tmp 49) (.tmp 44) rfl g 36 (.slice sy.a sy.n sy.c) 43 _ rfl rfl R6.out.blk (by rw [Pp.length HL.out.2]; omega) (by kernel_rfl) rfl rfl ?_
                obtain ⟨V7, hv7⟩ : ∃ V, V6.setCell ⟨g, 36, none⟩ (.slice sy.a sy.n sy.c) = V := ⟨_, rfl⟩
                have F7 : Hid (Half A g p yes no sy sn V7) := half_of HL R6.out.blk R6.out.keep hty htn hyb hnb hv7
                rw [hv7]
                clear hv7 hty htn hyb hnb hyn hnn
                refine hK1.out _ _ F7.out.2.2.2.1 ?_
                clear hK1
                intro _
                try simp only [Act.put, List.setIfInBounds_toArray, List.set_cons_zero, List.set_cons_succ]
                refine wpAnyH_take (i := 10) (oi := ⟨some 50, Op.fieldAddr 43 (.tmp 2) 6, 0, "law.go:123", #[⟨0, .phase⟩, ⟨1, .phase⟩, ⟨2, .phase⟩, ⟨3, .phase⟩, ⟨4, .phase⟩, ⟨5, .phase⟩, ⟨6, .phase⟩, ⟨7, .phase⟩, ⟨8, .phase⟩, ⟨9, .phase⟩], none⟩) (v := .pointer (some ⟨g, 37, none⟩)) rfl (by kernel_rfl) (by kernel_rfl) (by kernel_rfl) (fun _ _ _ h => h.elim) (Or.inl ⟨by rfl, ?y44⟩) F7.out.2.2.2.1 ?_
                case y44 =>
                  intro V hV
                  go_simp
                simp only [Act.put, List.setIfInBounds_toArray, List.set_cons_zero, List.set_cons_succ]
                refine wpAnyH_ready (rs := [11]) (by kernel_rfl) (by simp) (AllReadyH.cons (i := 11) (o := ⟨none, Op.store 40 (.tmp 50) (.tmp 48), 0, "law.go:123", #[⟨10, .data⟩, ⟨7, .data⟩, ⟨9, .chain⟩, ⟨0, .phase⟩, ⟨1, .phase⟩, ⟨2, .phase⟩, ⟨3, .phase⟩, ⟨4, .phase⟩, ⟨5, .phase⟩, ⟨6, .phase⟩, ⟨7, .phase⟩, ⟨8, .phase⟩, ⟨9, .phase⟩], none⟩) rfl ?_ AllReadyH.nil)
                · intro K1 hK1
                  refine step_st (by rfl) 40 (.tmp 50) (.tmp 48) rfl g 37 (.slice sn.a sn.n sn.c) 43 _ rfl rfl F7.out.1 (by rw [Pp.length (p := { p with y := sy }) HL.out.2]; omega) (by kernel_rfl) rfl rfl ?_
                  obtain ⟨V8, hv8⟩ : ∃ V, V7.setCell ⟨g, 37, none⟩ (.slice sn.a sn.n sn.c) = V := ⟨_, rfl⟩
                  have F8 : Hid (Copied A g p yes no sy sn V8) := copied_of HL F7.out hv8
                  rw [hv8]
                  clear hv8
                  refine hK1.out _ _ F8.out.2.2.2 ?_
                  clear hK1
                  intro _
                  try simp only [Act.put, List.setIfInBounds_toArray, List.set_cons_zero, List.set_cons_succ]
                  refine wpAnyH_done (by kernel_rfl) ?_ _
                  exact hQ V8 _ _ sy sn F8.out
    · intro K1 hK1
      rw [if_pos (by rfl)]
      have hc : V0.cell? ⟨g, 37, none⟩ = some (.slice p.n.a p.n.n p.n.c) := R0.out.blk.cell (Pp.tail HL.out.2 2)
      go_wp2
      clear hc
      refine hK1.out _ _ hS0.out ?_
      clear hK1
      intro _
      try simp only [Act.put, List.setIfInBounds_toArray, List.set_cons_zero, List.set_cons_succ]
      refine wpAnyH_ready (rs := [0, 4]) (by kernel_rfl) (by simp) (AllReadyH.cons (i := 0) (o := ⟨some 41, Op.buildSlice 40 0 #[], 40, "law.go:123", #[], none⟩) rfl ?_ (AllReadyH.cons (i := 4) (o := ⟨some 45, Op.buildSlice 40 0 #[], 40, "law.go:123", #[], none⟩) rfl ?_ AllReadyH.nil))
      · intro K1 hK1
        refine step_bs0 (by rfl) rfl ?_
        obtain ⟨V3, hv3⟩ : ∃ V, V0.alloc (.cells #[] 9) = V := ⟨_, rfl⟩
        obtain ⟨q3, hq3⟩ : ∃ m, V0.heap.size = m := ⟨_, rfl⟩
        have R3 : Hid (R13 A g p V3 (some (.slice (some ⟨q3, 0, none⟩) 0 0, [])) none) := by rw [← hv3, ← hq3]; exact R0.out.bs
        rw [hv3, hq3]
        clear hv3 hq3
        refine hK1.out _ _ R3.out.keep ?_
        clear hK1
        intro _
        try simp only [Act.put, List.setIfInBounds_toArray, List.set_cons_zero, List.set_cons_succ]
        refine wpAnyH_ready (rs := [3, 4]) (by kernel_rfl) (by simp) (AllReadyH.cons (i := 3) (o := ⟨some 44, Op.call { callee := Callee.builtin Builtin.append, args := #[Operand.tmp 41, Operand.tmp 43], argTypes := #[40, 40] }, 40, "law.go:123", #[⟨0, .data⟩, ⟨2, .data⟩], none⟩) rfl ?_ (AllReadyH.cons (i := 4) (o := ⟨some 45, Op.buildSlice 40 0 #[], 40, "law.go:123", #[], none⟩) rfl ?_ AllReadyH.nil))
        · intro K1 hK1
          obtain ⟨v4, V4, hr4, hR4⟩ := R3.out.app (s := p.y) (l := yes) (strs_keep HY.out.1 R3.out.keep HNE.out.1) HY.out.2.1 HL.out.1 40
          refine step_run (by rfl) (.tmp 41) (.tmp 43) rfl _ p.y rfl rfl hr4 ?_
          have R4 : Hid (R13 A g p V4 (some (v4, yes)) none) := hR4
          clear hr4 hR4
          refine hK1.out _ _ R4.out.keep ?_
          clear hK1
          intro _
          try simp only [Act.put, List.setIfInBounds_toArray, List.set_cons_zero, List.set_cons_succ]
          refine wpAnyH_take (i := 8) (oi := ⟨some 49, Op.fieldAddr 43 (.tmp 2) 5, 0, "law.go:123", #[⟨0, .phase⟩, ⟨1, .phase⟩, ⟨2, .phase⟩, ⟨3, .phase⟩, { on := 4, ground := Ground.textOnly Departure.lateStores }, ⟨5, .phase⟩, ⟨6, .phase⟩, { on := 7, ground := Ground.textOnly Departure.lateStoresUnsure }], none⟩) (v := .pointer (some ⟨g, 36, none⟩)) rfl (by kernel_rfl) (by kernel_rfl) (by kernel_rfl) (fun _ _ _ h => h.elim) (Or.inl ⟨by rfl, ?y45⟩) R4.out.keep ?_
          case y45 =>
            intro V hV
            go_simp
          simp only [Act.put, List.setIfInBounds_toArray, List.set_cons_zero, List.set_cons_succ]
          refine wpAnyH_ready (rs := [4]) (by kernel_rfl) (by simp) (AllReadyH.cons (i := 4) (o := ⟨some 45, Op.buildSlice 40 0 #[], 40, "law.go:123", #[], none⟩) rfl ?_ AllReadyH.nil)
          · intro K1 hK1
            refine step_bs0 (by rfl) rfl ?_
            obtain ⟨V5, hv5⟩ : ∃ V, V4.alloc (.cells #[] 9) = V := ⟨_, rfl⟩
            obtain ⟨q5, hq5⟩ : ∃ m, V4.heap.size = m := ⟨_, rfl⟩
            have R5 : Hid (R13 A g p V5 (some (v4, yes)) (some (.slice (some ⟨q5, 0, none⟩) 0 0, []))) := by rw [← hv5, ← hq5]; exact R4.out.swap.bs.swap
            rw [hv5, hq5]
            clear hv5 hq5
            refine hK1.out _ _ R5.out.keep ?_
            clear hK1
            intro _
            try simp only [Act.put, List.setIfInBounds_toArray, List.set_cons_zero, List.set_cons_succ]
            refine wpAnyH_ready (rs := [7]) (by kernel_rfl) (by simp) (AllReadyH.cons (i := 7) (o := ⟨some 48, Op.call { callee := Callee.builtin Builtin.append, args := #[Operand.tmp 45, Operand.tmp 47], argTypes := #[40, 40] }, 40, "law.go:123", #[⟨4, .data⟩, ⟨6, .data⟩, ⟨3, .chain⟩], none⟩) rfl ?_ AllReadyH.nil)
            · intro K1 hK1
              obtain ⟨v6, V6, hr6, hR6⟩ := R5.out.swap.app (s := p.n) (l := no) (strs_keep HN.out.1 R5.out.keep HNE.out.2) HN.out.2.1 HL.out.1 40
              refine step_run (by rfl) (.tmp 45) (.tmp 47) rfl _ p.n rfl rfl hr6 ?_
              have R6 : Hid (R13 A g p V6 (some (v4, yes)) (some (v6, no))) := hR6.swap
              clear hr6 hR6
              refine hK1.out _ _ R6.out.keep ?_
              clear hK1
              intro _
              try simp only [Act.put, List.setIfInBounds_toArray, List.set_cons_zero, List.set_cons_succ]
              refine wpAnyH_ready (rs := [9]) (by kernel_rfl) (by simp) (AllReadyH.cons (i := 9) (o := ⟨none, Op.store 40 (.tmp 49) (.tmp 44), 0, "law.go:123", #[⟨8, .data⟩, ⟨3, .data⟩, ⟨7, .chain⟩, ⟨0, .phase⟩, ⟨1, .phase⟩, ⟨2, .phase⟩, ⟨3, .phase⟩, { on := 4, ground := Ground.textOnly Departure.lateStores }, ⟨5, .phase⟩, ⟨6, .phase⟩, { on := 7, ground := Ground.textOnly Departure.lateStoresUnsure }], none⟩) rfl ?_ AllReadyH.nil)
              · intro K1 hK1
                obtain ⟨sy, hsy, hty, hyn, hyb⟩ := own_txt R6.out.fst.1 HY.out.2.2.1 (by have := HY.out.2.1; omega)
                obtain ⟨sn, hsn, htn, hnn, hnb⟩ := own_txt R6.out.snd.1 HN.out.2.2.1 (by have := HN.out.2.1; omega)
                subst hsy
                subst hsn
                refine step_st (by rfl) 40 (.tmp 49) (.tmp 44) rfl g 36 (.slice sy.a sy.n sy.c) 43 _ rfl rfl R6.out.blk (by rw [Pp.length HL.out.2]; omega) (by kernel_rfl) rfl rfl ?_
                obtain ⟨V7, hv7⟩ : ∃ V, V6.setCell ⟨g, 36, none⟩ (.slice sy.a sy.n sy.c) = V := ⟨_, rfl⟩
                have F7 : Hid (Half A g p yes no sy sn V7) := half_of HL R6.out.blk R6.out.keep hty htn hyb hnb hv7
                rw [hv7]
                clear hv7 hty htn hyb hnb hyn hnn
                refine hK1.out _ _ F7.out.2.2.2.1 ?_
                clear hK1
                intro _
                try simp only [Act.put, List.setIfInBounds_toArray, List.set_cons_zero, List.set_cons_succ]
                refine wpAnyH_take (i := 10) (oi := ⟨some 50, Op.fieldAddr 43 (.tmp 2) 6, 0, "law.go:123", #[⟨0, .phase⟩, ⟨1, .phase⟩, ⟨2, .phase⟩, ⟨3, .phase⟩, ⟨4, .phase⟩, ⟨5, .phase⟩, ⟨6, .phase⟩, ⟨7, .phase⟩, ⟨8, .phase⟩, ⟨9, .phase⟩], none⟩) (v := .pointer (some ⟨g, 37, none⟩)) rfl (by kernel_rfl) (by kernel_rfl) (by kernel_rfl) (fun _ _ _ h => h.elim) (Or.inl ⟨by rfl, ?y46⟩) F7.out.2.2.2.1 ?_
                case y46 =>
                  intro V hV
                  go_simp
                simp only [Act.put, List.setIfInBounds_toArray, List.set_cons_zero, List.set_cons_succ]
                refine wpAnyH_ready (rs := [11]) (by kernel_rfl) (by simp) (AllReadyH.cons (i := 11) (o := ⟨none, Op.store 40 (.tmp 50) (.tmp 48), 0, "law.go:123", #[⟨10, .data⟩, ⟨7, .data⟩, ⟨9, .chain⟩, ⟨0, .phase⟩, ⟨1, .phase⟩, ⟨2, .phase⟩, ⟨3, .phase⟩, ⟨4, .phase⟩, ⟨5, .phase⟩, ⟨6, .phase⟩, ⟨7, .phase⟩, ⟨8, .phase⟩, ⟨9, .phase⟩], none⟩) rfl ?_ AllReadyH.nil)
                · intro K1 hK1
                  refine step_st (by rfl) 40 (.tmp 50) (.tmp 48) rfl g 37 (.slice sn.a sn.n sn.c) 43 _ rfl rfl F7.out.1 (by rw [Pp.length (p := { p with y := sy }) HL.out.2]; omega) (by kernel_rfl) rfl rfl ?_
                  obtain ⟨V8, hv8⟩ : ∃ V, V7.setCell ⟨g, 37, none⟩ (.slice sn.a sn.n sn.c) = V := ⟨_, rfl⟩
                  have F8 : Hid (Copied A g p yes no sy sn V8) := copied_of HL F7.out hv8
                  rw [hv8]
                  clear hv8
                  refine hK1.out _ _ F8.out.2.2.2 ?_
                  clear hK1
                  intro _
                  try simp only [Act.put, List.setIfInBounds_toArray, List.set_cons_zero, List.set_cons_succ]
                  refine wpAnyH_done (by kernel_rfl) ?_ _
                  exact hQ V8 _ _ sy sn F8.out
        · intro K1 hK1
          refine step_bs0 (by rfl) rfl ?_
          obtain ⟨V4, hv4⟩ : ∃ V, V3.alloc (.cells #[] 9) = V := ⟨_, rfl⟩
          obtain ⟨q4, hq4⟩ : ∃ m, V3.heap.size = m := ⟨_, rfl⟩
          have R4 : Hid (R13 A g p V4 (some (.slice (some ⟨q3, 0, none⟩) 0 0, [])) (some (.slice (some ⟨q4, 0, none⟩) 0 0, []))) := by rw [← hv4, ← hq4]; exact R3.out.swap.bs.swap
          rw [hv4, hq4]
          clear hv4 hq4
          refine hK1.out _ _ R4.out.keep ?_
          clear hK1
          intro _
          try simp only [Act.put, List.setIfInBounds_toArray, List.set_cons_zero, List.set_cons_succ]
          refine wpAnyH_ready (rs := [3]) (by kernel_rfl) (by simp) (AllReadyH.cons (i := 3) (o := ⟨some 44, Op.call { callee := Callee.builtin Builtin.append, args := #[Operand.tmp 41, Operand.tmp 43], argTypes := #[40, 40] }, 40, "law.go:123", #[⟨0, .data⟩, ⟨2, .data⟩], none⟩) rfl ?_ AllReadyH.nil)
          · intro K1 hK1
            obtain ⟨v5, V5, hr5, hR5⟩ := R4.out.app (s := p.y) (l := yes) (strs_keep HY.out.1 R4.out.keep HNE.out.1) HY.out.2.1 HL.out.1 40
            refine step_run (by rfl) (.tmp 41) (.tmp 43) rfl _ p.y rfl rfl hr5 ?_
            have R5 : Hid (R13 A g p V5 (some (v5, yes)) (some (.slice (some ⟨q4, 0, none⟩) 0 0, []))) := hR5
            clear hr5 hR5
            refine hK1.out _ _ R5.out.keep ?_
            clear hK1
            intro _
            try simp only [Act.put, List.setIfInBounds_toArray, List.set_cons_zero, List.set_cons_succ]
            refine wpAnyH_take (i := 8) (oi := ⟨some 49, Op.fieldAddr 43 (.tmp 2) 5, 0, "law.go:123", #[⟨0, .phase⟩, ⟨1, .phase⟩, ⟨2, .phase⟩, ⟨3, .phase⟩, { on := 4, ground := Ground.textOnly Departure.lateStores }, ⟨5, .phase⟩, ⟨6, .phase⟩, { on := 7, ground := Ground.textOnly Departure.lateStoresUnsure }], none⟩) (v := .pointer (some ⟨g, 36, none⟩)) rfl (by kernel_rfl) (by kernel_rfl) (by kernel_rfl) (fun _ _ _ h => h.elim) (Or.inl ⟨by rfl, ?y47⟩) R5.out.keep ?_
            case y47 =>
              intro V hV
              go_simp
            simp only [Act.put, List.setIfInBounds_toArray, List.set_cons_zero, List.set_cons_succ]
            refine wpAnyH_ready (rs := [7]) (by kernel_rfl) (by simp) (AllReadyH.cons (i := 7) (o := ⟨some 48, Op.call { callee := Callee.builtin Builtin.append, args := #[Operand.tmp 45, Operand.tmp 47], argTypes := #[40, 40] }, 40, "law.go:123", #[⟨4, .data⟩, ⟨6, .data⟩, ⟨3, .chain⟩], none⟩) rfl ?_ AllReadyH.nil)
            · intro K1 hK1
              obtain ⟨v6, V6, hr6, hR6⟩ := R5.out.swap.app (s := p.n) (l := no) (strs_keep HN.out.1 R5.out.keep HNE.out.2) HN.out.2.1 HL.out.1 40
              refine step_run (by rfl) (.tmp 45) (.tmp 47) rfl _ p.n rfl rfl hr6 ?_
              have R6 : Hid (R13 A g p V6 (some (v5, yes)) (some (v6, no))) := hR6.swap
              clear hr6 hR6
              refine hK1.out _ _ R6.out.keep ?_
              clear hK1
              intro _
              try simp only [Act.put, List.setIfInBounds_toArray, List.set_cons_zero, List.set_cons_succ]
              refine wpAnyH_ready (rs := [9]) (by kernel_rfl) (by simp) (AllReadyH.cons (i := 9) (o := ⟨none, Op.store 40 (.tmp 49) (.tmp 44), 0, "law.go:123", #[⟨8, .data⟩, ⟨3, .data⟩, ⟨7, .chain⟩, ⟨0, .phase⟩, ⟨1, .phase⟩, ⟨2, .phase⟩, ⟨3, .phase⟩, { on := 4, ground := Ground.textOnly Departure.lateStores }, ⟨5, .phase⟩, ⟨6, .phase⟩, { on := 7, ground := Ground.textOnly Departure.lateStoresUnsure }], none⟩) rfl ?_ AllReadyH.nil)
              · intro K1 hK1
                obtain ⟨sy, hsy, hty, hyn, hyb⟩ := own_txt R6.out.fst.1 HY.out.2.2.1 (by have := HY.out.2.1; omega)
                obtain ⟨sn, hsn, htn, hnn, hnb⟩ := own_txt R6.out.snd.1 HN.out.2.2.1 (by have := HN.out.2.1; omega)
                subst hsy
                subst hsn
                refine step_st (by rfl) 40 (.tmp 49) (.tmp 44) rfl g 36 (.slice sy.a sy.n sy.c) 43 _ rfl rfl R6.out.blk (by rw [Pp.length HL.out.2]; omega) (by kernel_rfl) rfl rfl ?_
                obtain ⟨V7, hv7⟩ : ∃ V, V6.setCell ⟨g, 36, none⟩ (.slice sy.a sy.n sy.c) = V := ⟨_, rfl⟩
                have F7 : Hid (Half A g p yes no sy sn V7) := half_of HL R6.out.blk R6.out.keep hty htn hyb hnb hv7
                rw [hv7]
                clear hv7 hty htn hyb hnb hyn hnn
                refine hK1.out _ _ F7.out.2.2.2.1 ?_
                clear hK1
                intro _
                try simp only [Act.put, List.setIfInBounds_toArray, List.set_cons_zero, List.set_cons_succ]
                refine wpAnyH_take (i := 10) (oi := ⟨some 50, Op.fieldAddr 43 (.tmp 2) 6, 0, "law.go:123", #[⟨0, .phase⟩, ⟨1, .phase⟩, ⟨2, .phase⟩, ⟨3, .phase⟩, ⟨4, .phase⟩, ⟨5, .phase⟩, ⟨6, .phase⟩, ⟨7, .phase⟩, ⟨8, .phase⟩, ⟨9, .phase⟩], none⟩) (v := .pointer (some ⟨g, 37, none⟩)) rfl (by kernel_rfl) (by kernel_rfl) (by kernel_rfl) (fun _ _ _ h => h.elim) (Or.inl ⟨by rfl, ?y48⟩) F7.out.2.2.2.1 ?_
                case y48 =>
                  intro V hV
                  go_simp
                simp only [Act.put, List.setIfInBounds_toArray, List.set_cons_zero, List.set_cons_succ]
                refine wpAnyH_ready (rs := [11]) (by kernel_rfl) (by simp) (AllReadyH.cons (i := 11) (o := ⟨none, Op.store 40 (.tmp 50) (.tmp 48), 0, "law.go:123", #[⟨10, .data⟩, ⟨7, .data⟩, ⟨9, .chain⟩, ⟨0, .phase⟩, ⟨1, .phase⟩, ⟨2, .phase⟩, ⟨3, .phase⟩, ⟨4, .phase⟩, ⟨5, .phase⟩, ⟨6, .phase⟩, ⟨7, .phase⟩, ⟨8, .phase⟩, ⟨9, .phase⟩], none⟩) rfl ?_ AllReadyH.nil)
                · intro K1 hK1
                  refine step_st (by rfl) 40 (.tmp 50) (.tmp 48) rfl g 37 (.slice sn.a sn.n sn.c) 43 _ rfl rfl F7.out.1 (by rw [Pp.length (p := { p with y := sy }) HL.out.2]; omega) (by kernel_rfl) rfl rfl ?_
                  obtain ⟨V8, hv8⟩ : ∃ V, V7.setCell ⟨g, 37, none⟩ (.slice sn.a sn.n sn.c) = V := ⟨_, rfl⟩
                  have F8 : Hid (Copied A g p yes no sy sn V8) := copied_of HL F7.out hv8
                  rw [hv8]
                  clear hv8
                  refine hK1.out _ _ F8.out.2.2.2 ?_
                  clear hK1
                  intro _
                  try simp only [Act.put, List.setIfInBounds_toArray, List.set_cons_zero, List.set_cons_succ]
                  refine wpAnyH_done (by kernel_rfl) ?_ _
                  exact hQ V8 _ _ sy sn F8.out
      · intro K1 hK1
        refine step_bs0 (by rfl) rfl ?_
        obtain ⟨V3, hv3⟩ : ∃ V, V0.alloc (.cells #[] 9) = V := ⟨_, rfl⟩
        obtain ⟨q3, hq3⟩ : ∃ m, V0.heap.size = m := ⟨_, rfl⟩
        have R3 : Hid (R13 A g p V3 none (some (.slice (some ⟨q3, 0, none⟩) 0 0, []))) := by rw [← hv3, ← hq3]; exact R0.out.swap.bs.swap
        rw [hv3, hq3]
        clear hv3 hq3
        refine hK1.out _ _ R3.out.keep ?_
        clear hK1
        intro _
        try simp only [Act.put, List.setIfInBounds_toArray, List.set_cons_zero, List.set_cons_succ]
        refine wpAnyH_ready (rs := [0]) (by kernel_rfl) (by simp) (AllReadyH.cons (i := 0) (o := ⟨some 41, Op.buildSlice 40 0 #[], 40, "law.go:123", #[], none⟩) rfl ?_ AllReadyH.nil)
        · intro K1 hK1
          refine step_bs0 (by rfl) rfl ?_
          obtain ⟨V4, hv4⟩ : ∃ V, V3.alloc (.cells #[] 9) = V := ⟨_, rfl⟩
          obtain ⟨q4, hq4⟩ : ∃ m, V3.heap.size = m := ⟨_, rfl⟩
          have R4 : Hid (R13 A g p V4 (some (.slice (some ⟨q4, 0, none⟩) 0 0, [])) (some (.slice (some ⟨q3, 0, none⟩) 0 0, []))) := by rw [← hv4, ← hq4]; exact R3.out.bs
          rw [hv4, hq4]
          clear hv4 hq4
          refine hK1.out _ _ R4.out.keep ?_
          clear hK1
          intro _
          try simp only [Act.put, List.setIfInBounds_toArray, List.set_cons_zero, List.set_cons_succ]
          refine wpAnyH_ready (rs := [3]) (by kernel_rfl) (by simp) (AllReadyH.cons (i := 3) (o := ⟨some 44, Op.call { callee := Callee.builtin Builtin.append, args := #[Operand.tmp 41, Operand.tmp 43], argTypes := #[40, 40] }, 40, "law.go:123", #[⟨0, .data⟩, ⟨2, .data⟩], none⟩) rfl ?_ AllReadyH.nil)
          · intro K1 hK1
            obtain ⟨v5, V5, hr5, hR5⟩ := R4.out.app (s := p.y) (l := yes) (strs_keep HY.out.1 R4.out.keep HNE.out.1) HY.out.2.1 HL.out.1 40
            refine step_run (by rfl) (.tmp 41) (.tmp 43) rfl _ p.y rfl rfl hr5 ?_
            have R5 : Hid (R13 A g p V5 (some (v5, yes)) (some (.slice (some ⟨q3, 0, none⟩) 0 0, []))) := hR5
            clear hr5 hR5
            refine hK1.out _ _ R5.out.keep ?_
            clear hK1
            intro _
            try simp only [Act.put, List.setIfInBounds_toArray, List.set_cons_zero, List.set_cons_succ]
            refine wpAnyH_take (i := 8) (oi := ⟨some 49, Op.fieldAddr 43 (.tmp 2) 5, 0, "law.go:123", #[⟨0, .phase⟩, ⟨1, .phase⟩, ⟨2, .phase⟩, ⟨3, .phase⟩, { on := 4, ground := Ground.textOnly Departure.lateStores }, ⟨5, .phase⟩, ⟨6, .phase⟩, { on := 7, ground := Ground.textOnly Departure.lateStoresUnsure }], none⟩) (v := .pointer (some ⟨g, 36, none⟩)) rfl (by kernel_rfl) (by kernel_rfl) (by kernel_rfl) (fun _ _ _ h => h.elim) (Or.inl ⟨by rfl, ?y49⟩) R5.out.keep ?_
            case y49 =>
              intro V hV
              go_simp
            simp only [Act.put, List.setIfInBounds_toArray, List.set_cons_zero, List.set_cons_succ]
            refine wpAnyH_ready (rs := [7]) (by kernel_rfl) (by simp) (AllReadyH.cons (i := 7) (o := ⟨some 48, Op.call { callee := Callee.builtin Builtin.append, args := #[Operand.tmp 45, Operand.tmp 47], argTypes := #[40, 40] }, 40, "law.go:123", #[⟨4, .data⟩, ⟨6, .data⟩, ⟨3, .chain⟩], none⟩) rfl ?_ AllReadyH.nil)
            · intro K1 hK1
              obtain ⟨v6, V6, hr6, hR6⟩ := R5.out.swap.app (s := p.n) (l := no) (strs_keep HN.out.1 R5.out.keep HNE.out.2) HN.out.2.1 HL.out.1 40
              refine step_run (by rfl) (.tmp 45) (.tmp 47) rfl _ p.n rfl rfl hr6 ?_
              have R6 : Hid (R13 A g p V6 (some (v5, yes)) (some (v6, no))) := hR6.swap
              clear hr6 hR6
              refine hK1.out _ _ R6.out.keep ?_
              clear hK1
              intro _
              try simp only [Act.put, List.setIfInBounds_toArray, List.set_cons_zero, List.set_cons_succ]
              refine wpAnyH_ready (rs := [9]) (by kernel_rfl) (by simp) (AllReadyH.cons (i := 9) (o := ⟨none, Op.store 40 (.tmp 49) (.tmp 44), 0, "law.go:123", #[⟨8, .data⟩, ⟨3, .data⟩, ⟨7, .chain⟩, ⟨0, .phase⟩, ⟨1, .phase⟩, ⟨2, .phase⟩, ⟨3, .phase⟩, { on := 4, ground := Ground.textOnly Departure.lateStores }, ⟨5, .phase⟩, ⟨6, .phase⟩, { on := 7, ground := Ground.textOnly Departure.lateStoresUnsure }], none⟩) rfl ?_ AllReadyH.nil)
              · intro K1 hK1
                obtain ⟨sy, hsy, hty, hyn, hyb⟩ := own_txt R6.out.fst.1 HY.out.2.2.1 (by have := HY.out.2.1; omega)
                obtain ⟨sn, hsn, htn, hnn, hnb⟩ := own_txt R6.out.snd.1 HN.out.2.2.1 (by have := HN.out.2.1; omega)
                subst hsy
                subst hsn
                refine step_st (by rfl) 40 (.tmp 49) (.tmp 44) rfl g 36 (.slice sy.a sy.n sy.c) 43 _ rfl rfl R6.out.blk (by rw [Pp.length HL.out.2]; omega) (by kernel_rfl) rfl rfl ?_
                obtain ⟨V7, hv7⟩ : ∃ V, V6.setCell ⟨g, 36, none⟩ (.slice sy.a sy.n sy.c) = V := ⟨_, rfl⟩
                have F7 : Hid (Half A g p yes no sy sn V7) := half_of HL R6.out.blk R6.out.keep hty htn hyb hnb hv7
                rw [hv7]
                clear hv7 hty htn hyb hnb hyn hnn
                refine hK1.out _ _ F7.out.2.2.2.1 ?_
                clear hK1
                intro _
                try simp only [Act.put, List.setIfInBounds_toArray, List.set_cons_zero, List.set_cons_succ]
                refine wpAnyH_take (i := 10) (oi := ⟨some 50, Op.fieldAddr 43 (.tmp 2) 6, 0, "law.go:123", #[⟨0, .phase⟩, ⟨1, .phase⟩, ⟨2, .phase⟩, ⟨3, .phase⟩, ⟨4, .phase⟩, ⟨5, .phase⟩, ⟨6, .phase⟩, ⟨7, .phase⟩, ⟨8, .phase⟩, ⟨9, .phase⟩], none⟩) (v := .pointer (some ⟨g, 37, none⟩)) rfl (by kernel_rfl) (by kernel_rfl) (by kernel_rfl) (fun _ _ _ h => h.elim) (Or.inl ⟨by rfl, ?y50⟩) F7.out.2.2.2.1 ?_
                case y50 =>
                  intro V hV
                  go_simp
                simp only [Act.put, List.setIfInBounds_toArray, List.set_cons_zero, List.set_cons_succ]
                refine wpAnyH_ready (rs := [11]) (by kernel_rfl) (by simp) (AllReadyH.cons (i := 11) (o := ⟨none, Op.store 40 (.tmp 50) (.tmp 48), 0, "law.go:123", #[⟨10, .data⟩, ⟨7, .data⟩, ⟨9, .chain⟩, ⟨0, .phase⟩, ⟨1, .phase⟩, ⟨2, .phase⟩, ⟨3, .phase⟩, ⟨4, .phase⟩, ⟨5, .phase⟩, ⟨6, .phase⟩, ⟨7, .phase⟩, ⟨8, .phase⟩, ⟨9, .phase⟩], none⟩) rfl ?_ AllReadyH.nil)
                · intro K1 hK1
                  refine step_st (by rfl) 40 (.tmp 50) (.tmp 48) rfl g 37 (.slice sn.a sn.n sn.c) 43 _ rfl rfl F7.out.1 (by rw [Pp.length (p := { p with y := sy }) HL.out.2]; omega) (by kernel_rfl) rfl rfl ?_
                  obtain ⟨V8, hv8⟩ : ∃ V, V7.setCell ⟨g, 37, none⟩ (.slice sn.a sn.n sn.c) = V := ⟨_, rfl⟩
                  have F8 : Hid (Copied A g p yes no sy sn V8) := copied_of HL F7.out hv8
                  rw [hv8]
                  clear hv8
                  refine hK1.out _ _ F8.out.2.2.2 ?_
                  clear hK1
                  intro _
                  try simp only [Act.put, List.setIfInBounds_toArray, List.set_cons_zero, List.set_cons_succ]
                  refine wpAnyH_done (by kernel_rfl) ?_ _
                  exact hQ V8 _ _ sy sn F8.out
  · intro K1 hK1
    refine step_bs0 (by rfl) rfl ?_
    obtain ⟨V1, hv1⟩ : ∃ V, V0.alloc (.cells #[] 9) = V := ⟨_, rfl⟩
    obtain ⟨q1, hq1⟩ : ∃ m, V0.heap.size = m := ⟨_, rfl⟩
    have R1 : Hid (R13 A g p V1 none (some (.slice (some ⟨q1, 0, none⟩) 0 0, []))) := by rw [← hv1, ← hq1]; exact R0.out.swap.bs.swap
    rw [hv1, hq1]
    clear hv1 hq1
    refine hK1.out _ _ R1.out.keep ?_
    clear hK1
    intro _
    try simp only [Act.put, List.setIfInBounds_toArray, List.set_cons_zero, List.set_cons_succ]
    refine wpAnyH_ready (rs := [0, 2, 6]) (by kernel_rfl) (by simp) (AllReadyH.cons (i := 0) (o := ⟨some 41, Op.buildSlice 40 0 #[], 40, "law.go:123", #[], none⟩) rfl ?_ (AllReadyH.cons (i := 2) (o := ⟨some 43, Op.load 40 (.tmp 42), 40, "law.go:123", #[⟨1, .data⟩], none⟩) rfl ?_ (AllReadyH.cons (i := 6) (o := ⟨some 47, Op.load 40 (.tmp 46), 40, "law.go:123", #[⟨5, .data⟩], none⟩) rfl ?_ AllReadyH.nil)))
    · intro K1 hK1
      refine step_bs0 (by rfl) rfl ?_
      obtain ⟨V2, hv2⟩ : ∃ V, V1.alloc (.cells #[] 9) = V := ⟨_, rfl⟩
      obtain ⟨q2, hq2⟩ : ∃ m, V1.heap.size = m := ⟨_, rfl⟩
      have R2 : Hid (R13 A g p V2 (some (.slice (some ⟨q2, 0, none⟩) 0 0, [])) (some (.slice (some ⟨q1, 0, none⟩) 0 0, []))) := by rw [← hv2, ← hq2]; exact R1.out.bs
      rw [hv2, hq2]
      clear hv2 hq2
      refine hK1.out _ _ R2.out.keep ?_
      clear hK1
      intro _
      try simp only [Act.put, List.setIfInBounds_toArray, List.set_cons_zero, List.set_cons_succ]
      refine wpAnyH_ready (rs := [2, 6]) (by kernel_rfl) (by simp) (AllReadyH.cons (i := 2) (o := ⟨some 43, Op.load 40 (.tmp 42), 40, "law.go:123", #[⟨1, .data⟩], none⟩) rfl ?_ (AllReadyH.cons (i := 6) (o := ⟨some 47, Op.load 40 (.tmp 46), 40, "law.go:123", #[⟨5, .data⟩], none⟩) rfl ?_ AllReadyH.nil))
      · intro K1 hK1
        rw [if_pos (by rfl)]
        have hc : V2.cell? ⟨g, 36, none⟩ = some (.slice p.y.a p.y.n p.y.c) := R2.out.blk.cell (Pp.tail HL.out.2 1)
        go_wp2
        clear hc
        refine hK1.out _ _ R2.out.keep ?_
        clear hK1
        intro _
        try simp only [Act.put, List.setIfInBounds_toArray, List.set_cons_zero, List.set_cons_succ]
        refine wpAnyH_ready (rs := [3, 6]) (by kernel_rfl) (by simp) (AllReadyH.cons (i := 3) (o := ⟨some 44, Op.call { callee := Callee.builtin Builtin.append, args := #[Operand.tmp 41, Operand.tmp 43], argTypes := #[40, 40] }, 40, "law.go:123", #[⟨0, .data⟩, ⟨2, .data⟩], none⟩) rfl ?_ (AllReadyH.cons (i := 6) (o := ⟨some 47, Op.load 40 (.tmp 46), 40, "law.go:123", #[⟨5, .data⟩], none⟩) rfl ?_ AllReadyH.nil))
        · intro K1 hK1
          obtain ⟨v4, V4, hr4, hR4⟩ := R2.out.app (s := p.y) (l := yes) (strs_keep HY.out.1 R2.out.keep HNE.out.1) HY.out.2.1 HL.out.1 40
          refine step_run (by rfl) (.tmp 41) (.tmp 43) rfl _ p.y rfl rfl hr4 ?_
          have R4 : Hid (R13 A g p V4 (some (v4, yes)) (some (.slice (some ⟨q1, 0, none⟩) 0 0, []))) := hR4
          clear hr4 hR4
          refine hK1.out _ _ R4.out.keep ?_
          clear hK1
          intro _
          try simp only [Act.put, List.setIfInBounds_toArray, List.set_cons_zero, List.set_cons_succ]
          refine wpAnyH_ready (rs := [6]) (by kernel_rfl) (by simp) (AllReadyH.cons (i := 6) (o := ⟨some 47, Op.load 40 (.tmp 46), 40, "law.go:123", #[⟨5, .data⟩], none⟩) rfl ?_ AllReadyH.nil)
          · intro K1 hK1
            rw [if_pos (by rfl)]
            have hc : V4.cell? ⟨g, 37, none⟩ = some (.slice p.n.a p.n.n p.n.c) := R4.out.blk.cell (Pp.tail HL.out.2 2)
            go_wp2
            clear hc
            refine hK1.out _ _ R4.out.keep ?_
            clear hK1
            intro _
            try simp only [Act.put, List.setIfInBounds_toArray, List.set_cons_zero, List.set_cons_succ]
            refine wpAnyH_take (i := 8) (oi := ⟨some 49, Op.fieldAddr 43 (.tmp 2) 5, 0, "law.go:123", #[⟨0, .phase⟩, ⟨1, .phase⟩, ⟨2, .phase⟩, ⟨3, .phase⟩, { on := 4, ground := Ground.textOnly Departure.lateStores }, ⟨5, .phase⟩, ⟨6, .phase⟩, { on := 7, ground := Ground.textOnly Departure.lateStoresUnsure }], none⟩) (v := .pointer (some ⟨g, 36, none⟩)) rfl (by kernel_rfl) (by kernel_rfl) (by kernel_rfl) (fun _ _ _ h => h.elim) (Or.inl ⟨by rfl, ?y51⟩) R4.out.keep ?_
            case y51 =>
              intro V hV
              go_simp
            simp only [Act.put, List.setIfInBounds_toArray, List.set_cons_zero, List.set_cons_succ]
            refine wpAnyH_ready (rs := [7]) (by kernel_rfl) (by simp) (AllReadyH.cons (i := 7) (o := ⟨some 48, Op.call { callee := Callee.builtin Builtin.append, args := #[Operand.tmp 45, Operand.tmp 47], argTypes := #[40, 40] }, 40, "law.go:123", #[⟨4, .data⟩, ⟨6, .data⟩, ⟨3, .chain⟩], none⟩) rfl ?_ AllReadyH.nil)
            · intro K1 hK1
              obtain ⟨v6, V6, hr6, hR6⟩ := R4.out.swap.app (s := p.n) (l := no) (strs_keep HN.out.1 R4.out.keep HNE.out.2) HN.out.2.1 HL.out.1 40
              refine step_run (by rfl) (.tmp 45) (.tmp 47) rfl _ p.n rfl rfl hr6 ?_
              have R6 : Hid (R13 A g p V6 (some (v4, yes)) (some (v6, no))) := hR6.swap
              clear hr6 hR6
              refine hK1.out _ _ R6.out.keep ?_
              clear hK1
              intro _
              try simp only [Act.put, List.setIfInBounds_toArray, List.set_cons_zero, List.set_cons_succ]
              refine wpAnyH_ready (rs := [9]) (by kernel_rfl) (by simp) (AllReadyH.cons (i := 9) (o := ⟨none, Op.store 40 (.tmp 49) (.tmp 44), 0, "law.go:123", #[⟨8, .data⟩, ⟨3, .data⟩, ⟨7, .chain⟩, ⟨0, .phase⟩, ⟨1, .phase⟩, ⟨2, .phase⟩, ⟨3, .phase⟩, { on := 4, ground := Ground.textOnly Departure.lateStores }, ⟨5, .phase⟩, ⟨6, .phase⟩, { on := 7, ground := Ground.textOnly Departure.lateStoresUnsure }], none⟩) rfl ?_ AllReadyH.nil)
              · intro K1 hK1
                obtain ⟨sy, hsy, hty, hyn, hyb⟩ := own_txt R6.out.fst.1 HY.out.2.2.1 (by have := HY.out.2.1; omega)
                obtain ⟨sn, hsn, htn, hnn, hnb⟩ := own_txt R6.out.snd.1 HN.out.2.2.1 (by have := HN.out.2.1; omega)
                subst hsy
                subst hsn
                refine step_st (by rfl) 40 (.tmp 49) (.tmp 44) rfl g 36 (.slice sy.a sy.n sy.c) 43 _ rfl rfl R6.out.blk (by rw [Pp.length HL.out.2]; omega) (by kernel_rfl) rfl rfl ?_
                obtain ⟨V7, hv7⟩ : ∃ V, V6.setCell ⟨g, 36, none⟩ (.slice sy.a sy.n sy.c) = V := ⟨_, rfl⟩
                have F7 : Hid (Half A g p yes no sy sn V7) := half_of HL R6.out.blk R6.out.keep hty htn hyb hnb hv7
                rw [hv7]
                clear hv7 hty htn hyb hnb hyn hnn
                refine hK1.out _ _ F7.out.2.2.2.1 ?_
                clear hK1
                intro _
                try simp only [Act.put, List.setIfInBounds_toArray, List.set_cons_zero, List.set_cons_succ]
                refine wpAnyH_take (i := 10) (oi := ⟨some 50, Op.fieldAddr 43 (.tmp 2) 6, 0, "law.go:123", #[⟨0, .phase⟩, ⟨1, .phase⟩, ⟨2, .phase⟩, ⟨3, .phase⟩, ⟨4, .phase⟩, ⟨5, .phase⟩, ⟨6, .phase⟩, ⟨7, .phase⟩, ⟨8, .phase⟩, ⟨9, .phase⟩], none⟩) (v := .pointer (some ⟨g, 37, none⟩)) rfl (by kernel_rfl) (by kernel_rfl) (by kernel_rfl) (fun _ _ _ h => h.elim) (Or.inl ⟨by rfl, ?y52⟩) F7.out.2.2.2.1 ?_
                case y52 =>
                  intro V hV
                  go_simp
                simp only [Act.put, List.setIfInBounds_toArray, List.set_cons_zero, List.set_cons_succ]
                refine wpAnyH_ready (rs := [11]) (by kernel_rfl) (by simp) (AllReadyH.cons (i := 11) (o := ⟨none, Op.store 40 (.tmp 50) (.tmp 48), 0, "law.go:123", #[⟨10, .data⟩, ⟨7, .data⟩, ⟨9, .chain⟩, ⟨0, .phase⟩, ⟨1, .phase⟩, ⟨2, .phase⟩, ⟨3, .phase⟩, ⟨4, .phase⟩, ⟨5, .phase⟩, ⟨6, .phase⟩, ⟨7, .phase⟩, ⟨8, .phase⟩, ⟨9, .phase⟩], none⟩) rfl ?_ AllReadyH.nil)
                · intro K1 hK1
                  refine step_st (by rfl) 40 (.tmp 50) (.tmp 48) rfl g 37 (.slice sn.a sn.n sn.c) 43 _ rfl rfl F7.out.1 (by rw [Pp.length (p := { p with y := sy }) HL.out.2]; omega) (by kernel_rfl) rfl rfl ?_
                  obtain ⟨V8, hv8⟩ : ∃ V, V7.setCell ⟨g, 37, none⟩ (.slice sn.a sn.n sn.c) = V := ⟨_, rfl⟩
                  have F8 : Hid (Copied A g p yes no sy sn V8) := copied_of HL F7.out hv8
                  rw [hv8]
                  clear hv8
                  refine hK1.out _ _ F8.out.2.2.2 ?_
                  clear hK1
                  intro _
                  try simp only [Act.put, List.setIfInBounds_toArray, List.set_cons_zero, List.set_cons_succ]
                  refine wpAnyH_done (by kernel_rfl) ?_ _
                  exact hQ V8 _ _ sy sn F8.out
        · intro K1 hK1
          rw [if_pos (by rfl)]
          have hc : V2.cell? ⟨g, 37, none⟩ = some (.slice p.n.a p.n.n p.n.c) := R2.out.blk.cell (Pp.tail HL.out.2 2)
          go_wp2
          clear hc
          refine hK1.out _ _ R2.out.keep ?_
          clear hK1
          intro _
          try simp only [Act.put, List.setIfInBounds_toArray, List.set_cons_zero, List.set_cons_succ]
          refine wpAnyH_ready (rs := [3]) (by kernel_rfl) (by simp) (AllReadyH.cons (i := 3) (o := ⟨some 44, Op.call { callee := Callee.builtin Builtin.append, args := #[Operand.tmp 41, Operand.tmp 43], argTypes := #[40, 40] }, 40, "law.go:123", #[⟨0, .data⟩, ⟨2, .data⟩], none⟩) rfl ?_ AllReadyH.nil)
          · intro K1 hK1
            obtain ⟨v5, V5, hr5, hR5⟩ := R2.out.app (s := p.y) (l := yes) (strs_keep HY.out.1 R2.out.keep HNE.out.1) HY.out.2.1 HL.out.1 40
            refine step_run (by rfl) (.tmp 41) (.tmp 43) rfl _ p.y rfl rfl hr5 ?_
            have R5 : Hid (R13 A g p V5 (some (v5, yes)) (some (.slice (some ⟨q1, 0, none⟩) 0 0, []))) := hR5
            clear hr5 hR5
            refine hK1.out _ _ R5.out.keep ?_
            clear hK1
            intro _
            try simp only [Act.put, List.setIfInBounds_toArray, List.set_cons_zero, List.set_cons_succ]
            refine wpAnyH_take (i := 8) (oi := ⟨some 49, Op.fieldAddr 43 (.tmp 2) 5, 0, "law.go:123", #[⟨0, .phase⟩, ⟨1, .phase⟩, ⟨2, .phase⟩, ⟨3, .phase⟩, { on := 4, ground := Ground.textOnly Departure.lateStores }, ⟨5, .phase⟩, ⟨6, .phase⟩, { on := 7, ground := Ground.textOnly Departure.lateStoresUnsure }], none⟩) (v := .pointer (some ⟨g, 36, none⟩)) rfl (by kernel_rfl) (by kernel_rfl) (by kernel_rfl) (fun _ _ _ h => h.elim) (Or.inl ⟨by rfl, ?y53⟩) R5.out.keep ?_
            case y53 =>
              intro V hV
              go_simp
            simp only [Act.put, List.setIfInBounds_toArray, List.set_cons_zero, List.set_cons_succ]
            refine wpAnyH_ready (rs := [7]) (by kernel_rfl) (by simp) (AllReadyH.cons (i := 7) (o := ⟨some 48, Op.call { callee := Callee.builtin Builtin.append, args := #[Operand.tmp 45, Operand.tmp 47], argTypes := #[40, 40] }, 40, "law.go:123", #[⟨4, .data⟩, ⟨6, .data⟩, ⟨3, .chain⟩], none⟩) rfl ?_ AllReadyH.nil)
            · intro K1 hK1
              obtain ⟨v6, V6, hr6, hR6⟩ := R5.out.swap.app (s := p.n) (l := no) (strs_keep HN.out.1 R5.out.keep HNE.out.2) HN.out.2.1 HL.out.1 40
              refine step_run (by rfl) (.tmp 45) (.tmp 47) rfl _ p.n rfl rfl hr6 ?_
              have R6 : Hid (R13 A g p V6 (some (v5, yes)) (some (v6, no))) := hR6.swap
              clear hr6 hR6
              refine hK1.out _ _ R6.out.keep ?_
              clear hK1
              intro _
              try simp only [Act.put, List.setIfInBounds_toArray, List.set_cons_zero, List.set_cons_succ]
              refine wpAnyH_ready (rs := [9]) (by kernel_rfl) (by simp) (AllReadyH.cons (i := 9) (o := ⟨none, Op.store 40 (.tmp 49) (.tmp 44), 0, "law.go:123", #[⟨8, .data⟩, ⟨3, .data⟩, ⟨7, .chain⟩, ⟨0, .phase⟩, ⟨1, .phase⟩, ⟨2, .phase⟩, ⟨3, .phase⟩, { on := 4, ground := Ground.textOnly Departure.lateStores }, ⟨5, .phase⟩, ⟨6, .phase⟩, { on := 7, ground := Ground.textOnly Departure.lateStoresUnsure }], none⟩) rfl ?_ AllReadyH.nil)
              · intro K1 hK1
                obtain ⟨sy, hsy, hty, hyn, hyb⟩ := own_txt R6.out.fst.1 HY.out.2.2.1 (by have := HY.out.2.1; omega)
                obtain ⟨sn, hsn, htn, hnn, hnb⟩ := own_txt R6.out.snd.1 HN.out.2.2.1 (by have := HN.out.2.1; omega)
                subst hsy
                subst hsn
                refine step_st (by rfl) 40 (.tmp 49) (.tmp 44) rfl g 36 (.slice sy.a sy.n sy.c) 43 _ rfl rfl R6.out.blk (by rw [Pp.length HL.out.2]; omega) (by kernel_rfl) rfl rfl ?_
                obtain ⟨V7, hv7⟩ : ∃ V, V6.setCell ⟨g, 36, none⟩ (.slice sy.a sy.n sy.c) = V := ⟨_, rfl⟩
                have F7 : Hid (Half A g p yes no sy sn V7) := half_of HL R6.out.blk R6.out.keep hty htn hyb hnb hv7
                rw [hv7]
                clear hv7 hty htn hyb hnb hyn hnn
                refine hK1.out _ _ F7.out.2.2.2.1 ?_
                clear hK1
                intro _
                try simp only [Act.put, List.setIfInBounds_toArray, List.set_cons_zero, List.set_cons_succ]
                refine wpAnyH_take (i := 10) (oi := ⟨some 50, Op.fieldAddr 43 (.tmp 2) 6, 0, "law.go:123", #[⟨0, .phase⟩, ⟨1, .phase⟩, ⟨2, .phase⟩, ⟨3, .phase⟩, ⟨4, .phase⟩, ⟨5, .phase⟩, ⟨6, .phase⟩, ⟨7, .phase⟩, ⟨8, .phase⟩, ⟨9, .phase⟩], none⟩) (v := .pointer (some ⟨g, 37, none⟩)) rfl (by kernel_rfl) (by kernel_rfl) (by kernel_rfl) (fun _ _ _ h => h.elim) (Or.inl ⟨by rfl, ?y54⟩) F7.out.2.2.2.1 ?_
                case y54 =>
                  intro V hV
                  go_simp
                simp only [Act.put, List.setIfInBounds_toArray, List.set_cons_zero, List.set_cons_succ]
                refine wpAnyH_ready (rs := [11]) (by kernel_rfl) (by simp) (AllReadyH.cons (i := 11) (o := ⟨none, Op.store 40 (.tmp 50) (.tmp 48), 0, "law.go:123", #[⟨10, .data⟩, ⟨7, .data⟩, ⟨9, .chain⟩, ⟨0, .phase⟩, ⟨1, .phase⟩, ⟨2, .phase⟩, ⟨3, .phase⟩, ⟨4, .phase⟩, ⟨5, .phase⟩, ⟨6, .phase⟩, ⟨7, .phase⟩, ⟨8, .phase⟩, ⟨9, .phase⟩], none⟩) rfl ?_ AllReadyH.nil)
                · intro K1 hK1
                  refine step_st (by rfl) 40 (.tmp 50) (.tmp 48) rfl g 37 (.slice sn.a sn.n sn.c) 43 _ rfl rfl F7.out.1 (by rw [Pp.length (p := { p with y := sy }) HL.out.2]; omega) (by kernel_rfl) rfl rfl ?_
                  obtain ⟨V8, hv8⟩ : ∃ V, V7.setCell ⟨g, 37, none⟩ (.slice sn.a sn.n sn.c) = V := ⟨_, rfl⟩
                  have F8 : Hid (Copied A g p yes no sy sn V8) := copied_of HL F7.out hv8
                  rw [hv8]
                  clear hv8
                  refine hK1.out _ _ F8.out.2.2.2 ?_
                  clear hK1
                  intro _
                  try simp only [Act.put, List.setIfInBounds_toArray, List.set_cons_zero, List.set_cons_succ]
                  refine wpAnyH_done (by kernel_rfl) ?_ _
                  exact hQ V8 _ _ sy sn F8.out
      · intro K1 hK1
        rw [if_pos (by rfl)]
        have hc : V2.cell? ⟨g, 37, none⟩ = some (.slice p.n.a p.n.n p.n.c) := R2.out.blk.cell (Pp.tail HL.out.2 2)
        go_wp2
        clear hc
        refine hK1.out _ _ R2.out.keep ?_
        clear hK1
        intro _
        try simp only [Act.put, List.setIfInBounds_toArray, List.set_cons_zero, List.set_cons_succ]
        refine wpAnyH_ready (rs := [2]) (by kernel_rfl) (by simp) (AllReadyH.cons (i := 2) (o := ⟨some 43, Op.load 40 (.tmp 42), 40, "law.go:123", #[⟨1, .data⟩], none⟩) rfl ?_ AllReadyH.nil)
        · intro K1 hK1
          rw [if_pos (by rfl)]
          have hc : V2.cell? ⟨g, 36, none⟩ = some (.slice p.y.a p.y.n p.y.c) := R2.out.blk.cell (Pp.tail HL.out.2 1)
          go_wp2
          clear hc
          refine hK1.out _ _ R2.out.keep ?_
          clear hK1
          intro _
          try simp only [Act.put, List.setIfInBounds_toArray, List.set_cons_zero, List.set_cons_succ]
          refine wpAnyH_ready (rs := [3]) (by kernel_rfl) (by simp) (AllReadyH.cons (i := 3) (o := ⟨some 44, Op.call { callee := Callee.builtin Builtin.append, args := #[Operand.tmp 41, Operand.tmp 43], argTypes := #[40, 40] }, 40, "law.go:123", #[⟨0, .data⟩, ⟨2, .data⟩], none⟩) rfl ?_ AllReadyH.nil)
          · intro K1 hK1
            obtain ⟨v5, V5, hr5, hR5⟩ := R2.out.app (s := p.y) (l := yes) (strs_keep HY.out.1 R2.out.keep HNE.out.1) HY.out.2.1 HL.out.1 40
            refine step_run (by rfl) (.tmp 41) (.tmp 43) rfl _ p.y rfl rfl hr5 ?_
            have R5 : Hid (R13 A g p V5 (some (v5, yes)) (some (.slice (some ⟨q1, 0, none⟩) 0 0, []))) := hR5
            clear hr5 hR5
            refine hK1.out _ _ R5.out.keep ?_
            clear hK1
            intro _
            try simp only [Act.put, List.setIfInBounds_toArray, List.set_cons_zero, List.set_cons_succ]
            refine wpAnyH_take (i := 8) (oi := ⟨some 49, Op.fieldAddr 43 (.tmp 2) 5, 0, "law.go:123", #[⟨0, .phase⟩, ⟨1, .phase⟩, ⟨2, .phase⟩, ⟨3, .phase⟩, { on := 4, ground := Ground.textOnly Departure.lateStores }, ⟨5, .phase⟩, ⟨6, .phase⟩, { on := 7, ground := Ground.textOnly Departure.lateStoresUnsure }], none⟩) (v := .pointer (some ⟨g, 36, none⟩)) rfl (by kernel_rfl) (by kernel_rfl) (by kernel_rfl) (fun _ _ _ h => h.elim) (Or.inl ⟨by rfl, ?y55⟩) R5.out.keep ?_
            case y55 =>
              intro V hV
              go_simp
            simp only [Act.put, List.setIfInBounds_toArray, List.set_cons_zero, List.set_cons_succ]
            refine wpAnyH_ready (rs := [7]) (by kernel_rfl) (by simp) (AllReadyH.cons (i := 7) (o := ⟨some 48, Op.call { callee := Callee.builtin Builtin.append, args := #[Operand.tmp 45, Operand.tmp 47], argTypes := #[40, 40] }, 40, "law.go:123", #[⟨4, .data⟩, ⟨6, .data⟩, ⟨3, .chain⟩], none⟩) rfl ?_ AllReadyH.nil)
            · intro K1 hK1
              obtain ⟨v6, V6, hr6, hR6⟩ := R5.out.swap.app (s := p.n) (l := no) (strs_keep HN.out.1 R5.out.keep HNE.out.2) HN.out.2.1 HL.out.1 40
              refine step_run (by rfl) (.tmp 45) (.tmp 47) rfl _ p.n rfl rfl hr6 ?_
              have R6 : Hid (R13 A g p V6 (some (v5, yes)) (some (v6, no))) := hR6.swap
              clear hr6 hR6
              refine hK1.out _ _ R6.out.keep ?_
              clear hK1
              intro _
              try simp only [Act.put, List.setIfInBounds_toArray, List.set_cons_zero, List.set_cons_succ]
              refine wpAnyH_ready (rs := [9]) (by kernel_rfl) (by simp) (AllReadyH.cons (i := 9) (o := ⟨none, Op.store 40 (.tmp 49) (.tmp 44), 0, "law.go:123", #[⟨8, .data⟩, ⟨3, .data⟩, ⟨7, .chain⟩, ⟨0, .phase⟩, ⟨1, .phase⟩, ⟨2, .phase⟩, ⟨3, .phase⟩, { on := 4, ground := Ground.textOnly Departure.lateStores }, ⟨5, .phase⟩, ⟨6, .phase⟩, { on := 7, ground := Ground.textOnly Departure.lateStoresUnsure }], none⟩) rfl ?_ AllReadyH.nil)
              · intro K1 hK1
                obtain ⟨sy, hsy, hty, hyn, hyb⟩ := own_txt R6.out.fst.1 HY.out.2.2.1 (by have := HY.out.2.1; omega)
                obtain ⟨sn, hsn, htn, hnn, hnb⟩ := own_txt R6.out.snd.1 HN.out.2.2.1 (by have := HN.out.2.1; omega)
                subst hsy
                subst hsn
                refine step_st (by rfl) 40 (.tmp 49) (.tmp 44) rfl g 36 (.slice sy.a sy.n sy.c) 43 _ rfl rfl R6.out.blk (by rw [Pp.length HL.out.2]; omega) (by kernel_rfl) rfl rfl ?_
                obtain ⟨V7, hv7⟩ : ∃ V, V6.setCell ⟨g, 36, none⟩ (.slice sy.a sy.n sy.c) = V := ⟨_, rfl⟩
                have F7 : Hid (Half A g p yes no sy sn V7) := half_of HL R6.out.blk R6.out.keep hty htn hyb hnb hv7
                rw [hv7]
                clear hv7 hty htn hyb hnb hyn hnn
                refine hK1.out _ _ F7.out.2.2.2.1 ?_
                clear hK1
                intro _
                try simp only [Act.put, List.setIfInBounds_toArray, List.set_cons_zero, List.set_cons_succ]
                refine wpAnyH_take (i := 10) (oi := ⟨some 50, Op.fieldAddr 43 (.tmp 2) 6, 0, "law.go:123", #[⟨0, .phase⟩, ⟨1, .phase⟩, ⟨2, .phase⟩, ⟨3, .phase⟩, ⟨4, .phase⟩, ⟨5, .phase⟩, ⟨6, .phase⟩, ⟨7, .phase⟩, ⟨8, .phase⟩, ⟨9, .phase⟩], none⟩) (v := .pointer (some ⟨g, 37, none⟩)) rfl (by kernel_rfl) (by kernel_rfl) (by kernel_rfl) (fun _ _ _ h => h.elim) (Or.inl ⟨by rfl, ?y56⟩) F7.out.2.2.2.1 ?_
                case y56 =>
                  intro V hV
                  go_simp
                simp only [Act.put, List.setIfInBounds_toArray, List.set_cons_zero, List.set_cons_succ]
                refine wpAnyH_ready (rs := [11]) (by kernel_rfl) (by simp) (AllReadyH.cons (i := 11) (o := ⟨none, Op.store 40 (.tmp 50) (.tmp 48), 0, "law.go:123", #[⟨10, .data⟩, ⟨7, .data⟩, ⟨9, .chain⟩, ⟨0, .phase⟩, ⟨1, .phase⟩, ⟨2, .phase⟩, ⟨3, .phase⟩, ⟨4, .phase⟩, ⟨5, .phase⟩, ⟨6, .phase⟩, ⟨7, .phase⟩, ⟨8, .phase⟩, ⟨9, .phase⟩], none⟩) rfl ?_ AllReadyH.nil)
                · intro K1 hK1
                  refine step_st (by rfl) 40 (.tmp 50) (.tmp 48) rfl g 37 (.slice sn.a sn.n sn.c) 43 _ rfl rfl F7.out.1 (by rw [Pp.length (p := { p with y := sy }) HL.out.2]; omega) (by kernel_rfl) rfl rfl ?_
                  obtain ⟨V8, hv8⟩ : ∃ V, V7.setCell ⟨g, 37, none⟩ (.slice sn.a sn.n sn.c) = V := ⟨_, rfl⟩
                  have F8 : Hid (Copied A g p yes no sy sn V8) := copied_of HL F7.out hv8
                  rw [hv8]
                  clear hv8
                  refine hK1.out _ _ F8.out.2.2.2 ?_
                  clear hK1
                  intro _
                  try simp only [Act.put, List.setIfInBounds_toArray, List.set_cons_zero, List.set_cons_succ]
                  refine wpAnyH_done (by kernel_rfl) ?_ _
                  exact hQ V8 _ _ sy sn F8.out
    · intro K1 hK1
      rw [if_pos (by rfl)]
      have hc : V1.cell? ⟨g, 36, none⟩ = some (.slice p.y.a p.y.n p.y.c) := R1.out.blk.cell (Pp.tail HL.out.2 1)
      go_wp2
      clear hc
      refine hK1.out _ _ R1.out.keep ?_
      clear hK1
      intro _
      try simp only [Act.put, List.setIfInBounds_toArray, List.set_cons_zero, List.set_cons_succ]
      refine wpAnyH_ready (rs := [0, 6]) (by kernel_rfl) (by simp) (AllReadyH.cons (i := 0) (o := ⟨some 41, Op.buildSlice 40 0 #[], 40, "law.go:123", #[], none⟩) rfl ?_ (AllReadyH.cons (i := 6) (o := ⟨some 47, Op.load 40 (.tmp 46), 40, "law.go:123", #[⟨5, .data⟩], none⟩) rfl ?_ AllReadyH.nil))
      · intro K1 hK1
        refine step_bs0 (by rfl) rfl ?_
        obtain ⟨V3, hv3⟩ : ∃ V, V1.alloc (.cells #[] 9) = V := ⟨_, rfl⟩
        obtain ⟨q3, hq3⟩ : ∃ m, V1.heap.size = m := ⟨_, rfl⟩
        have R3 : Hid (R13 A g p V3 (some (.slice (some ⟨q3, 0, none⟩) 0 0, [])) (some (.slice (some ⟨q1, 0, none⟩) 0 0, []))) := by rw [← hv3, ← hq3]; exact R1.out.bs
        rw [hv3, hq3]
        clear hv3 hq3
        refine hK1.out _ _ R3.out.keep ?_
        clear hK1
        intro _
        try simp only [Act.put, List.setIfInBounds_toArray, List.set_cons_zero, List.set_cons_succ]
        refine wpAnyH_ready (rs := [3, 6]) (by kernel_rfl) (by simp) (AllReadyH.cons (i := 3) (o := ⟨some 44, Op.call { callee := Callee.builtin Builtin.append, args := #[Operand.tmp 41, Operand.tmp 43], argTypes := #[40, 40] }, 40, "law.go:123", #[⟨0, .data⟩, ⟨2, .data⟩], none⟩) rfl ?_ (AllReadyH.cons (i := 6) (o := ⟨some 47, Op.load 40 (.tmp 46), 40, "law.go:123", #[⟨5, .data⟩], none⟩) rfl ?_ AllReadyH.nil))
        · intro K1 hK1
          obtain ⟨v4, V4, hr4, hR4⟩ := R3.out.app (s := p.y) (l := yes) (strs_keep HY.out.1 R3.out.keep HNE.out.1) HY.out.2.1 HL.out.1 40
          refine step_run (by rfl) (.tmp 41) (.tmp 43) rfl _ p.y rfl rfl hr4 ?_
          have R4 : Hid (R13 A g p V4 (some (v4, yes)) (some (.slice (some ⟨q1, 0, none⟩) 0 0, []))) := hR4
          clear hr4 hR4
          refine hK1.out _ _ R4.out.keep ?_
          clear hK1
          intro _
          try simp only [Act.put, List.setIfInBounds_toArray, List.set_cons_zero, List.set_cons_succ]
          refine wpAnyH_ready (rs := [6]) (by kernel_rfl) (by simp) (AllReadyH.cons (i := 6) (o := ⟨some 47, Op.load 40 (.tmp 46), 40, "law.go:123", #[⟨5, .data⟩], none⟩) rfl ?_ AllReadyH.nil)
          · intro K1 hK1
            rw [if_pos (by rfl)]
            have hc : V4.cell? ⟨g, 37, none⟩ = some (.slice p.n.a p.n.n p.n.c) := R4.out.blk.cell (Pp.tail HL.out.2 2)
            go_wp2
            clear hc
            refine hK1.out _ _ R4.out.keep ?_
            clear hK1
            intro _
            try simp only [Act.put, List.setIfInBounds_toArray, List.set_cons_zero, List.set_cons_succ]
            refine wpAnyH_take (i := 8) (oi := ⟨some 49, Op.fieldAddr 43 (.tmp 2) 5, 0, "law.go:123", #[⟨0, .phase⟩, ⟨1, .phase⟩, ⟨2, .phase⟩, ⟨3, .phase⟩, { on := 4, ground := Ground.textOnly Departure.lateStores }, ⟨5, .phase⟩, ⟨6, .phase⟩, { on := 7, ground := Ground.textOnly Departure.lateStoresUnsure }], none⟩) (v := .pointer (some ⟨g, 36, none⟩)) rfl (by kernel_rfl) (by kernel_rfl) (by kernel_rfl) (fun _ _ _ h => h.elim) (Or.inl ⟨by rfl, ?y57⟩) R4.out.keep ?_
            case y57 =>
              intro V hV
              go_simp
            simp only [Act.put, List.setIfInBounds_toArray, List.set_cons_zero, List.set_cons_succ]
            refine wpAnyH_ready (rs := [7]) (by kernel_rfl) (by simp) (AllReadyH.cons (i := 7) (o := ⟨some 48, Op.call { callee := Callee.builtin Builtin.append, args := #[Operand.tmp 45, Operand.tmp 47], argTypes := #[40, 40] }, 40, "law.go:123", #[⟨4, .data⟩, ⟨6, .data⟩, ⟨3, .chain⟩], none⟩) rfl ?_ AllReadyH.nil)
            · intro K1 hK1
              obtain ⟨v6, V6, hr6, hR6⟩ := R4.out.swap.app (s := p.n) (l := no) (strs_keep HN.out.1 R4.out.keep HNE.out.2) HN.out.2.1 HL.out.1 40
              refine step_run (by rfl) (.tmp 45) (.tmp 47) rfl _ p.n rfl rfl hr6 ?_
              have R6 : Hid (R13 A g p V6 (some (v4, yes)) (some (v6, no))) := hR6.swap
              clear hr6 hR6
              refine hK1.out _ _ R6.out.keep ?_
              clear hK1
              intro _
              try simp only [Act.put, List.setIfInBounds_toArray, List.set_cons_zero, List.set_cons_succ]
              refine wpAnyH_ready (rs := [9]) (by kernel_rfl) (by simp) (AllReadyH.cons (i := 9) (o := ⟨none, Op.store 40 (.tmp 49) (.tmp 44), 0, "law.go:123", #[⟨8, .data⟩, ⟨3, .data⟩, ⟨7, .chain⟩, ⟨0, .phase⟩, ⟨1, .phase⟩, ⟨2, .phase⟩, ⟨3, .phase⟩, { on := 4, ground := Ground.textOnly Departure.lateStores }, ⟨5, .phase⟩, ⟨6, .phase⟩, { on := 7, ground := Ground.textOnly Departure.lateStoresUnsure }], none⟩) rfl ?_ AllReadyH.nil)
              · intro K1 hK1
                obtain ⟨sy, hsy, hty, hyn, hyb⟩ := own_txt R6.out.fst.1 HY.out.2.2.1 (by have := HY.out.2.1; omega)
                obtain ⟨sn, hsn, htn, hnn, hnb⟩ := own_txt R6.out.snd.1 HN.out.2.2.1 (by have := HN.out.2.1; omega)
                subst hsy
                subst hsn
                refine step_st (by rfl) 40 (.tmp 49) (.tmp 44) rfl g 36 (.slice sy.a sy.n sy.c) 43 _ rfl rfl R6.out.blk (by rw [Pp.length HL.out.2]; omega) (by kernel_rfl) rfl rfl ?_
                obtain ⟨V7, hv7⟩ : ∃ V, V6.setCell ⟨g, 36, none⟩ (.slice sy.a sy.n sy.c) = V := ⟨_, rfl⟩
                have F7 : Hid (Half A g p yes no sy sn V7) := half_of HL R6.out.blk R6.out.keep hty htn hyb hnb hv7
                rw [hv7]
                clear hv7 hty htn hyb hnb hyn hnn
                refine hK1.out _ _ F7.out.2.2.2.1 ?_
                clear hK1
                intro _
                try simp only [Act.put, List.setIfInBounds_toArray, List.set_cons_zero, List.set_cons_succ]
                refine wpAnyH_take (i := 10) (oi := ⟨some 50, Op.fieldAddr 43 (.tmp 2) 6, 0, "law.go:123", #[⟨0, .phase⟩, ⟨1, .phase⟩, ⟨2, .phase⟩, ⟨3, .phase⟩, ⟨4, .phase⟩, ⟨5, .phase⟩, ⟨6, .phase⟩, ⟨7, .phase⟩, ⟨8, .phase⟩, ⟨9, .phase⟩], none⟩) (v := .pointer (some ⟨g, 37, none⟩)) rfl (by kernel_rfl) (by kernel_rfl) (by kernel_rfl) (fun _ _ _ h => h.elim) (Or.inl ⟨by rfl, ?y58⟩) F7.out.2.2.2.1 ?_
                case y58 =>
                  intro V hV
                  go_simp
                simp only [Act.put, List.setIfInBounds_toArray, List.set_cons_zero, List.set_cons_succ]
                refine wpAnyH_ready (rs := [11]) (by kernel_rfl) (by simp) (AllReadyH.cons (i := 11) (o := ⟨none, Op.store 40 (.tmp 50) (.tmp 48), 0, "law.go:123", #[⟨10, .data⟩, ⟨7, .data⟩, ⟨9, .chain⟩, ⟨0, .phase⟩, ⟨1, .phase⟩, ⟨2, .phase⟩, ⟨3, .phase⟩, ⟨4, .phase⟩, ⟨5, .phase⟩, ⟨6, .phase⟩, ⟨7, .phase⟩, ⟨8, .phase⟩, ⟨9, .phase⟩], none⟩) rfl ?_ AllReadyH.nil)
                · intro K1 hK1
                  refine step_st (by rfl) 40 (.tmp 50) (.tmp 48) rfl g 37 (.slice sn.a sn.n sn.c) 43 _ rfl rfl F7.out.1 (by rw [Pp.length (p := { p with y := sy }) HL.out.2]; omega) (by kernel_rfl) rfl rfl ?_
                  obtain ⟨V8, hv8⟩ : ∃ V, V7.setCell ⟨g, 37, none⟩ (.slice sn.a sn.n sn.c) = V := ⟨_, rfl⟩
                  have F8 : Hid (Copied A g p yes no sy sn V8) := copied_of HL F7.out hv8
                  rw [hv8]
                  clear hv8
                  refine hK1.out _ _ F8.out.2.2.2 ?_
                  clear hK1
                  intro _
                  try simp only [Act.put, List.setIfInBounds_toArray, List.set_cons_zero, List.set_cons_succ]
                  refine wpAnyH_done (by kernel_rfl) ?_ _
                  exact hQ V8 _ _ sy sn F8.out
        · intro K1 hK1
          rw [if_pos (by rfl)]
          have hc : V3.cell? ⟨g, 37, none⟩ = some (.slice p.n.a p.n.n p.n.c) := R3.out.blk.cell (Pp.tail HL.out.2 2)
          go_wp2
          clear hc
          refine hK1.out _ _ R3.out.keep ?_
          clear hK1
          intro _
          try simp only [Act.put, List.setIfInBounds_toArray, List.set_cons_zero, List.set_cons_succ]
          refine wpAnyH_ready (rs := [3]) (by kernel_rfl) (by simp) (AllReadyH.cons (i := 3) (o := ⟨some 44, Op.call { callee := Callee.builtin Builtin.append, args := #[Operand.tmp 41, Operand.tmp 43], argTypes := #[40, 40] }, 40, "law.go:123", #[⟨0, .data⟩, ⟨2, .data⟩], none⟩) rfl ?_ AllReadyH.nil)
          · intro K1 hK1
            obtain ⟨v5, V5, hr5, hR5⟩ := R3.out.app (s := p.y) (l := yes) (strs_keep HY.out.1 R3.out.keep HNE.out.1) HY.out.2.1 HL.out.1 40
            refine step_run (by rfl) (.tmp 41) (.tmp 43) rfl _ p.y rfl rfl hr5 ?_
            have R5 : Hid (R13 A g p V5 (some (v5, yes)) (some (.slice (some ⟨q1, 0, none⟩) 0 0, []))) := hR5
            clear hr5 hR5
            refine hK1.out _ _ R5.out.keep ?_
            clear hK1
            intro _
            try simp only [Act.put, List.setIfInBounds_toArray, List.set_cons_zero, List.set_cons_succ]
            refine wpAnyH_take (i := 8) (oi := ⟨some 49, Op.fieldAddr 43 (.tmp 2) 5, 0, "law.go:123", #[⟨0, .phase⟩, ⟨1, .phase⟩, ⟨2, .phase⟩, ⟨3, .phase⟩, { on := 4, ground := Ground.textOnly Departure.lateStores }, ⟨5, .phase⟩, ⟨6, .phase⟩, { on := 7, ground := Ground.textOnly Departure.lateStoresUnsure }], none⟩) (v := .pointer (some ⟨g, 36, none⟩)) rfl (by kernel_rfl) (by kernel_rfl) (by kernel_rfl) (fun _ _ _ h => h.elim) (Or.inl ⟨by rfl, ?y59⟩) R5.out.keep ?_
            case y59 =>
              intro V hV
              go_simp
            simp only [Act.put, List.setIfInBounds_toArray, List.set_cons_zero, List.set_cons_succ]
            refine wpAnyH_ready (rs := [7]) (by kernel_rfl) (by simp) (AllReadyH.cons (i := 7) (o := ⟨some 48, Op.call { callee := Callee.builtin Builtin.append, args := #[Operand.tmp 45, Operand.tmp 47], argTypes := #[40, 40] }, 40, "law.go:123", #[⟨4, .data⟩, ⟨6, .data⟩, ⟨3, .chain⟩], none⟩) rfl ?_ AllReadyH.nil)
            · intro K1 hK1
              obtain ⟨v6, V6, hr6, hR6⟩ := R5.out.swap.app (s := p.n) (l := no) (strs_keep HN.out.1 R5.out.keep HNE.out.2) HN.out.2.1 HL.out.1 40
              refine step_run (by rfl) (.tmp 45) (.tmp 47) rfl _ p.n rfl rfl hr6 ?_
              have R6 : Hid (R13 A g p V6 (some (v5, yes)) (some (v6, no))) := hR6.swap
              clear hr6 hR6
              refine hK1.out _ _ R6.out.keep ?_
              clear hK1
              intro _
              try simp only [Act.put, List.setIfInBounds_toArray, List.set_cons_zero, List.set_cons_succ]
              refine wpAnyH_ready (rs := [9]) (by kernel_rfl) (by simp) (AllReadyH.cons (i := 9) (o := ⟨none, Op.store 40 (.tmp 49) (.tmp 44), 0, "law.go:123", #[⟨8, .data⟩, ⟨3, .data⟩, ⟨7, .chain⟩, ⟨0, .phase⟩, ⟨1, .phase⟩, ⟨2, .phase⟩, ⟨3, .phase⟩, { on := 4, ground := Ground.textOnly Departure.lateStores }, ⟨5, .phase⟩, ⟨6, .phase⟩, { on := 7, ground := Ground.textOnly Departure.lateStoresUnsure }], none⟩) rfl ?_ AllReadyH.nil)
              · intro K1 hK1
                obtain ⟨sy, hsy, hty, hyn, hyb⟩ := own_txt R6.out.fst.1 HY.out.2.2.1 (by have := HY.out.2.1; omega)
                obtain ⟨sn, hsn, htn, hnn, hnb⟩ := own_txt R6.out.snd.1 HN.out.2.2.1 (by have := HN.out.2.1; omega)
                subst hsy
                subst hsn
                refine step_st (by rfl) 40 (.tmp 49) (.tmp 44) rfl g 36 (.slice sy.a sy.n sy.c) 43 _ rfl rfl R6.out.blk (by rw [Pp.length HL.out.2]; omega) (by kernel_rfl) rfl rfl ?_
                obtain ⟨V7, hv7⟩ : ∃ V, V6.setCell ⟨g, 36, none⟩ (.slice sy.a sy.n sy.c) = V := ⟨_, rfl⟩
                have F7 : Hid (Half A g p yes no sy sn V7) := half_of HL R6.out.blk R6.out.keep hty htn hyb hnb hv7
                rw [hv7]
                clear hv7 hty htn hyb hnb hyn hnn
                refine hK1.out _ _ F7.out.2.2.2.1 ?_
                clear hK1
                intro _
                try simp only [Act.put, List.setIfInBounds_toArray, List.set_cons_zero, List.set_cons_succ]
                refine wpAnyH_take (i := 10) (oi := ⟨some 50, Op.fieldAddr 43 (.tmp 2) 6, 0, "law.go:123", #[⟨0, .phase⟩, ⟨1, .phase⟩, ⟨2, .phase⟩, ⟨3, .phase⟩, ⟨4, .phase⟩, ⟨5, .phase⟩, ⟨6, .phase⟩, ⟨7, .phase⟩, ⟨8, .phase⟩, ⟨9, .phase⟩], none⟩) (v := .pointer (some ⟨g, 37, none⟩)) rfl (by kernel_rfl) (by kernel_rfl) (by kernel_rfl) (fun _ _ _ h => h.elim) (Or.inl ⟨by rfl, ?y60⟩) F7.out.2.2.2.1 ?_
                case y60 =>
                  intro V hV
                  go_simp
                simp only [Act.put, List.setIfInBounds_toArray, List.set_cons_zero, List.set_cons_succ]
                refine wpAnyH_ready (rs := [11]) (by kernel_rfl) (by simp) (AllReadyH.cons (i := 11) (o := ⟨none, Op.store 40 (.tmp 50) (.tmp 48), 0, "law.go:123", #[⟨10, .data⟩, ⟨7, .data⟩, ⟨9, .chain⟩, ⟨0, .phase⟩, ⟨1, .phase⟩, ⟨2, .phase⟩, ⟨3, .phase⟩, ⟨4, .phase⟩, ⟨5, .phase⟩, ⟨6, .phase⟩, ⟨7, .phase⟩, ⟨8, .phase⟩, ⟨9, .phase⟩], none⟩) rfl ?_ AllReadyH.nil)
                · intro K1 hK1
                  refine step_st (by rfl) 40 (.tmp 50) (.tmp 48) rfl g 37 (.slice sn.a sn.n sn.c) 43 _ rfl rfl F7.out.1 (by rw [Pp.length (p := { p with y := sy }) HL.out.2]; omega) (by kernel_rfl) rfl rfl ?_
                  obtain ⟨V8, hv8⟩ : ∃ V, V7.setCell ⟨g, 37, none⟩ (.slice sn.a sn.n sn.c) = V := ⟨_, rfl⟩
                  have F8 : Hid (Copied A g p yes no sy sn V8) := copied_of HL F7.out hv8
                  rw [hv8]
                  clear hv8
                  refine hK1.out _ _ F8.out.2.2.2 ?_
                  clear hK1
                  intro _
                  try simp only [Act.put, List.setIfInBounds_toArray, List.set_cons_zero, List.set_cons_succ]
                  refine wpAnyH_done (by kernel_rfl) ?_ _
                  exact hQ V8 _ _ sy sn F8.out
      · intro K1 hK1
        rw [if_pos (by rfl)]
        have hc : V1.cell? ⟨g, 37, none⟩ = some (.slice p.n.a p.n.n p.n.c) := R1.out.blk.cell (Pp.tail HL.out.2 2)
        go_wp2
        clear hc
        refine hK1.out _ _ R1.out.keep ?_
        clear hK1
        intro _
        try simp only [Act.put, List.setIfInBounds_toArray, List.set_cons_zero, List.set_cons_succ]
        refine wpAnyH_ready (rs := [0]) (by kernel_rfl) (by simp) (AllReadyH.cons (i := 0) (o := ⟨some 41, Op.buildSlice 40 0 #[], 40, "law.go:123", #[], none⟩) rfl ?_ AllReadyH.nil)
        · intro K1 hK1
          refine step_bs0 (by rfl) rfl ?_
          obtain ⟨V4, hv4⟩ : ∃ V, V1.alloc (.cells #[] 9) = V := ⟨_, rfl⟩
          obtain ⟨q4, hq4⟩ : ∃ m, V1.heap.size = m := ⟨_, rfl⟩
          have R4 : Hid (R13 A g p V4 (some (.slice (some ⟨q4, 0, none⟩) 0 0, [])) (some (.slice (some ⟨q1, 0, none⟩) 0 0, []))) := by rw [← hv4, ← hq4]; exact R1.out.bs
          rw [hv4, hq4]
          clear hv4 hq4
          refine hK1.out _ _ R4.out.keep ?_
          clear hK1
          intro _
          try simp only [Act.put, List.setIfInBounds_toArray, List.set_cons_zero, List.set_cons_succ]
          refine wpAnyH_ready (rs := [3]) (by kernel_rfl) (by simp) (AllReadyH.cons (i := 3) (o := ⟨some 44, Op.call { callee := Callee.builtin Builtin.append, args := #[Operand.tmp 41, Operand.tmp 43], argTypes := #[40, 40] }, 40, "law.go:123", #[⟨0, .data⟩, ⟨2, .data⟩], none⟩) rfl ?_ AllReadyH.nil)
          · intro K1 hK1
            obtain ⟨v5, V5, hr5, hR5⟩ := R4.out.app (s := p.y) (l := yes) (strs_keep HY.out.1 R4.out.keep HNE.out.1) HY.out.2.1 HL.out.1 40
            refine step_run (by rfl) (.tmp 41) (.tmp 43) rfl _ p.y rfl rfl hr5 ?_
            have R5 : Hid (R13 A g p V5 (some (v5, yes)) (some (.slice (some ⟨q1, 0, none⟩) 0 0, []))) := hR5
            clear hr5 hR5
            refine hK1.out _ _ R5.out.keep ?_
            clear hK1
            intro _
            try simp only [Act.put, List.setIfInBounds_toArray, List.set_cons_zero, List.set_cons_succ]
            refine wpAnyH_take (i := 8) (oi := ⟨some 49, Op.fieldAddr 43 (.tmp 2) 5, 0, "law.go:123", #[⟨0, .phase⟩, ⟨1, .phase⟩, ⟨2, .phase⟩, ⟨3, .phase⟩, { on := 4, ground := Ground.textOnly Departure.lateStores }, ⟨5, .phase⟩, ⟨6, .phase⟩, { on := 7, ground := Ground.textOnly Departure.lateStoresUnsure }], none⟩) (v := .pointer (some ⟨g, 36, none⟩)) rfl (by kernel_rfl) (by kernel_rfl) (by kernel_rfl) (fun _ _ _ h => h.elim) (Or.inl ⟨by rfl, ?y61⟩) R5.out.keep ?_
            case y61 =>
              intro V hV
              go_simp
            simp only [Act.put, List.setIfInBounds_toArray, List.set_cons_zero, List.set_cons_succ]
            refine wpAnyH_ready (rs := [7]) (by kernel_rfl) (by simp) (AllReadyH.cons (i := 7) (o := ⟨some 48, Op.call { callee := Callee.builtin Builtin.append, args := #[Operand.tmp 45, Operand.tmp 47], argTypes := #[40, 40] }, 40, "law.go:123", #[⟨4, .data⟩, ⟨6, .data⟩, ⟨3, .chain⟩], none⟩) rfl ?_ AllReadyH.nil)
            · intro K1 hK1
              obtain ⟨v6, V6, hr6, hR6⟩ := R5.out.swap.app (s := p.n) (l := no) (strs_keep HN.out.1 R5.out.keep HNE.out.2) HN.out.2.1 HL.out.1 40
              refine step_run (by rfl) (.tmp 45) (.tmp 47) rfl _ p.n rfl rfl hr6 ?_
              have R6 : Hid (R13 A g p V6 (some (v5, yes)) (some (v6, no))) := hR6.swap
              clear hr6 hR6
              refine hK1.out _ _ R6.out.keep ?_
              clear hK1
              intro _
              try simp only [Act.put, List.setIfInBounds_toArray, List.set_cons_zero, List.set_cons_succ]
              refine wpAnyH_ready (rs := [9]) (by kernel_rfl) (by simp) (AllReadyH.cons (i := 9) (o := ⟨none, Op.store 40 (.tmp 49) (.tmp 44), 0, "law.go:123", #[⟨8, .data⟩, ⟨3, .data⟩, ⟨7, .chain⟩, ⟨0, .phase⟩, ⟨1, .phase⟩, ⟨2, .phase⟩, ⟨3, .phase⟩, { on := 4, ground := Ground.textOnly Departure.lateStores }, ⟨5, .phase⟩, ⟨6, .phase⟩, { on := 7, ground := Ground.textOnly Departure.lateStoresUnsure }], none⟩) rfl ?_ AllReadyH.nil)
              · intro K1 hK1
                obtain ⟨sy, hsy, hty, hyn, hyb⟩ := own_txt R6.out.fst.1 HY.out.2.2.1 (by have := HY.out.2.1; omega)
                obtain ⟨sn, hsn, htn, hnn, hnb⟩ := own_txt R6.out.snd.1 HN.out.2.2.1 (by have := HN.out.2.1; omega)
                subst hsy
                subst hsn
                refine step_st (by rfl) 40 (.tmp 49) (.tmp 44) rfl g 36 (.slice sy.a sy.n sy.c) 43 _ rfl rfl R6.out.blk (by rw [Pp.length HL.out.2]; omega) (by kernel_rfl) rfl rfl ?_
                obtain ⟨V7, hv7⟩ : ∃ V, V6.setCell ⟨g, 36, none⟩ (.slice sy.a sy.n sy.c) = V := ⟨_, rfl⟩
                have F7 : Hid (Half A g p yes no sy sn V7) := half_of HL R6.out.blk R6.out.keep hty htn hyb hnb hv7
                rw [hv7]
                clear hv7 hty htn hyb hnb hyn hnn
                refine hK1.out _ _ F7.out.2.2.2.1 ?_
                clear hK1
                intro _
                try simp only [Act.put, List.setIfInBounds_toArray, List.set_cons_zero, List.set_cons_succ]
                refine wpAnyH_take (i := 10) (oi := ⟨some 50, Op.fieldAddr 43 (.tmp 2) 6, 0, "law.go:123", #[⟨0, .phase⟩, ⟨1, .phase⟩, ⟨2, .phase⟩, ⟨3, .phase⟩, ⟨4, .phase⟩, ⟨5, .phase⟩, ⟨6, .phase⟩, ⟨7, .phase⟩, ⟨8, .phase⟩, ⟨9, .phase⟩], none⟩) (v := .pointer (some ⟨g, 37, none⟩)) rfl (by kernel_rfl) (by kernel_rfl) (by kernel_rfl) (fun _ _ _ h => h.elim) (Or.inl ⟨by rfl, ?y62⟩) F7.out.2.2.2.1 ?_
                case y62 =>
                  intro V hV
                  go_simp
                simp only [Act.put, List.setIfInBounds_toArray, List.set_cons_zero, List.set_cons_succ]
                refine wpAnyH_ready (rs := [11]) (by kernel_rfl) (by simp) (AllReadyH.cons (i := 11) (o := ⟨none, Op.store 40 (.tmp 50) (.tmp 48), 0, "law.go:123", #[⟨10, .data⟩, ⟨7, .data⟩, ⟨9, .chain⟩, ⟨0, .phase⟩, ⟨1, .phase⟩, ⟨2, .phase⟩, ⟨3, .phase⟩, ⟨4, .phase⟩, ⟨5, .phase⟩, ⟨6, .phase⟩, ⟨7, .phase⟩, ⟨8, .phase⟩, ⟨9, .phase⟩], none⟩) rfl ?_ AllReadyH.nil)
                · intro K1 hK1
                  refine step_st (by rfl) 40 (.tmp 50) (.tmp 48) rfl g 37 (.slice sn.a sn.n sn.c) 43 _ rfl rfl F7.out.1 (by rw [Pp.length (p := { p with y := sy }) HL.out.2]; omega) (by kernel_rfl) rfl rfl ?_
                  obtain ⟨V8, hv8⟩ : ∃ V, V7.setCell ⟨g, 37, none⟩ (.slice sn.a sn.n sn.c) = V := ⟨_, rfl⟩
                  have F8 : Hid (Copied A g p yes no sy sn V8) := copied_of HL F7.out hv8
                  rw [hv8]
                  clear hv8
                  refine hK1.out _ _ F8.out.2.2.2 ?_
                  clear hK1
                  intro _
                  try simp only [Act.put, List.setIfInBounds_toArray, List.set_cons_zero, List.set_cons_succ]
                  refine wpAnyH_done (by kernel_rfl) ?_ _
                  exact hQ V8 _ _ sy sn F8.out
    · intro K1 hK1
      rw [if_pos (by rfl)]
      have hc : V1.cell? ⟨g, 37, none⟩ = some (.slice p.n.a p.n.n p.n.c) := R1.out.blk.cell (Pp.tail HL.out.2 2)
      go_wp2
      clear hc
      refine hK1.out _ _ R1.out.keep ?_
      clear hK1
      intro _
      try simp only [Act.put, List.setIfInBounds_toArray, List.set_cons_zero, List.set_cons_succ]
      refine wpAnyH_ready (rs := [0, 2]) (by kernel_rfl) (by simp) (AllReadyH.cons (i := 0) (o := ⟨some 41, Op.buildSlice 40 0 #[], 40, "law.go:123", #[], none⟩) rfl ?_ (AllReadyH.cons (i := 2) (o := ⟨some 43, Op.load 40 (.tmp 42), 40, "law.go:123", #[⟨1, .data⟩], none⟩) rfl ?_ AllReadyH.nil))
      · intro K1 hK1
        refine step_bs0 (by rfl) rfl ?_
        obtain ⟨V3, hv3⟩ : ∃ V, V1.alloc (.cells #[] 9) = V := ⟨_, rfl⟩
        obtain ⟨q3, hq3⟩ : ∃ m, V1.heap.size = m := ⟨_, rfl⟩
        have R3 : Hid (R13 A g p V3 (some (.slice (some ⟨q3, 0, none⟩) 0 0, [])) (some (.slice (some ⟨q1, 0, none⟩) 0 0, []))) := by rw [← hv3, ← hq3]; exact R1.out.bs
        rw [hv3, hq3]
        clear hv3 hq3
        refine hK1.out _ _ R3.out.keep ?_
        clear hK1
        intro _
        try simp only [Act.put, List.setIfInBounds_toArray, List.set_cons_zero, List.set_cons_succ]
        refine wpAnyH_ready (rs := [2]) (by kernel_rfl) (by simp) (AllReadyH.cons (i := 2) (o := ⟨some 43, Op.load 40 (.tmp 42), 40, "law.go:123", #[⟨1, .data⟩], none⟩) rfl ?_ AllReadyH.nil)
        · intro K1 hK1
          rw [if_pos (by rfl)]
          have hc : V3.cell? ⟨g, 36, none⟩ = some (.slice p.y.a p.y.n p.y.c) := R3.out.blk.cell (Pp.tail HL.out.2 1)
          go_wp2
          clear hc
          refine hK1.out _ _ R3.out.keep ?_
          clear hK1
          intro _
          try simp only [Act.put, List.setIfInBounds_toArray, List.set_cons_zero, List.set_cons_succ]
          refine wpAnyH_ready (rs := [3]) (by kernel_rfl) (by simp) (AllReadyH.cons (i := 3) (o := ⟨some 44, Op.call { callee := Callee.builtin Builtin.append, args := #[Operand.tmp 41, Operand.tmp 43], argTypes := #[40, 40] }, 40, "law.go:123", #[⟨0, .data⟩, ⟨2, .data⟩], none⟩) rfl ?_ AllReadyH.nil)
          · intro K1 hK1
            obtain ⟨v5, V5, hr5, hR5⟩ := R3.out.app (s := p.y) (l := yes) (strs_keep HY.out.1 R3.out.keep HNE.out.1) HY.out.2.1 HL.out.1 40
            refine step_run (by rfl) (.tmp 41) (.tmp 43) rfl _ p.y rfl rfl hr5 ?_
            have R5 : Hid (R13 A g p V5 (some (v5, yes)) (some (.slice (some ⟨q1, 0, none⟩) 0 0, []))) := hR5
            clear hr5 hR5
            refine hK1.out _ _ R5.out.keep ?_
            clear hK1
            intro _
            try simp only [Act.put, List.setIfInBounds_toArray, List.set_cons_zero, List.set_cons_succ]
            refine wpAnyH_take (i := 8) (oi := ⟨some 49, Op.fieldAddr 43 (.tmp 2) 5, 0, "law.go:123", #[⟨0, .phase⟩, ⟨1, .phase⟩, ⟨2, .phase⟩, ⟨3, .phase⟩, { on := 4, ground := Ground.textOnly Departure.lateStores }, ⟨5, .phase⟩, ⟨6, .phase⟩, { on := 7, ground := Ground.textOnly Departure.lateStoresUnsure }], none⟩) (v := .pointer (some ⟨g, 36, none⟩)) rfl (by kernel_rfl) (by kernel_rfl) (by kernel_rfl) (fun _ _ _ h => h.elim) (Or.inl ⟨by rfl, ?y63⟩) R5.out.keep ?_
            case y63 =>
              intro V hV
              go_simp
            simp only [Act.put, List.setIfInBounds_toArray, List.set_cons_zero, List.set_cons_succ]
            refine wpAnyH_ready (rs := [7]) (by kernel_rfl) (by simp) (AllReadyH.cons (i := 7) (o := ⟨some 48, Op.call { callee := Callee.builtin Builtin.append, args := #[Operand.tmp 45, Operand.tmp 47], argTypes := #[40, 40] }, 40, "law.go:123", #[⟨4, .data⟩, ⟨6, .data⟩, ⟨3, .chain⟩], none⟩) rfl ?_ AllReadyH.nil)
            · intro K1 hK1
              obtain ⟨v6, V6, hr6, hR6⟩ := R5.out.swap.app (s := p.n) (l := no) (strs_keep HN.out.1 R5.out.keep HNE.out.2) HN.out.2.1 HL.out.1 40
              refine step_run (by rfl) (.tmp 45) (.tmp 47) rfl _ p.n rfl rfl hr6 ?_
              have R6 : Hid (R13 A g p V6 (some (v5, yes)) (some (v6, no))) := hR6.swap
              clear hr6 hR6
              refine hK1.out _ _ R6.out.keep ?_
              clear hK1
              intro _
              try simp only [Act.put, List.setIfInBounds_toArray, List.set_cons_zero, List.set_cons_succ]
              refine wpAnyH_ready (rs := [9]) (by kernel_rfl) (by simp) (AllReadyH.cons (i := 9) (o := ⟨none, Op.store 40 (.tmp 49) (.tmp 44), 0, "law.go:123", #[⟨8, .data⟩, ⟨3, .data⟩, ⟨7, .chain⟩, ⟨0, .phase⟩, ⟨1, .phase⟩, ⟨2, .phase⟩, ⟨3, .phase⟩, { on := 4, ground := Ground.textOnly Departure.lateStores }, ⟨5, .phase⟩, ⟨6, .phase⟩, { on := 7, ground := Ground.textOnly Departure.lateStoresUnsure }], none⟩) rfl ?_ AllReadyH.nil)
              · intro K1 hK1
                obtain ⟨sy, hsy, hty, hyn, hyb⟩ := own_txt R6.out.fst.1 HY.out.2.2.1 (by have := HY.out.2.1; omega)
                obtain ⟨sn, hsn, htn, hnn, hnb⟩ := own_txt R6.out.snd.1 HN.out.2.2.1 (by have := HN.out.2.1; omega)
                subst hsy
                subst hsn
                refine step_st (by rfl) 40 (.tmp 49) (.tmp 44) rfl g 36 (.slice sy.a sy.n sy.c) 43 _ rfl rfl R6.out.blk (by rw [Pp.length HL.out.2]; omega) (by kernel_rfl) rfl rfl ?_
                obtain ⟨V7, hv7⟩ : ∃ V, V6.setCell ⟨g, 36, none⟩ (.slice sy.a sy.n sy.c) = V := ⟨_, rfl⟩
                have F7 : Hid (Half A g p yes no sy sn V7) := half_of HL R6.out.blk R6.out.keep hty htn hyb hnb hv7
                rw [hv7]
                clear hv7 hty htn hyb hnb hyn hnn
                refine hK1.out _ _ F7.out.2.2.2.1 ?_
                clear hK1
                intro _
                try simp only [Act.put, List.setIfInBounds_toArray, List.set_cons_zero, List.set_cons_succ]
                refine wpAnyH_take (i := 10) (oi := ⟨some 50, Op.fieldAddr 43 (.tmp 2) 6, 0, "law.go:123", #[⟨0, .phase⟩, ⟨1, .phase⟩, ⟨2, .phase⟩, ⟨3, .phase⟩, ⟨4, .phase⟩, ⟨5, .phase⟩, ⟨6, .phase⟩, ⟨7, .phase⟩, ⟨8, .phase⟩, ⟨9, .phase⟩], none⟩) (v := .pointer (some ⟨g, 37, none⟩)) rfl (by kernel_rfl) (by kernel_rfl) (by kernel_rfl) (fun _ _ _ h => h.elim) (Or.inl ⟨by rfl, ?y64⟩) F7.out.2.2.2.1 ?_
                case y64 =>
                  intro V hV
                  go_simp
                simp only [Act.put, List.setIfInBounds_toArray, List.set_cons_zero, List.set_cons_succ]
                refine wpAnyH_ready (rs := [11]) (by kernel_rfl) (by simp) (AllReadyH.cons (i := 11) (o := ⟨none, Op.store 40 (.tmp 50) (.tmp 48), 0, "law.go:123", #[⟨10, .data⟩, ⟨7, .data⟩, ⟨9, .chain⟩, ⟨0, .phase⟩, ⟨1, .phase⟩, ⟨2, .phase⟩, ⟨3, .phase⟩, ⟨4, .phase⟩, ⟨5, .phase⟩, ⟨6, .phase⟩, ⟨7, .phase⟩, ⟨8, .phase⟩, ⟨9, .phase⟩], none⟩) rfl ?_ AllReadyH.nil)
                · intro K1 hK1
                  refine step_st (by rfl) 40 (.tmp 50) (.tmp 48) rfl g 37 (.slice sn.a sn.n sn.c) 43 _ rfl rfl F7.out.1 (by rw [Pp.length (p := { p with y := sy }) HL.out.2]; omega) (by kernel_rfl) rfl rfl ?_
                  obtain ⟨V8, hv8⟩ : ∃ V, V7.setCell ⟨g, 37, none⟩ (.slice sn.a sn.n sn.c) = V := ⟨_, rfl⟩
                  have F8 : Hid (Copied A g p yes no sy sn V8) := copied_of HL F7.out hv8
                  rw [hv8]
                  clear hv8
                  refine hK1.out _ _ F8.out.2.2.2 ?_
                  clear hK1
                  intro _
                  try simp only [Act.put, List.setIfInBounds_toArray, List.set_cons_zero, List.set_cons_succ]
                  refine wpAnyH_done (by kernel_rfl) ?_ _
                  exact hQ V8 _ _ sy sn F8.out
      · intro K1 hK1
        rw [if_pos (by rfl)]
        have hc : V1.cell? ⟨g, 36, none⟩ = some (.slice p.y.a p.y.n p.y.c) := R1.out.blk.cell (Pp.tail HL.out.2 1)
        go_wp2
        clear hc
        refine hK1.out _ _ R1.out.keep ?_
        clear hK1
        intro _
        try simp only [Act.put, List.setIfInBounds_toArray, List.set_cons_zero, List.set_cons_succ]
        refine wpAnyH_ready (rs := [0]) (by kernel_rfl) (by simp) (AllReadyH.cons (i := 0) (o := ⟨some 41, Op.buildSlice 40 0 #[], 40, "law.go:123", #[], none⟩) rfl ?_ AllReadyH.nil)
        · intro K1 hK1
          refine step_bs0 (by rfl) rfl ?_
          obtain ⟨V4, hv4⟩ : ∃ V, V1.alloc (.cells #[] 9) = V := ⟨_, rfl⟩
          obtain ⟨q4, hq4⟩ : ∃ m, V1.heap.size = m := ⟨_, rfl⟩
          have R4 : Hid (R13 A g p V4 (some (.slice (some ⟨q4, 0, none⟩) 0 0, [])) (some (.slice (some ⟨q1, 0, none⟩) 0 0, []))) := by rw [← hv4, ← hq4]; exact R1.out.bs
          rw [hv4, hq4]
          clear hv4 hq4
          refine hK1.out _ _ R4.out.keep ?_
          clear hK1
          intro _
          try simp only [Act.put, List.setIfInBounds_toArray, List.set_cons_zero, List.set_cons_succ]
          refine wpAnyH_ready (rs := [3]) (by kernel_rfl) (by simp) (AllReadyH.cons (i := 3) (o := ⟨some 44, Op.call { callee := Callee.builtin Builtin.append, args := #[Operand.tmp 41, Operand.tmp 43], argTypes := #[40, 40] }, 40, "law.go:123", #[⟨0, .data⟩, ⟨2, .data⟩], none⟩) rfl ?_ AllReadyH.nil)
          · intro K1 hK1
            obtain ⟨v5, V5, hr5, hR5⟩ := R4.out.app (s := p.y) (l := yes) (strs_keep HY.out.1 R4.out.keep HNE.out.1) HY.out.2.1 HL.out.1 40
            refine step_run (by rfl) (.tmp 41) (.tmp 43) rfl _ p.y rfl rfl hr5 ?_
            have R5 : Hid (R13 A g p V5 (some (v5, yes)) (some (.slice (some ⟨q1, 0, none⟩) 0 0, []))) := hR5
            clear hr5 hR5
            refine hK1.out _ _ R5.out.keep ?_
            clear hK1
            intro _
            try simp only [Act.put, List.setIfInBounds_toArray, List.set_cons_zero, List.set_cons_succ]
            refine wpAnyH_take (i := 8) (oi := ⟨some 49, Op.fieldAddr 43 (.tmp 2) 5, 0, "law.go:123", #[⟨0, .phase⟩, ⟨1, .phase⟩, ⟨2, .phase⟩, ⟨3, .phase⟩, { on := 4, ground := Ground.textOnly Departure.lateStores }, ⟨5, .phase⟩, ⟨6, .phase⟩, { on := 7, ground := Ground.textOnly Departure.lateStoresUnsure }], none⟩) (v := .pointer (some ⟨g, 36, none⟩)) rfl (by kernel_rfl) (by kernel_rfl) (by kernel_rfl) (fun _ _ _ h => h.elim) (Or.inl ⟨by rfl, ?y65⟩) R5.out.keep ?_
            case y65 =>
              intro V hV
              go_simp
            simp only [Act.put, List.setIfInBounds_toArray, List.set_cons_zero, List.set_cons_succ]
            refine wpAnyH_ready (rs := [7]) (by kernel_rfl) (by simp) (AllReadyH.cons (i := 7) (o := ⟨some 48, Op.call { callee := Callee.builtin Builtin.append, args := #[Operand.tmp 45, Operand.tmp 47], argTypes := #[40, 40] }, 40, "law.go:123", #[⟨4, .data⟩, ⟨6, .data⟩, ⟨3, .chain⟩], none⟩) rfl ?_ AllReadyH.nil)
            · intro K1 hK1
              obtain ⟨v6, V6, hr6, hR6⟩ := R5.out.swap.app (s := p.n) (l := no) (strs_keep HN.out.1 R5.out.keep HNE.out.2) HN.out.2.1 HL.out.1 40
              refine step_run (by rfl) (.tmp 45) (.tmp 47) rfl _ p.n rfl rfl hr6 ?_
              have R6 : Hid (R13 A g p V6 (some (v5, yes)) (some (v6, no))) := hR6.swap
              clear hr6 hR6
              refine hK1.out _ _ R6.out.keep ?_
              clear hK1
              intro _
              try simp only [Act.put, List.setIfInBounds_toArray, List.set_cons_zero, List.set_cons_succ]
              refine wpAnyH_ready (rs := [9]) (by kernel_rfl) (by simp) (AllReadyH.cons (i := 9) (o := ⟨none, Op.store 40 (.tmp 49) (.tmp 44), 0, "law.go:123", #[⟨8, .data⟩, ⟨3, .data⟩, ⟨7, .chain⟩, ⟨0, .phase⟩, ⟨1, .phase⟩, ⟨2, .phase⟩, ⟨3, .phase⟩, { on := 4, ground := Ground.textOnly Departure.lateStores }, ⟨5, .phase⟩, ⟨6, .phase⟩, { on := 7, ground := Ground.textOnly Departure.lateStoresUnsure }], none⟩) rfl ?_ AllReadyH.nil)
              · intro K1 hK1
                obtain ⟨sy, hsy, hty, hyn, hyb⟩ := own_txt R6.out.fst.1 HY.out.2.2.1 (by have := HY.out.2.1; omega)
                obtain ⟨sn, hsn, htn, hnn, hnb⟩ := own_txt R6.out.snd.1 HN.out.2.2.1 (by have := HN.out.2.1; omega)
                subst hsy
                subst hsn
                refine step_st (by rfl) 40 (.tmp 49) (.tmp 44) rfl g 36 (.slice sy.a sy.n sy.c) 43 _ rfl rfl R6.out.blk (by rw [Pp.length HL.out.2]; omega) (by kernel_rfl) rfl rfl ?_
                obtain ⟨V7, hv7⟩ : ∃ V, V6.setCell ⟨g, 36, none⟩ (.slice sy.a sy.n sy.c) = V := ⟨_, rfl⟩
                have F7 : Hid (Half A g p yes no sy sn V7) := half_of HL R6.out.blk R6.out.keep hty htn hyb hnb hv7
                rw [hv7]
                clear hv7 hty htn hyb hnb hyn hnn
                refine hK1.out _ _ F7.out.2.2.2.1 ?_
                clear hK1
                intro _
                try simp only [Act.put, List.setIfInBounds_toArray, List.set_cons_zero, List.set_cons_succ]
                refine wpAnyH_take (i := 10) (oi := ⟨some 50, Op.fieldAddr 43 (.tmp 2) 6, 0, "law.go:123", #[⟨0, .phase⟩, ⟨1, .phase⟩, ⟨2, .phase⟩, ⟨3, .phase⟩, ⟨4, .phase⟩, ⟨5, .phase⟩, ⟨6, .phase⟩, ⟨7, .phase⟩, ⟨8, .phase⟩, ⟨9, .phase⟩], none⟩) (v := .pointer (some ⟨g, 37, none⟩)) rfl (by kernel_rfl) (by kernel_rfl) (by kernel_rfl) (fun _ _ _ h => h.elim) (Or.inl ⟨by rfl, ?y66⟩) F7.out.2.2.2.1 ?_
                case y66 =>
                  intro V hV
                  go_simp
                simp only [Act.put, List.setIfInBounds_toArray, List.set_cons_zero, List.set_cons_succ]
                refine wpAnyH_ready (rs := [11]) (by kernel_rfl) (by simp) (AllReadyH.cons (i := 11) (o := ⟨none, Op.store 40 (.tmp 50) (.tmp 48), 0, "law.go:123", #[⟨10, .data⟩, ⟨7, .data⟩, ⟨9, .chain⟩, ⟨0, .phase⟩, ⟨1, .phase⟩, ⟨2, .phase⟩, ⟨3, .phase⟩, ⟨4, .phase⟩, ⟨5, .phase⟩, ⟨6, .phase⟩, ⟨7, .phase⟩, ⟨8, .phase⟩, ⟨9, .phase⟩], none⟩) rfl ?_ AllReadyH.nil)
                · intro K1 hK1
                  refine step_st (by rfl) 40 (.tmp 50) (.tmp 48) rfl g 37 (.slice sn.a sn.n sn.c) 43 _ rfl rfl F7.out.1 (by rw [Pp.length (p := { p with y := sy }) HL.out.2]; omega) (by kernel_rfl) rfl rfl ?_
                  obtain ⟨V8, hv8⟩ : ∃ V, V7.setCell ⟨g, 37, none⟩ (.slice sn.a sn.n sn.c) = V := ⟨_, rfl⟩
                  have F8 : Hid (Copied A g p yes no sy sn V8) := copied_of HL F7.out hv8
                  rw [hv8]
                  clear hv8
                  refine hK1.out _ _ F8.out.2.2.2 ?_
                  clear hK1
                  intro _
                  try simp only [Act.put, List.setIfInBounds_toArray, List.set_cons_zero, List.set_cons_succ]
                  refine wpAnyH_done (by kernel_rfl) ?_ _
                  exact hQ V8 _ _ sy sn F8.out
  · intro K1 hK1
    rw [if_pos (by rfl)]
    have hc : V0.cell? ⟨g, 37, none⟩ = some (.slice p.n.a p.n.n p.n.c) := R0.out.blk.cell (Pp.tail HL.out.2 2)
    go_wp2
    clear hc
    refine hK1.out _ _ hS0.out ?_
    clear hK1
    intro _
    try simp only [Act.put, List.setIfInBounds_toArray, List.set_cons_zero, List.set_cons_succ]
    refine wpAnyH_ready (rs := [0, 2, 4]) (by kernel_rfl) (by simp) (AllReadyH.cons (i := 0) (o := ⟨some 41, Op.buildSlice 40 0 #[], 40, "law.go:123", #[], none⟩) rfl ?_ (AllReadyH.cons (i := 2) (o := ⟨some 43, Op.load 40 (.tmp 42), 40, "law.go:123", #[⟨1, .data⟩], none⟩) rfl ?_ (AllReadyH.cons (i := 4) (o := ⟨some 45, Op.buildSlice 40 0 #[], 40, "law.go:123", #[], none⟩) rfl ?_ AllReadyH.nil)))
    · intro K1 hK1
      refine step_bs0 (by rfl) rfl ?_
      obtain ⟨V2, hv2⟩ : ∃ V, V0.alloc (.cells #[] 9) = V := ⟨_, rfl⟩
      obtain ⟨q2, hq2⟩ : ∃ m, V0.heap.size = m := ⟨_, rfl⟩
      have R2 : Hid (R13 A g p V2 (some (.slice (some ⟨q2, 0, none⟩) 0 0, [])) none) := by rw [← hv2, ← hq2]; exact R0.out.bs
      rw [hv2, hq2]
      clear hv2 hq2
      refine hK1.out _ _ R2.out.keep ?_
      clear hK1
      intro _
      try simp only [Act.put, List.setIfInBounds_toArray, List.set_cons_zero, List.set_cons_succ]
      refine wpAnyH_ready (rs := [2, 4]) (by kernel_rfl) (by simp) (AllReadyH.cons (i := 2) (o := ⟨some 43, Op.load 40 (.tmp 42), 40, "law.go:123", #[⟨1, .data⟩], none⟩) rfl ?_ (AllReadyH.cons (i := 4) (o := ⟨some 45, Op.buildSlice 40 0 #[], 40, "law.go:123", #[], none⟩) rfl ?_ AllReadyH.nil))
      · intro K1 hK1
        rw [if_pos (by rfl)]
        have hc : V2.cell? ⟨g, 36, none⟩ = some (.slice p.y.a p.y.n p.y.c) := R2.out.blk.cell (Pp.tail HL.out.2 1)
        go_wp2
        clear hc
        refine hK1.out _ _ R2.out.keep ?_
        clear hK1
        intro _
        try simp only [Act.put, List.setIfInBounds_toArray, List.set_cons_zero, List.set_cons_succ]
        refine wpAnyH_ready (rs := [3, 4]) (by kernel_rfl) (by simp) (AllReadyH.cons (i := 3) (o := ⟨some 44, Op.call { callee := Callee.builtin Builtin.append, args := #[Operand.tmp 41, Operand.tmp 43], argTypes := #[40, 40] }, 40, "law.go:123", #[⟨0, .data⟩, ⟨2, .data⟩], none⟩) rfl ?_ (AllReadyH.cons (i := 4) (o := ⟨some 45, Op.buildSlice 40 0 #[], 40, "law.go:123", #[], none⟩) rfl ?_ AllReadyH.nil))
        · intro K1 hK1
          obtain ⟨v4, V4, hr4, hR4⟩ := R2.out.app (s := p.y) (l := yes) (strs_keep HY.out.1 R2.out.keep HNE.out.1) HY.out.2.1 HL.out.1 40
          refine step_run (by rfl) (.tmp 41) (.tmp 43) rfl _ p.y rfl rfl hr4 ?_
          have R4 : Hid (R13 A g p V4 (some (v4, yes)) none) := hR4
          clear hr4 hR4
          refine hK1.out _ _ R4.out.keep ?_
          clear hK1
          intro _
          try simp only [Act.put, List.setIfInBounds_toArray, List.set_cons_zero, List.set_cons_succ]
          refine wpAnyH_take (i := 8) (oi := ⟨some 49, Op.fieldAddr 43 (.tmp 2) 5, 0, "law.go:123", #[⟨0, .phase⟩, ⟨1, .phase⟩, ⟨2, .phase⟩, ⟨3, .phase⟩, { on := 4, ground := Ground.textOnly Departure.lateStores }, ⟨5, .phase⟩, ⟨6, .phase⟩, { on := 7, ground := Ground.textOnly Departure.lateStoresUnsure }], none⟩) (v := .pointer (some ⟨g, 36, none⟩)) rfl (by kernel_rfl) (by kernel_rfl) (by kernel_rfl) (fun _ _ _ h => h.elim) (Or.inl ⟨by rfl, ?y67⟩) R4.out.keep ?_
          case y67 =>
            intro V hV
            go_simp
          simp only [Act.put, List.setIfInBounds_toArray, List.set_cons_zero, List.set_cons_succ]
          refine wpAnyH_ready (rs := [4]) (by kernel_rfl) (by simp) (AllReadyH.cons (i := 4) (o := ⟨some 45, Op.buildSlice 40 0 #[], 40, "law.go:123", #[], none⟩) rfl ?_ AllReadyH.nil)
          · intro K1 hK1
            refine step_bs0 (by rfl) rfl ?_
            obtain ⟨V5, hv5⟩ : ∃ V, V4.alloc (.cells #[] 9) = V := ⟨_, rfl⟩
            obtain ⟨q5, hq5⟩ : ∃ m, V4.heap.size = m := ⟨_, rfl⟩
            have R5 : Hid (R13 A g p V5 (some (v4, yes)) (some (.slice (some ⟨q5, 0, none⟩) 0 0, []))) := by rw [← hv5, ← hq5]; exact R4.out.swap.bs.swap
            rw [hv5, hq5]
            clear hv5 hq5
            refine hK1.out _ _ R5.out.keep ?_
            clear hK1
            intro _
            try simp only [Act.put, List.setIfInBounds_toArray, List.set_cons_zero, List.set_cons_succ]
            refine wpAnyH_ready (rs := [7]) (by kernel_rfl) (by simp) (AllReadyH.cons (i := 7) (o := ⟨some 48, Op.call { callee := Callee.builtin Builtin.append, args := #[Operand.tmp 45, Operand.tmp 47], argTypes := #[40, 40] }, 40, "law.go:123", #[⟨4, .data⟩, ⟨6, .data⟩, ⟨3, .chain⟩], none⟩) rfl ?_ AllReadyH.nil)
            · intro K1 hK1
              obtain ⟨v6, V6, hr6, hR6⟩ := R5.out.swap.app (s := p.n) (l := no) (strs_keep HN.out.1 R5.out.keep HNE.out.2) HN.out.2.1 HL.out.1 40
              refine step_run (by rfl) (.tmp 45) (.tmp 47) rfl _ p.n rfl rfl hr6 ?_
              have R6 : Hid (R13 A g p V6 (some (v4, yes)) (some (v6, no))) := hR6.swap
              clear hr6 hR6
              refine hK1.out _ _ R6.out.keep ?_
              clear hK1
              intro _
              try simp only [Act.put, List.setIfInBounds_toArray, List.set_cons_zero, List.set_cons_succ]
              refine wpAnyH_ready (rs := [9]) (by kernel_rfl) (by simp) (AllReadyH.cons (i := 9) (o := ⟨none, Op.store 40 (.tmp 49) (.tmp 44), 0, "law.go:123", #[⟨8, .data⟩, ⟨3, .data⟩, ⟨7, .chain⟩, ⟨0, .phase⟩, ⟨1, .phase⟩, ⟨2, .phase⟩, ⟨3, .phase⟩, { on := 4, ground := Ground.textOnly Departure.lateStores }, ⟨5, .phase⟩, ⟨6, .phase⟩, { on := 7, ground := Ground.textOnly Departure.lateStoresUnsure }], none⟩) rfl ?_ AllReadyH.nil)
              · intro K1 hK1
                obtain ⟨sy, hsy, hty, hyn, hyb⟩ := own_txt R6.out.fst.1 HY.out.2.2.1 (by have := HY.out.2.1; omega)
                obtain ⟨sn, hsn, htn, hnn, hnb⟩ := own_txt R6.out.snd.1 HN.out.2.2.1 (by have := HN.out.2.1; omega)
                subst hsy
                subst hsn
                refine step_st (by rfl) 40 (.tmp 49) (.tmp 44) rfl g 36 (.slice sy.a sy.n sy.c) 43 _ rfl rfl R6.out.blk (by rw [Pp.length HL.out.2]; omega) (by kernel_rfl) rfl rfl ?_
                obtain ⟨V7, hv7⟩ : ∃ V, V6.setCell ⟨g, 36, none⟩ (.slice sy.a sy.n sy.c) = V := ⟨_, rfl⟩
                have F7 : Hid (Half A g p yes no sy sn V7) := half_of HL R6.out.blk R6.out.keep hty htn hyb hnb hv7
                rw [hv7]
                clear hv7 hty htn hyb hnb hyn hnn
                refine hK1.out _ _ F7.out.2.2.2.1 ?_
                clear hK1
                intro _
                try simp only [Act.put, List.setIfInBounds_toArray, List.set_cons_zero, List.set_cons_succ]
                refine wpAnyH_take (i := 10) (oi := ⟨some 50, Op.fieldAddr 43 (.tmp 2) 6, 0, "law.go:123", #[⟨0, .phase⟩, ⟨1, .phase⟩, ⟨2, .phase⟩, ⟨3, .phase⟩, ⟨4, .phase⟩, ⟨5, .phase⟩, ⟨6, .phase⟩, ⟨7, .phase⟩, ⟨8, .phase⟩, ⟨9, .phase⟩], none⟩) (v := .pointer (some ⟨g, 37, none⟩)) rfl (by kernel_rfl) (by kernel_rfl) (by kernel_rfl) (fun _ _ _ h => h.elim) (Or.inl ⟨by rfl, ?y68⟩) F7.out.2.2.2.1 ?_
                case y68 =>
                  intro V hV
                  go_simp
                simp only [Act.put, List.setIfInBounds_toArray, List.set_cons_zero, List.set_cons_succ]
                refine wpAnyH_ready (rs := [11]) (by kernel_rfl) (by simp) (AllReadyH.cons (i := 11) (o := ⟨none, Op.store 40 (.tmp 50) (.tmp 48), 0, "law.go:123", #[⟨10, .data⟩, ⟨7, .data⟩, ⟨9, .chain⟩, ⟨0, .phase⟩, ⟨1, .phase⟩, ⟨2, .phase⟩, ⟨3, .phase⟩, ⟨4, .phase⟩, ⟨5, .phase⟩, ⟨6, .phase⟩, ⟨7, .phase⟩, ⟨8, .phase⟩, ⟨9, .phase⟩], none⟩) rfl ?_ AllReadyH.nil)
                · intro K1 hK1
                  refine step_st (by rfl) 40 (.tmp 50) (.tmp 48) rfl g 37 (.slice sn.a sn.n sn.c) 43 _ rfl rfl F7.out.1 (by rw [Pp.length (p := { p with y := sy }) HL.out.2]; omega) (by kernel_rfl) rfl rfl ?_
                  obtain ⟨V8, hv8⟩ : ∃ V, V7.setCell ⟨g, 37, none⟩ (.slice sn.a sn.n sn.c) = V := ⟨_, rfl⟩
                  have F8 : Hid (Copied A g p yes no sy sn V8) := copied_of HL F7.out hv8
                  rw [hv8]
                  clear hv8
                  refine hK1.out _ _ F8.out.2.2.2 ?_
                  clear hK1
                  intro _
                  try simp only [Act.put, List.setIfInBounds_toArray, List.set_cons_zero, List.set_cons_succ]
                  refine wpAnyH_done (by kernel_rfl) ?_ _
                  exact hQ V8 _ _ sy sn F8.out
        · intro K1 hK1
          refine step_bs0 (by rfl) rfl ?_
          obtain ⟨V4, hv4⟩ : ∃ V, V2.alloc (.cells #[] 9) = V := ⟨_, rfl⟩
          obtain ⟨q4, hq4⟩ : ∃ m, V2.heap.size = m := ⟨_, rfl⟩
          have R4 : Hid (R13 A g p V4 (some (.slice (some ⟨q2, 0, none⟩) 0 0, [])) (some (.slice (some ⟨q4, 0, none⟩) 0 0, []))) := by rw [← hv4, ← hq4]; exact R2.out.swap.bs.swap
          rw [hv4, hq4]
          clear hv4 hq4
          refine hK1.out _ _ R4.out.keep ?_
          clear hK1
          intro _
          try simp only [Act.put, List.setIfInBounds_toArray, List.set_cons_zero, List.set_cons_succ]
          refine wpAnyH_ready (rs := [3]) (by kernel_rfl) (by simp) (AllReadyH.cons (i := 3) (o := ⟨some 44, Op.call { callee := Callee.builtin Builtin.append, args := #[Operand.tmp 41, Operand.tmp 43], argTypes := #[40, 40] }, 40, "law.go:123", #[⟨0, .data⟩, ⟨2, .data⟩], none⟩) rfl ?_ AllReadyH.nil)
          · intro K1 hK1
            obtain ⟨v5, V5, hr5, hR5⟩ := R4.out.app (s := p.y) (l := yes) (strs_keep HY.out.1 R4.out.keep HNE.out.1) HY.out.2.1 HL.out.1 40
            refine step_run (by rfl) (.tmp 41) (.tmp 43) rfl _ p.y rfl rfl hr5 ?_
            have R5 : Hid (R13 A g p V5 (some (v5, yes)) (some (.slice (some ⟨q4, 0, none⟩) 0 0, []))) := hR5
            clear hr5 hR5
            refine hK1.out _ _ R5.out.keep ?_
            clear hK1
            intro _
            try simp only [Act.put, List.setIfInBounds_toArray, List.set_cons_zero, List.set_cons_succ]
            refine wpAnyH_take (i := 8) (oi := ⟨some 49, Op.fieldAddr 43 (.tmp 2) 5, 0, "law.go:123", #[⟨0, .phase⟩, ⟨1, .phase⟩, ⟨2, .phase⟩, ⟨3, .phase⟩, { on := 4, ground := Ground.textOnly Departure.lateStores }, ⟨5, .phase⟩, ⟨6, .phase⟩, { on := 7, ground := Ground.textOnly Departure.lateStoresUnsure }], none⟩) (v := .pointer (some ⟨g, 36, none⟩)) rfl (by kernel_rfl) (by kernel_rfl) (by kernel_rfl) (fun _ _ _ h => h.elim) (Or.inl ⟨by rfl, ?y69⟩) R5.out.keep ?_
            case y69 =>
              intro V hV
              go_simp
            simp only [Act.put, List.setIfInBounds_toArray, List.set_cons_zero, List.set_cons_succ]
            refine wpAnyH_ready (rs := [7]) (by kernel_rfl) (by simp) (AllReadyH.cons (i := 7) (o := ⟨some 48, Op.call { callee := Callee.builtin Builtin.append, args := #[Operand.tmp 45, Operand.tmp 47], argTypes := #[40, 40] }, 40, "law.go:123", #[⟨4, .data⟩, ⟨6, .data⟩, ⟨3, .chain⟩], none⟩) rfl ?_ AllReadyH.nil)
            · intro K1 hK1
              obtain ⟨v6, V6, hr6, hR6⟩ := R5.out.swap.app (s := p.n) (l := no) (strs_keep HN.out.1 R5.out.keep HNE.out.2) HN.out.2.1 HL.out.1 40
              refine step_run (by rfl) (.tmp 45) (.tmp 47) rfl _ p.n rfl rfl hr6 ?_
              have R6 : Hid (R13 A g p V6 (some (v5, yes)) (some (v6, no))) := hR6.swap
              clear hr6 hR6
              refine hK1.out _ _ R6.out.keep ?_
              clear hK1
              intro _
              try simp only [Act.put, List.setIfInBounds_toArray, List.set_cons_zero, List.set_cons_succ]
              refine wpAnyH_ready (rs := [9]) (by kernel_rfl) (by simp) (AllReadyH.cons (i := 9) (o := ⟨none, Op.store 40 (.tmp 49) (.tmp 44), 0, "law.go:123", #[⟨8, .data⟩, ⟨3, .data⟩, ⟨7, .chain⟩, ⟨0, .phase⟩, ⟨1, .phase⟩, ⟨2, .phase⟩, ⟨3, .phase⟩, { on := 4, ground := Ground.textOnly Departure.lateStores }, ⟨5, .phase⟩, ⟨6, .phase⟩, { on := 7, ground := Ground.textOnly Departure.lateStoresUnsure }], none⟩) rfl ?_ AllReadyH.nil)
              · intro K1 hK1
                obtain ⟨sy, hsy, hty, hyn, hyb⟩ := own_txt R6.out.fst.1 HY.out.2.2.1 (by have := HY.out.2.1; omega)
                obtain ⟨sn, hsn, htn, hnn, hnb⟩ := own_txt R6.out.snd.1 HN.out.2.2.1 (by have := HN.out.2.1; omega)
                subst hsy
                subst hsn
                refine step_st (by rfl) 40 (.tmp 49) (.tmp 44) rfl g 36 (.slice sy.a sy.n sy.c) 43 _ rfl rfl R6.out.blk (by rw [Pp.length HL.out.2]; omega) (by kernel_rfl) rfl rfl ?_
                obtain ⟨V7, hv7⟩ : ∃ V, V6.setCell ⟨g, 36, none⟩ (.slice sy.a sy.n sy.c) = V := ⟨_, rfl⟩
                have F7 : Hid (Half A g p yes no sy sn V7) := half_of HL R6.out.blk R6.out.keep hty htn hyb hnb hv7
                rw [hv7]
                clear hv7 hty htn hyb hnb hyn hnn
                refine hK1.out _ _ F7.out.2.2.2.1 ?_
                clear hK1
                intro _
                try simp only [Act.put, List.setIfInBounds_toArray, List.set_cons_zero, List.set_cons_succ]
                refine wpAnyH_take (i := 10) (oi := ⟨some 50, Op.fieldAddr 43 (.tmp 2) 6, 0, "law.go:123", #[⟨0, .phase⟩, ⟨1, .phase⟩, ⟨2, .phase⟩, ⟨3, .phase⟩, ⟨4, .phase⟩, ⟨5, .phase⟩, ⟨6, .phase⟩, ⟨7, .phase⟩, ⟨8, .phase⟩, ⟨9, .phase⟩], none⟩) (v := .pointer (some ⟨g, 37, none⟩)) rfl (by kernel_rfl) (by kernel_rfl) (by kernel_rfl) (fun _ _ _ h => h.elim) (Or.inl ⟨by rfl, ?y70⟩) F7.out.2.2.2.1 ?_
                case y70 =>
                  intro V hV
                  go_simp
                simp only [Act.put, List.setIfInBounds_toArray, List.set_cons_zero, List.set_cons_succ]
                refine wpAnyH_ready (rs := [11]) (by kernel_rfl) (by simp) (AllReadyH.cons (i := 11) (o := ⟨none, Op.store 40 (.tmp 50) (.tmp 48), 0, "law.go:123", #[⟨10, .data⟩, ⟨7, .data⟩, ⟨9, .chain⟩, ⟨0, .phase⟩, ⟨1, .phase⟩, ⟨2, .phase⟩, ⟨3, .phase⟩, ⟨4, .phase⟩, ⟨5, .phase⟩, ⟨6, .phase⟩, ⟨7, .phase⟩, ⟨8, .phase⟩, ⟨9, .phase⟩], none⟩) rfl ?_ AllReadyH.nil)
                · intro K1 hK1
                  refine step_st (by rfl) 40 (.tmp 50) (.tmp 48) rfl g 37 (.slice sn.a sn.n sn.c) 43 _ rfl rfl F7.out.1 (by rw [Pp.length (p := { p with y := sy }) HL.out.2]; omega) (by kernel_rfl) rfl rfl ?_
                  obtain ⟨V8, hv8⟩ : ∃ V, V7.setCell ⟨g, 37, none⟩ (.slice sn.a sn.n sn.c) = V := ⟨_, rfl⟩
                  have F8 : Hid (Copied A g p yes no sy sn V8) := copied_of HL F7.out hv8
                  rw [hv8]
                  clear hv8
                  refine hK1.out _ _ F8.out.2.2.2 ?_
                  clear hK1
                  intro _
                  try simp only [Act.put, List.setIfInBounds_toArray, List.set_cons_zero, List.set_cons_succ]
                  refine wpAnyH_done (by kernel_rfl) ?_ _
                  exact hQ V8 _ _ sy sn F8.out
      · intro K1 hK1
        refine step_bs0 (by rfl) rfl ?_
        obtain ⟨V3, hv3⟩ : ∃ V, V2.alloc (.cells #[] 9) = V := ⟨_, rfl⟩
        obtain ⟨q3, hq3⟩ : ∃ m, V2.heap.size = m := ⟨_, rfl⟩
        have R3 : Hid (R13 A g p V3 (some (.slice (some ⟨q2, 0, none⟩) 0 0, [])) (some (.slice (some ⟨q3, 0, none⟩) 0 0, []))) := by rw [← hv3, ← hq3]; exact R2.out.swap.bs.swap
        rw [hv3, hq3]
        clear hv3 hq3
        refine hK1.out _ _ R3.out.keep ?_
        clear hK1
        intro _
        try simp only [Act.put, List.setIfInBounds_toArray, List.set_cons_zero, List.set_cons_succ]
        refine wpAnyH_ready (rs := [2]) (by kernel_rfl) (by simp) (AllReadyH.cons (i := 2) (o := ⟨some 43, Op.load 40 (.tmp 42), 40, "law.go:123", #[⟨1, .data⟩], none⟩) rfl ?_ AllReadyH.nil)
        · intro K1 hK1
          rw [if_pos (by rfl)]
          have hc : V3.cell? ⟨g, 36, none⟩ = some (.slice p.y.a p.y.n p.y.c) := R3.out.blk.cell (Pp.tail HL.out.2 1)
          go_wp2
          clear hc
          refine hK1.out _ _ R3.out.keep ?_
          clear hK1
          intro _
          try simp only [Act.put, List.setIfInBounds_toArray, List.set_cons_zero, List.set_cons_succ]
          refine wpAnyH_ready (rs := [3]) (by kernel_rfl) (by simp) (AllReadyH.cons (i := 3) (o := ⟨some 44, Op.call { callee := Callee.builtin Builtin.append, args := #[Operand.tmp 41, Operand.tmp 43], argTypes := #[40, 40] }, 40, "law.go:123", #[⟨0, .data⟩, ⟨2, .data⟩], none⟩) rfl ?_ AllReadyH.nil)
          · intro K1 hK1
            obtain ⟨v5, V5, hr5, hR5⟩ := R3.out.app (s := p.y) (l := yes) (strs_keep HY.out.1 R3.out.keep HNE.out.1) HY.out.2.1 HL.out.1 40
            refine step_run (by rfl) (.tmp 41) (.tmp 43) rfl _ p.y rfl rfl hr5 ?_
            have R5 : Hid (R13 A g p V5 (some (v5, yes)) (some (.slice (some ⟨q3, 0, none⟩) 0 0, []))) := hR5
            clear hr5 hR5
            refine hK1.out _ _ R5.out.keep ?_
            clear hK1
            intro _
            try simp only [Act.put, List.setIfInBounds_toArray, List.set_cons_zero, List.set_cons_succ]
            refine wpAnyH_take (i := 8) (oi := ⟨some 49, Op.fieldAddr 43 (.tmp 2) 5, 0, "law.go:123", #[⟨0, .phase⟩, ⟨1, .phase⟩, ⟨2, .phase⟩, ⟨3, .phase⟩, { on := 4, ground := Ground.textOnly Departure.lateStores }, ⟨5, .phase⟩, ⟨6, .phase⟩, { on := 7, ground := Ground.textOnly Departure.lateStoresUnsure }], none⟩) (v := .pointer (some ⟨g, 36, none⟩)) rfl (by kernel_rfl) (by kernel_rfl) (by kernel_rfl) (fun _ _ _ h => h.elim) (Or.inl ⟨by rfl, ?y71⟩) R5.out.keep ?_
            case y71 =>
              intro V hV
              go_simp
            simp only [Act.put, List.setIfInBounds_toArray, List.set_cons_zero, List.set_cons_succ]
            refine wpAnyH_ready (rs := [7]) (by kernel_rfl) (by simp) (AllReadyH.cons (i := 7) (o := ⟨some 48, Op.call { callee := Callee.builtin Builtin.append, args := #[Operand.tmp 45, Operand.tmp 47], argTypes := #[40, 40] }, 40, "law.go:123", #[⟨4, .data⟩, ⟨6, .data⟩, ⟨3, .chain⟩], none⟩) rfl ?_ AllReadyH.nil)
            · intro K1 hK1
              obtain ⟨v6, V6, hr6, hR6⟩ := R5.out.swap.app (s := p.n) (l := no) (strs_keep HN.out.1 R5.out.keep HNE.out.2) HN.out.2.1 HL.out.1 40
              refine step_run (by rfl) (.tmp 45) (.tmp 47) rfl _ p.n rfl rfl hr6 ?_
              have R6 : Hid (R13 A g p V6 (some (v5, yes)) (some (v6, no))) := hR6.swap
              clear hr6 hR6
              refine hK1.out _ _ R6.out.keep ?_
              clear hK1
              intro _
              try simp only [Act.put, List.setIfInBounds_toArray, List.set_cons_zero, List.set_cons_succ]
              refine wpAnyH_ready (rs := [9]) (by kernel_rfl) (by simp) (AllReadyH.cons (i := 9) (o := ⟨none, Op.store 40 (.tmp 49) (.tmp 44), 0, "law.go:123", #[⟨8, .data⟩, ⟨3, .data⟩, ⟨7, .chain⟩, ⟨0, .phase⟩, ⟨1, .phase⟩, ⟨2, .phase⟩, ⟨3, .phase⟩, { on := 4, ground := Ground.textOnly Departure.lateStores }, ⟨5, .phase⟩, ⟨6, .phase⟩, { on := 7, ground := Ground.textOnly Departure.lateStoresUnsure }], none⟩) rfl ?_ AllReadyH.nil)
              · intro K1 hK1
                obtain ⟨sy, hsy, hty, hyn, hyb⟩ := own_txt R6.out.fst.1 HY.out.2.2.1 (by have := HY.out.2.1; omega)
                obtain ⟨sn, hsn, htn, hnn, hnb⟩ := own_txt R6.out.snd.1 HN.out.2.2.1 (by have := HN.out.2.1; omega)
                subst hsy
                subst hsn
                refine step_st (by rfl) 40 (.tmp 49) (.tmp 44) rfl g 36 (.slice sy.a sy.n sy.c) 43 _ rfl rfl R6.out.blk (by rw [Pp.length HL.out.2]; omega) (by kernel_rfl) rfl rfl ?_
                obtain ⟨V7, hv7⟩ : ∃ V, V6.setCell ⟨g, 36, none⟩ (.slice sy.a sy.n sy.c) = V := ⟨_, rfl⟩
                have F7 : Hid (Half A g p yes no sy sn V7) := half_of HL R6.out.blk R6.out.keep hty htn hyb hnb hv7
                rw [hv7]
                clear hv7 hty htn hyb hnb hyn hnn
                refine hK1.out _ _ F7.out.2.2.2.1 ?_
                clear hK1
                intro _
                try simp only [Act.put, List.setIfInBounds_toArray, List.set_cons_zero, List.set_cons_succ]
                refine wpAnyH_take (i := 10) (oi := ⟨some 50, Op.fieldAddr 43 (.tmp 2) 6, 0, "law.go:123", #[⟨0, .phase⟩, ⟨1, .phase⟩, ⟨2, .phase⟩, ⟨3, .phase⟩, ⟨4, .phase⟩, ⟨5, .phase⟩, ⟨6, .phase⟩, ⟨7, .phase⟩, ⟨8, .phase⟩, ⟨9, .phase⟩], none⟩) (v := .pointer (some ⟨g, 37, none⟩)) rfl (by kernel_rfl) (by kernel_rfl) (by kernel_rfl) (fun _ _ _ h => h.elim) (Or.inl ⟨by rfl, ?y72⟩) F7.out.2.2.2.1 ?_
                case y72 =>
                  intro V hV
                  go_simp
                simp only [Act.put, List.setIfInBounds_toArray, List.set_cons_zero, List.set_cons_succ]
                refine wpAnyH_ready (rs := [11]) (by kernel_rfl) (by simp) (AllReadyH.cons (i := 11) (o := ⟨none, Op.store 40 (.tmp 50) (.tmp 48), 0, "law.go:123", #[⟨10, .data⟩, ⟨7, .data⟩, ⟨9, .chain⟩, ⟨0, .phase⟩, ⟨1, .phase⟩, ⟨2, .phase⟩, ⟨3, .phase⟩, ⟨4, .phase⟩, ⟨5, .phase⟩, ⟨6, .phase⟩, ⟨7, .phase⟩, ⟨8, .phase⟩, ⟨9, .phase⟩], none⟩) rfl ?_ AllReadyH.nil)
                · intro K1 hK1
                  refine step_st (by rfl) 40 (.tmp 50) (.tmp 48) rfl g 37 (.slice sn.a sn.n sn.c) 43 _ rfl rfl F7.out.1 (by rw [Pp.length (p := { p with y := sy }) HL.out.2]; omega) (by kernel_rfl) rfl rfl ?_
                  obtain ⟨V8, hv8⟩ : ∃ V, V7.setCell ⟨g, 37, none⟩ (.slice sn.a sn.n sn.c) = V := ⟨_, rfl⟩
                  have F8 : Hid (Copied A g p yes no sy sn V8) := copied_of HL F7.out hv8
                  rw [hv8]
                  clear hv8
                  refine hK1.out _ _ F8.out.2.2.2 ?_
                  clear hK1
                  intro _
                  try simp only [Act.put, List.setIfInBounds_toArray, List.set_cons_zero, List.set_cons_succ]
                  refine wpAnyH_done (by kernel_rfl) ?_ _
                  exact hQ V8 _ _ sy sn F8.out
    · intro K1 hK1
      rw [if_pos (by rfl)]
      have hc : V0.cell? ⟨g, 36, none⟩ = some (.slice p.y.a p.y.n p.y.c) := R0.out.blk.cell (Pp.tail HL.out.2 1)
      go_wp2
      clear hc
      refine hK1.out _ _ hS0.out ?_
      clear hK1
      intro _
      try simp only [Act.put, List.setIfInBounds_toArray, List.set_cons_zero, List.set_cons_succ]
      refine wpAnyH_ready (rs := [0, 4]) (by kernel_rfl) (by simp) (AllReadyH.cons (i := 0) (o := ⟨some 41, Op.buildSlice 40 0 #[], 40, "law.go:123", #[], none⟩) rfl ?_ (AllReadyH.cons (i := 4) (o := ⟨some 45, Op.buildSlice 40 0 #[], 40, "law.go:123", #[], none⟩) rfl ?_ AllReadyH.nil))
      · intro K1 hK1
        refine step_bs0 (by rfl) rfl ?_
        obtain ⟨V3, hv3⟩ : ∃ V, V0.alloc (.cells #[] 9) = V := ⟨_, rfl⟩
        obtain ⟨q3, hq3⟩ : ∃ m, V0.heap.size = m := ⟨_, rfl⟩
        have R3 : Hid (R13 A g p V3 (some (.slice (some ⟨q3, 0, none⟩) 0 0, [])) none) := by rw [← hv3, ← hq3]; exact R0.out.bs
        rw [hv3, hq3]
        clear hv3 hq3
        refine hK1.out _ _ R3.out.keep ?_
        clear hK1
        intro _
        try simp only [Act.put, List.setIfInBounds_toArray, List.set_cons_zero, List.set_cons_succ]
        refine wpAnyH_ready (rs := [3, 4]) (by kernel_rfl) (by simp) (AllReadyH.cons (i := 3) (o := ⟨some 44, Op.call { callee := Callee.builtin Builtin.append, args := #[Operand.tmp 41, Operand.tmp 43], argTypes := #[40, 40] }, 40, "law.go:123", #[⟨0, .data⟩, ⟨2, .data⟩], none⟩) rfl ?_ (AllReadyH.cons (i := 4) (o := ⟨some 45, Op.buildSlice 40 0 #[], 40, "law.go:123", #[], none⟩) rfl ?_ AllReadyH.nil))
        · intro K1 hK1
          obtain ⟨v4, V4, hr4, hR4⟩ := R3.out.app (s := p.y) (l := yes) (strs_keep HY.out.1 R3.out.keep HNE.out.1) HY.out.2.1 HL.out.1 40
          refine step_run (by rfl) (.tmp 41) (.tmp 43) rfl _ p.y rfl rfl hr4 ?_
          have R4 : Hid (R13 A g p V4 (some (v4, yes)) none) := hR4
          clear hr4 hR4
          refine hK1.out _ _ R4.out.keep ?_
          clear hK1
          intro _
          try simp only [Act.put, List.setIfInBounds_toArray, List.set_cons_zero, List.set_cons_succ]
          refine wpAnyH_take (i := 8) (oi := ⟨some 49, Op.fieldAddr 43 (.tmp 2) 5, 0, "law.go:123", #[⟨0, .phase⟩, ⟨1, .phase⟩, ⟨2, .phase⟩, ⟨3, .phase⟩, { on := 4, ground := Ground.textOnly Departure.lateStores }, ⟨5, .phase⟩, ⟨6, .phase⟩, { on := 7, ground := Ground.textOnly Departure.lateStoresUnsure }], none⟩) (v := .pointer (some ⟨g, 36, none⟩)) rfl (by kernel_rfl) (by kernel_rfl) (by kernel_rfl) (fun _ _ _ h => h.elim) (Or.inl ⟨by rfl, ?y73⟩) R4.out.keep ?_
          case y73 =>
            intro V hV
            go_simp
          simp only [Act.put, List.setIfInBounds_toArray, List.set_cons_zero, List.set_cons_succ]
          refine wpAnyH_ready (rs := [4]) (by kernel_rfl) (by simp) (AllReadyH.cons (i := 4) (o := ⟨some 45, Op.buildSlice 40 0 #[], 40, "law.go:123", #[], none⟩) rfl ?_ AllReadyH.nil)
          · intro K1 hK1
            refine step_bs0 (by rfl) rfl ?_
            obtain ⟨V5, hv5⟩ : ∃ V, V4.alloc (.cells #[] 9) = V := ⟨_, rfl⟩
            obtain ⟨q5, hq5⟩ : ∃ m, V4.heap.size = m := ⟨_, rfl⟩
            have R5 : Hid (R13 A g p V5 (some (v4, yes)) (some (.slice (some ⟨q5, 0, none⟩) 0 0, []))) := by rw [← hv5, ← hq5]; exact R4.out.swap.bs.swap
            rw [hv5, hq5]
            clear hv5 hq5
            refine hK1.out _ _ R5.out.keep ?_
            clear hK1
            intro _
            try simp only [Act.put, List.setIfInBounds_toArray, List.set_cons_zero, List.set_cons_succ]
            refine wpAnyH_ready (rs := [7]) (by kernel_rfl) (by simp) (AllReadyH.cons (i := 7) (o := ⟨some 48, Op.call { callee := Callee.builtin Builtin.append, args := #[Operand.tmp 45, Operand.tmp 47], argTypes := #[40, 40] }, 40, "law.go:123", #[⟨4, .data⟩, ⟨6, .data⟩, ⟨3, .chain⟩], none⟩) rfl ?_ AllReadyH.nil)
            · intro K1 hK1
              obtain ⟨v6, V6, hr6, hR6⟩ := R5.out.swap.app (s := p.n) (l := no) (strs_keep HN.out.1 R5.out.keep HNE.out.2) HN.out.2.1 HL.out.1 40
              refine step_run (by rfl) (.tmp 45) (.tmp 47) rfl _ p.n rfl rfl hr6 ?_
              have R6 : Hid (R13 A g p V6 (some (v4, yes)) (some (v6, no))) := hR6.swap
              clear hr6 hR6
              refine hK1.out _ _ R6.out.keep ?_
              clear hK1
              intro _
              try simp only [Act.put, List.setIfInBounds_toArray, List.set_cons_zero, List.set_cons_succ]
              refine wpAnyH_ready (rs := [9]) (by kernel_rfl) (by simp) (AllReadyH.cons (i := 9) (o := ⟨none, Op.store 40 (.tmp 49) (.tmp 44), 0, "law.go:123", #[⟨8, .data⟩, ⟨3, .data⟩, ⟨7, .chain⟩, ⟨0, .phase⟩, ⟨1, .phase⟩, ⟨2, .phase⟩, ⟨3, .phase⟩, { on := 4, ground := Ground.textOnly Departure.lateStores }, ⟨5, .phase⟩, ⟨6, .phase⟩, { on := 7, ground := Ground.textOnly Departure.lateStoresUnsure }], none⟩) rfl ?_ AllReadyH.nil)
              · intro K1 hK1
                obtain ⟨sy, hsy, hty, hyn, hyb⟩ := own_txt R6.out.fst.1 HY.out.2.2.1 (by have := HY.out.2.1; omega)
                obtain ⟨sn, hsn, htn, hnn, hnb⟩ := own_txt R6.out.snd.1 HN.out.2.2.1 (by have := HN.out.2.1; omega)
                subst hsy
                subst hsn
                refine step_st (by rfl) 40 (.tmp 49) (.tmp 44) rfl g 36 (.slice sy.a sy.n sy.c) 43 _ rfl rfl R6.out.blk (by rw [Pp.length HL.out.2]; omega) (by kernel_rfl) rfl rfl ?_
                obtain ⟨V7, hv7⟩ : ∃ V, V6.setCell ⟨g, 36, none⟩ (.slice sy.a sy.n sy.c) = V := ⟨_, rfl⟩
                have F7 : Hid (Half A g p yes no sy sn V7) := half_of HL R6.out.blk R6.out.keep hty htn hyb hnb hv7
                rw [hv7]
                clear hv7 hty htn hyb hnb hyn hnn
                refine hK1.out _ _ F7.out.2.2.2.1 ?_
                clear hK1
                intro _
                try simp only [Act.put, List.setIfInBounds_toArray, List.set_cons_zero, List.set_cons_succ]
                refine wpAnyH_take (i := 10) (oi := ⟨some 50, Op.fieldAddr 43 (.tmp 2) 6, 0, "law.go:123", #[⟨0, .phase⟩, ⟨1, .phase⟩, ⟨2, .phase⟩, ⟨3, .phase⟩, ⟨4, .phase⟩, ⟨5, .phase⟩, ⟨6, .phase⟩, ⟨7, .phase⟩, ⟨8, .phase⟩, ⟨9, .phase⟩], none⟩) (v := .pointer (some ⟨g, 37, none⟩)) rfl (by kernel_rfl) (by kernel_rfl) (by kernel_rfl) (fun _ _ _ h => h.elim) (Or.inl ⟨by rfl, ?y74⟩) F7.out.2.2.2.1 ?_
                case y74 =>
                  intro V hV
                  go_simp
                simp only [Act.put, List.setIfInBounds_toArray, List.set_cons_zero, List.set_cons_succ]
                refine wpAnyH_ready (rs := [11]) (by kernel_rfl) (by simp) (AllReadyH.cons (i := 11) (o := ⟨none, Op.store 40 (.tmp 50) (.tmp 48), 0, "law.go:123", #[⟨10, .data⟩, ⟨7, .data⟩, ⟨9, .chain⟩, ⟨0, .phase⟩, ⟨1, .phase⟩, ⟨2, .phase⟩, ⟨3, .phase⟩, ⟨4, .phase⟩, ⟨5, .phase⟩, ⟨6, .phase⟩, ⟨7, .phase⟩, ⟨8, .phase⟩, ⟨9, .phase⟩], none⟩) rfl ?_ AllReadyH.nil)
                · intro K1 hK1
                  refine step_st (by rfl) 40 (.tmp 50) (.tmp 48) rfl g 37 (.slice sn.a sn.n sn.c) 43 _ rfl rfl F7.out.1 (by rw [Pp.length (p := { p with y := sy }) HL.out.2]; omega) (by kernel_rfl) rfl rfl ?_
                  obtain ⟨V8, hv8⟩ : ∃ V, V7.setCell ⟨g, 37, none⟩ (.slice sn.a sn.n sn.c) = V := ⟨_, rfl⟩
                  have F8 : Hid (Copied A g p yes no sy sn V8) := copied_of HL F7.out hv8
                  rw [hv8]
                  clear hv8
                  refine hK1.out _ _ F8.out.2.2.2 ?_
                  clear hK1
                  intro _
                  try simp only [Act.put, List.setIfInBounds_toArray, List.set_cons_zero, List.set_cons_succ]
                  refine wpAnyH_done (by kernel_rfl) ?_ _
                  exact hQ V8 _ _ sy sn F8.out
        · intro K1 hK1
          refine step_bs0 (by rfl) rfl ?_
          obtain ⟨V4, hv4⟩ : ∃ V, V3.alloc (.cells #[] 9) = V := ⟨_, rfl⟩
          obtain ⟨q4, hq4⟩ : ∃ m, V3.heap.size = m := ⟨_, rfl⟩
          have R4 : Hid (R13 A g p V4 (some (.slice (some ⟨q3, 0, none⟩) 0 0, [])) (some (.slice (some ⟨q4, 0, none⟩) 0 0, []))) := by rw [← hv4, ← hq4]; exact R3.out.swap.bs.swap
          rw [hv4, hq4]
          clear hv4 hq4
          refine hK1.out _ _ R4.out.keep ?_
          clear hK1
          intro _
          try simp only [Act.put, List.setIfInBounds_toArray, List.set_cons_zero, List.set_cons_succ]
          refine wpAnyH_ready (rs := [3]) (by kernel_rfl) (by simp) (AllReadyH.cons (i := 3) (o := ⟨some 44, Op.call { callee := Callee.builtin Builtin.append, args := #[Operand.tmp 41, Operand.tmp 43], argTypes := #[40, 40] }, 40, "law.go:123", #[⟨0, .data⟩, ⟨2, .data⟩], none⟩) rfl ?_ AllReadyH.nil)
          · intro K1 hK1
            obtain ⟨v5, V5, hr5, hR5⟩ := R4.out.app (s := p.y) (l := yes) (strs_keep HY.out.1 R4.out.keep HNE.out.1) HY.out.2.1 HL.out.1 40
            refine step_run (by rfl) (.tmp 41) (.tmp 43) rfl _ p.y rfl rfl hr5 ?_
            have R5 : Hid (R13 A g p V5 (some (v5, yes)) (some (.slice (some ⟨q4, 0, none⟩) 0 0, []))) := hR5
            clear hr5 hR5
            refine hK1.out _ _ R5.out.keep ?_
            clear hK1
            intro _
            try simp only [Act.put, List.setIfInBounds_toArray, List.set_cons_zero, List.set_cons_succ]
            refine wpAnyH_take (i := 8) (oi := ⟨some 49, Op.fieldAddr 43 (.tmp 2) 5, 0, "law.go:123", #[⟨0, .phase⟩, ⟨1, .phase⟩, ⟨2, .phase⟩, ⟨3, .phase⟩, { on := 4, ground := Ground.textOnly Departure.lateStores }, ⟨5, .phase⟩, ⟨6, .phase⟩, { on := 7, ground := Ground.textOnly Departure.lateStoresUnsure }], none⟩) (v := .pointer (some ⟨g, 36, none⟩)) rfl (by kernel_rfl) (by kernel_rfl) (by kernel_rfl) (fun _ _ _ h => h.elim) (Or.inl ⟨by rfl, ?y75⟩) R5.out.keep ?_
            case y75 =>
              intro V hV
              go_simp
            simp only [Act.put, List.setIfInBounds_toArray, List.set_cons_zero, List.set_cons_succ]
            refine wpAnyH_ready (rs := [7]) (by kernel_rfl) (by simp) (AllReadyH.cons (i := 7) (o := ⟨some 48, Op.call { callee := Callee.builtin Builtin.append, args := #[Operand.tmp 45, Operand.tmp 47], argTypes := #[40, 40] }, 40, "law.go:123", #[⟨4, .data⟩, ⟨6, .data⟩, ⟨3, .chain⟩], none⟩) rfl ?_ AllReadyH.nil)
            · intro K1 hK1
              obtain ⟨v6, V6, hr6, hR6⟩ := R5.out.swap.app (s := p.n) (l := no) (strs_keep HN.out.1 R5.out.keep HNE.out.2) HN.out.2.1 HL.out.1 40
              refine step_run (by rfl) (.tmp 45) (.tmp 47) rfl _ p.n rfl rfl hr6 ?_
              have R6 : Hid (R13 A g p V6 (some (v5, yes)) (some (v6, no))) := hR6.swap
              clear hr6 hR6
              refine hK1.out _ _ R6.out.keep ?_
              clear hK1
              intro _
              try simp only [Act.put, List.setIfInBounds_toArray, List.set_cons_zero, List.set_cons_succ]
              refine wpAnyH_ready (rs := [9]) (by kernel_rfl) (by simp) (AllReadyH.cons (i := 9) (o := ⟨none, Op.store 40 (.tmp 49) (.tmp 44), 0, "law.go:123", #[⟨8, .data⟩, ⟨3, .data⟩, ⟨7, .chain⟩, ⟨0, .phase⟩, ⟨1, .phase⟩, ⟨2, .phase⟩, ⟨3, .phase⟩, { on := 4, ground := Ground.textOnly Departure.lateStores }, ⟨5, .phase⟩, ⟨6, .phase⟩, { on := 7, ground := Ground.textOnly Departure.lateStoresUnsure }], none⟩) rfl ?_ AllReadyH.nil)
              · intro K1 hK1
                obtain ⟨sy, hsy, hty, hyn, hyb⟩ := own_txt R6.out.fst.1 HY.out.2.2.1 (by have := HY.out.2.1; omega)
                obtain ⟨sn, hsn, htn, hnn, hnb⟩ := own_txt R6.out.snd.1 HN.out.2.2.1 (by have := HN.out.2.1; omega)
                subst hsy
                subst hsn
                refine step_st (by rfl) 40 (.tmp 49) (.tmp 44) rfl g 36 (.slice sy.a sy.n sy.c) 43 _ rfl rfl R6.out.blk (by rw [Pp.length HL.out.2]; omega) (by kernel_rfl) rfl rfl ?_
                obtain ⟨V7, hv7⟩ : ∃ V, V6.setCell ⟨g, 36, none⟩ (.slice sy.a sy.n sy.c) = V := ⟨_, rfl⟩
                have F7 : Hid (Half A g p yes no sy sn V7) := half_of HL R6.out.blk R6.out.keep hty htn hyb hnb hv7
                rw [hv7]
                clear hv7 hty htn hyb hnb hyn hnn
                refine hK1.out _ _ F7.out.2.2.2.1 ?_
                clear hK1
                intro _
                try simp only [Act.put, List.setIfInBounds_toArray, List.set_cons_zero, List.set_cons_succ]
                refine wpAnyH_take (i := 10) (oi := ⟨some 50, Op.fieldAddr 43 (.tmp 2) 6, 0, "law.go:123", #[⟨0, .phase⟩, ⟨1, .phase⟩, ⟨2, .phase⟩, ⟨3, .phase⟩, ⟨4, .phase⟩, ⟨5, .phase⟩, ⟨6, .phase⟩, ⟨7, .phase⟩, ⟨8, .phase⟩, ⟨9, .phase⟩], none⟩) (v := .pointer (some ⟨g, 37, none⟩)) rfl (by kernel_rfl) (by kernel_rfl) (by kernel_rfl) (fun _ _ _ h => h.elim) (Or.inl ⟨by rfl, ?y76⟩) F7.out.2.2.2.1 ?_
                case y76 =>
                  intro V hV
                  go_simp
                simp only [Act.put, List.setIfInBounds_toArray, List.set_cons_zero, List.set_cons_succ]
                refine wpAnyH_ready (rs := [11]) (by kernel_rfl) (by simp) (AllReadyH.cons (i := 11) (o := ⟨none, Op.store 40 (.tmp 50) (.tmp 48), 0, "law.go:123", #[⟨10, .data⟩, ⟨7, .data⟩, ⟨9, .chain⟩, ⟨0, .phase⟩, ⟨1, .phase⟩, ⟨2, .phase⟩, ⟨3, .phase⟩, ⟨4, .phase⟩, ⟨5, .phase⟩, ⟨6, .phase⟩, ⟨7, .phase⟩, ⟨8, .phase⟩, ⟨9, .phase⟩], none⟩) rfl ?_ AllReadyH.nil)
                · intro K1 hK1
                  refine step_st (by rfl) 40 (.tmp 50) (.tmp 48) rfl g 37 (.slice sn.a sn.n sn.c) 43 _ rfl rfl F7.out.1 (by rw [Pp.length (p := { p with y := sy }) HL.out.2]; omega) (by kernel_rfl) rfl rfl ?_
                  obtain ⟨V8, hv8⟩ : ∃ V, V7.setCell ⟨g, 37, none⟩ (.slice sn.a sn.n sn.c) = V := ⟨_, rfl⟩
                  have F8 : Hid (Copied A g p yes no sy sn V8) := copied_of HL F7.out hv8
                  rw [hv8]
                  clear hv8
                  refine hK1.out _ _ F8.out.2.2.2 ?_
                  clear hK1
                  intro _
                  try simp only [Act.put, List.setIfInBounds_toArray, List.set_cons_zero, List.set_cons_succ]
                  refine wpAnyH_done (by kernel_rfl) ?_ _
                  exact hQ V8 _ _ sy sn F8.out
      · intro K1 hK1
        refine step_bs0 (by rfl) rfl ?_
        obtain ⟨V3, hv3⟩ : ∃ V, V0.alloc (.cells #[] 9) = V := ⟨_, rfl⟩
        obtain ⟨q3, hq3⟩ : ∃ m, V0.heap.size = m := ⟨_, rfl⟩
        have R3 : Hid (R13 A g p V3 none (some (.slice (some ⟨q3, 0, none⟩) 0 0, []))) := by rw [← hv3, ← hq3]; exact R0.out.swap.bs.swap
        rw [hv3, hq3]
        clear hv3 hq3
        refine hK1.out _ _ R3.out.keep ?_
        clear hK1
        intro _
        try simp only [Act.put, List.setIfInBounds_toArray, List.set_cons_zero, List.set_cons_succ]
        refine wpAnyH_ready (rs := [0]) (by kernel_rfl) (by simp) (AllReadyH.cons (i := 0) (o := ⟨some 41, Op.buildSlice 40 0 #[], 40, "law.go:123", #[], none⟩) rfl ?_ AllReadyH.nil)
        · intro K1 hK1
          refine step_bs0 (by rfl) rfl ?_
          obtain ⟨V4, hv4⟩ : ∃ V, V3.alloc (.cells #[] 9) = V := ⟨_, rfl⟩
          obtain ⟨q4, hq4⟩ : ∃ m, V3.heap.size = m := ⟨_, rfl⟩
          have R4 : Hid (R13 A g p V4 (some (.slice (some ⟨q4, 0, none⟩) 0 0, [])) (some (.slice (some ⟨q3, 0, none⟩) 0 0, []))) := by rw [← hv4, ← hq4]; exact R3.out.bs
          rw [hv4, hq4]
          clear hv4 hq4
          refine hK1.out _ _ R4.out.keep ?_
          clear hK1
          intro _
          try simp only [Act.put, List.setIfInBounds_toArray, List.set_cons_zero, List.set_cons_succ]
          refine wpAnyH_ready (rs := [3]) (by kernel_rfl) (by simp) (AllReadyH.cons (i := 3) (o := ⟨some 44, Op.call { callee := Callee.builtin Builtin.append, args := #[Operand.tmp 41, Operand.tmp 43], argTypes := #[40, 40] }, 40, "law.go:123", #[⟨0, .data⟩, ⟨2, .data⟩], none⟩) rfl ?_ AllReadyH.nil)
          · intro K1 hK1
            obtain ⟨v5, V5, hr5, hR5⟩ := R4.out.app (s := p.y) (l := yes) (strs_keep HY.out.1 R4.out.keep HNE.out.1) HY.out.2.1 HL.out.1 40
            refine step_run (by rfl) (.tmp 41) (.tmp 43) rfl _ p.y rfl rfl hr5 ?_
            have R5 : Hid (R13 A g p V5 (some (v5, yes)) (some (.slice (some ⟨q3, 0, none⟩) 0 0, []))) := hR5
            clear hr5 hR5
            refine hK1.out _ _ R5.out.keep ?_
            clear hK1
            intro _
            try simp only [Act.put, List.setIfInBounds_toArray, List.set_cons_zero, List.set_cons_succ]
            refine wpAnyH_take (i := 8) (oi := ⟨some 49, Op.fieldAddr 43 (.tmp 2) 5, 0, "law.go:123", #[⟨0, .phase⟩, ⟨1, .phase⟩, ⟨2, .phase⟩, ⟨3, .phase⟩, { on := 4, ground := Ground.textOnly Departure.lateStores }, ⟨5, .phase⟩, ⟨6, .phase⟩, { on := 7, ground := Ground.textOnly Departure.lateStoresUnsure }], none⟩) (v := .pointer (some ⟨g, 36, none⟩)) rfl (by kernel_rfl) (by kernel_rfl) (by kernel_rfl) (fun _ _ _ h => h.elim) (Or.inl ⟨by rfl, ?y77⟩) R5.out.keep ?_
            case y77 =>
              intro V hV
              go_simp
            simp only [Act.put, List.setIfInBounds_toArray, List.set_cons_zero, List.set_cons_succ]
            refine wpAnyH_ready (rs := [7]) (by kernel_rfl) (by simp) (AllReadyH.cons (i := 7) (o := ⟨some 48, Op.call { callee := Callee.builtin Builtin.append, args := #[Operand.tmp 45, Operand.tmp 47], argTypes := #[40, 40] }, 40, "law.go:123", #[⟨4, .data⟩, ⟨6, .data⟩, ⟨3, .chain⟩], none⟩) rfl ?_ AllReadyH.nil)
            · intro K1 hK1
              obtain ⟨v6, V6, hr6, hR6⟩ := R5.out.swap.app (s := p.n) (l := no) (strs_keep HN.out.1 R5.out.keep HNE.out.2) HN.out.2.1 HL.out.1 40
              refine step_run (by rfl) (.tmp 45) (.tmp 47) rfl _ p.n rfl rfl hr6 ?_
              have R6 : Hid (R13 A g p V6 (some (v5, yes)) (some (v6, no))) := hR6.swap
              clear hr6 hR6
              refine hK1.out _ _ R6.out.keep ?_
              clear hK1
              intro _
              try simp only [Act.put, List.setIfInBounds_toArray, List.set_cons_zero, List.set_cons_succ]
              refine wpAnyH_ready (rs := [9]) (by kernel_rfl) (by simp) (AllReadyH.cons (i := 9) (o := ⟨none, Op.store 40 (.tmp 49) (.tmp 44), 0, "law.go:123", #[⟨8, .data⟩, ⟨3, .data⟩, ⟨7, .chain⟩, ⟨0, .phase⟩, ⟨1, .phase⟩, ⟨2, .phase⟩, ⟨3, .phase⟩, { on := 4, ground := Ground.textOnly Departure.lateStores }, ⟨5, .phase⟩, ⟨6, .phase⟩, { on := 7, ground := Ground.textOnly Departure.lateStoresUnsure }], none⟩) rfl ?_ AllReadyH.nil)
              · intro K1 hK1
                obtain ⟨sy, hsy, hty, hyn, hyb⟩ := own_txt R6.out.fst.1 HY.out.2.2.1 (by have := HY.out.2.1; omega)
                obtain ⟨sn, hsn, htn, hnn, hnb⟩ := own_txt R6.out.snd.1 HN.out.2.2.1 (by have := HN.out.2.1; omega)
                subst hsy
                subst hsn
                refine step_st (by rfl) 40 (.tmp 49) (.tmp 44) rfl g 36 (.slice sy.a sy.n sy.c) 43 _ rfl rfl R6.out.blk (by rw [Pp.length HL.out.2]; omega) (by kernel_rfl) rfl rfl ?_
                obtain ⟨V7, hv7⟩ : ∃ V, V6.setCell ⟨g, 36, none⟩ (.slice sy.a sy.n sy.c) = V := ⟨_, rfl⟩
                have F7 : Hid (Half A g p yes no sy sn V7) := half_of HL R6.out.blk R6.out.keep hty htn hyb hnb hv7
                rw [hv7]
                clear hv7 hty htn hyb hnb hyn hnn
                refine hK1.out _ _ F7.out.2.2.2.1 ?_
                clear hK1
                intro _
                try simp only [Act.put, List.setIfInBounds_toArray, List.set_cons_zero, List.set_cons_succ]
                refine wpAnyH_take (i := 10) (oi := ⟨some 50, Op.fieldAddr 43 (.tmp 2) 6, 0, "law.go:123", #[⟨0, .phase⟩, ⟨1, .phase⟩, ⟨2, .phase⟩, ⟨3, .phase⟩, ⟨4, .phase⟩, ⟨5, .phase⟩, ⟨6, .phase⟩, ⟨7, .phase⟩, ⟨8, .phase⟩, ⟨9, .phase⟩], none⟩) (v := .pointer (some ⟨g, 37, none⟩)) rfl (by kernel_rfl) (by kernel_rfl) (by kernel_rfl) (fun _ _ _ h => h.elim) (Or.inl ⟨by rfl, ?y78⟩) F7.out.2.2.2.1 ?_
                case y78 =>
                  intro V hV
                  go_simp
                simp only [Act.put, List.setIfInBounds_toArray, List.set_cons_zero, List.set_cons_succ]
                refine wpAnyH_ready (rs := [11]) (by kernel_rfl) (by simp) (AllReadyH.cons (i := 11) (o := ⟨none, Op.store 40 (.tmp 50) (.tmp 48), 0, "law.go:123", #[⟨10, .data⟩, ⟨7, .data⟩, ⟨9, .chain⟩, ⟨0, .phase⟩, ⟨1, .phase⟩, ⟨2, .phase⟩, ⟨3, .phase⟩, ⟨4, .phase⟩, ⟨5, .phase⟩, ⟨6, .phase⟩, ⟨7, .phase⟩, ⟨8, .phase⟩, ⟨9, .phase⟩], none⟩) rfl ?_ AllReadyH.nil)
                · intro K1 hK1
                  refine step_st (by rfl) 40 (.tmp 50) (.tmp 48) rfl g 37 (.slice sn.a sn.n sn.c) 43 _ rfl rfl F7.out.1 (by rw [Pp.length (p := { p with y := sy }) HL.out.2]; omega) (by kernel_rfl) rfl rfl ?_
                  obtain ⟨V8, hv8⟩ : ∃ V, V7.setCell ⟨g, 37, none⟩ (.slice sn.a sn.n sn.c) = V := ⟨_, rfl⟩
                  have F8 : Hid (Copied A g p yes no sy sn V8) := copied_of HL F7.out hv8
                  rw [hv8]
                  clear hv8
                  refine hK1.out _ _ F8.out.2.2.2 ?_
                  clear hK1
                  intro _
                  try simp only [Act.put, List.setIfInBounds_toArray, List.set_cons_zero, List.set_cons_succ]
                  refine wpAnyH_done (by kernel_rfl) ?_ _
                  exact hQ V8 _ _ sy sn F8.out
    · intro K1 hK1
      refine step_bs0 (by rfl) rfl ?_
      obtain ⟨V2, hv2⟩ : ∃ V, V0.alloc (.cells #[] 9) = V := ⟨_, rfl⟩
      obtain ⟨q2, hq2⟩ : ∃ m, V0.heap.size = m := ⟨_, rfl⟩
      have R2 : Hid (R13 A g p V2 none (some (.slice (some ⟨q2, 0, none⟩) 0 0, []))) := by rw [← hv2, ← hq2]; exact R0.out.swap.bs.swap
      rw [hv2, hq2]
      clear hv2 hq2
      refine hK1.out _ _ R2.out.keep ?_
      clear hK1
      intro _
      try simp only [Act.put, List.setIfInBounds_toArray, List.set_cons_zero, List.set_cons_succ]
      refine wpAnyH_ready (rs := [0, 2]) (by kernel_rfl) (by simp) (AllReadyH.cons (i := 0) (o := ⟨some 41, Op.buildSlice 40 0 #[], 40, "law.go:123", #[], none⟩) rfl ?_ (AllReadyH.cons (i := 2) (o := ⟨some 43, Op.load 40 (.tmp 42), 40, "law.go:123", #[⟨1, .data⟩], none⟩) rfl ?_ AllReadyH.nil))
      · intro K1 hK1
        refine step_bs0 (by rfl) rfl ?_
        obtain ⟨V3, hv3⟩ : ∃ V, V2.alloc (.cells #[] 9) = V := ⟨_, rfl⟩
        obtain ⟨q3, hq3⟩ : ∃ m, V2.heap.size = m := ⟨_, rfl⟩
        have R3 : Hid (R13 A g p V3 (some (.slice (some ⟨q3, 0, none⟩) 0 0, [])) (some (.slice (some ⟨q2, 0, none⟩) 0 0, []))) := by rw [← hv3, ← hq3]; exact R2.out.bs
        rw [hv3, hq3]
        clear hv3 hq3
        refine hK1.out _ _ R3.out.keep ?_
        clear hK1
        intro _
        try simp only [Act.put, List.setIfInBounds_toArray, List.set_cons_zero, List.set_cons_succ]
        refine wpAnyH_ready (rs := [2]) (by kernel_rfl) (by simp) (AllReadyH.cons (i := 2) (o := ⟨some 43, Op.load 40 (.tmp 42), 40, "law.go:123", #[⟨1, .data⟩], none⟩) rfl ?_ AllReadyH.nil)
        · intro K1 hK1
          rw [if_pos (by rfl)]
          have hc : V3.cell? ⟨g, 36, none⟩ = some (.slice p.y.a p.y.n p.y.c) := R3.out.blk.cell (Pp.tail HL.out.2 1)
          go_wp2
          clear hc
          refine hK1.out _ _ R3.out.keep ?_
          clear hK1
          intro _
          try simp only [Act.put, List.setIfInBounds_toArray, List.set_cons_zero, List.set_cons_succ]
          refine wpAnyH_ready (rs := [3]) (by kernel_rfl) (by simp) (AllReadyH.cons (i := 3) (o := ⟨some 44, Op.call { callee := Callee.builtin Builtin.append, args := #[Operand.tmp 41, Operand.tmp 43], argTypes := #[40, 40] }, 40, "law.go:123", #[⟨0, .data⟩, ⟨2, .data⟩], none⟩) rfl ?_ AllReadyH.nil)
          · intro K1 hK1
            obtain ⟨v5, V5, hr5, hR5⟩ := R3.out.app (s := p.y) (l := yes) (strs_keep HY.out.1 R3.out.keep HNE.out.1) HY.out.2.1 HL.out.1 40
            refine step_run (by rfl) (.tmp 41) (.tmp 43) rfl _ p.y rfl rfl hr5 ?_
            have R5 : Hid (R13 A g p V5 (some (v5, yes)) (some (.slice (some ⟨q2, 0, none⟩) 0 0, []))) := hR5
            clear hr5 hR5
            refine hK1.out _ _ R5.out.keep ?_
            clear hK1
            intro _
            try simp only [Act.put, List.setIfInBounds_toArray, List.set_cons_zero, List.set_cons_succ]
            refine wpAnyH_take (i := 8) (oi := ⟨some 49, Op.fieldAddr 43 (.tmp 2) 5, 0, "law.go:123", #[⟨0, .phase⟩, ⟨1, .phase⟩, ⟨2, .phase⟩, ⟨3, .phase⟩, { on := 4, ground := Ground.textOnly Departure.lateStores }, ⟨5, .phase⟩, ⟨6, .phase⟩, { on := 7, ground := Ground.textOnly Departure.lateStoresUnsure }], none⟩) (v := .pointer (some ⟨g, 36, none⟩)) rfl (by kernel_rfl) (by kernel_rfl) (by kernel_rfl) (fun _ _ _ h => h.elim) (Or.inl ⟨by rfl, ?y79⟩) R5.out.keep ?_
            case y79 =>
              intro V hV
              go_simp
            simp only [Act.put, List.setIfInBounds_toArray, List.set_cons_zero, List.set_cons_succ]
            refine wpAnyH_ready (rs := [7]) (by kernel_rfl) (by simp) (AllReadyH.cons (i := 7) (o := ⟨some 48, Op.call { callee := Callee.builtin Builtin.append, args := #[Operand.tmp 45, Operand.tmp 47], argTypes := #[40, 40] }, 40, "law.go:123", #[⟨4, .data⟩, ⟨6, .data⟩, ⟨3, .chain⟩], none⟩) rfl ?_ AllReadyH.nil)
            · intro K1 hK1
              obtain ⟨v6, V6, hr6, hR6⟩ := R5.out.swap.app (s := p.n) (l := no) (strs_keep HN.out.1 R5.out.keep HNE.out.2) HN.out.2.1 HL.out.1 40
              refine step_run (by rfl) (.tmp 45) (.tmp 47) rfl _ p.n rfl rfl hr6 ?_
              have R6 : Hid (R13 A g p V6 (some (v5, yes)) (some (v6, no))) := hR6.swap
              clear hr6 hR6
              refine hK1.out _ _ R6.out.keep ?_
              clear hK1
              intro _
              try simp only [Act.put, List.setIfInBounds_toArray, List.set_cons_zero, List.set_cons_succ]
              refine wpAnyH_ready (rs := [9]) (by kernel_rfl) (by simp) (AllReadyH.cons (i := 9) (o := ⟨none, Op.store 40 (.tmp 49) (.tmp 44), 0, "law.go:123", #[⟨8, .data⟩, ⟨3, .data⟩, ⟨7, .chain⟩, ⟨0, .phase⟩, ⟨1, .phase⟩, ⟨2, .phase⟩, ⟨3, .phase⟩, { on := 4, ground := Ground.textOnly Departure.lateStores }, ⟨5, .phase⟩, ⟨6, .phase⟩, { on := 7, ground := Ground.textOnly Departure.lateStoresUnsure }], none⟩) rfl ?_ AllReadyH.nil)
              · intro K1 hK1
                obtain ⟨sy, hsy, hty, hyn, hyb⟩ := own_txt R6.out.fst.1 HY.out.2.2.1 (by have := HY.out.2.1; omega)
                obtain ⟨sn, hsn, htn, hnn, hnb⟩ := own_txt R6.out.snd.1 HN.out.2.2.1 (by have := HN.out.2.1; omega)
                subst hsy
                subst hsn
                refine step_st (by rfl) 40 (.tmp 49) (.tmp 44) rfl g 36 (.slice sy.a sy.n sy.c) 43 _ rfl rfl R6.out.blk (by rw [Pp.length HL.out.2]; omega) (by kernel_rfl) rfl rfl ?_
                obtain ⟨V7, hv7⟩ : ∃ V, V6.setCell ⟨g, 36, none⟩ (.slice sy.a sy.n sy.c) = V := ⟨_, rfl⟩
                have F7 : Hid (Half A g p yes no sy sn V7) := half_of HL R6.out.blk R6.out.keep hty htn hyb hnb hv7
                rw [hv7]
                clear hv7 hty htn hyb hnb hyn hnn
                refine hK1.out _ _ F7.out.2.2.2.1 ?_
                clear hK1
                intro _
                try simp only [Act.put, List.setIfInBounds_toArray, List.set_cons_zero, List.set_cons_succ]
                refine wpAnyH_take (i := 10) (oi := ⟨some 50, Op.fieldAddr 43 (.tmp 2) 6, 0, "law.go:123", #[⟨0, .phase⟩, ⟨1, .phase⟩, ⟨2, .phase⟩, ⟨3, .phase⟩, ⟨4, .phase⟩, ⟨5, .phase⟩, ⟨6, .phase⟩, ⟨7, .phase⟩, ⟨8, .phase⟩, ⟨9, .phase⟩], none⟩) (v := .pointer (some ⟨g, 37, none⟩)) rfl (by kernel_rfl) (by kernel_rfl) (by kernel_rfl) (fun _ _ _ h => h.elim) (Or.inl ⟨by rfl, ?y80⟩) F7.out.2.2.2.1 ?_
                case y80 =>
                  intro V hV
                  go_simp
                simp only [Act.put, List.setIfInBounds_toArray, List.set_cons_zero, List.set_cons_succ]
                refine wpAnyH_ready (rs := [11]) (by kernel_rfl) (by simp) (AllReadyH.cons (i := 11) (o := ⟨none, Op.store 40 (.tmp 50) (.tmp 48), 0, "law.go:123", #[⟨10, .data⟩, ⟨7, .data⟩, ⟨9, .chain⟩, ⟨0, .phase⟩, ⟨1, .phase⟩, ⟨2, .phase⟩, ⟨3, .phase⟩, ⟨4, .phase⟩, ⟨5, .phase⟩, ⟨6, .phase⟩, ⟨7, .phase⟩, ⟨8, .phase⟩, ⟨9, .phase⟩], none⟩) rfl ?_ AllReadyH.nil)
                · intro K1 hK1
                  refine step_st (by rfl) 40 (.tmp 50) (.tmp 48) rfl g 37 (.slice sn.a sn.n sn.c) 43 _ rfl rfl F7.out.1 (by rw [Pp.length (p := { p with y := sy }) HL.out.2]; omega) (by kernel_rfl) rfl rfl ?_
                  obtain ⟨V8, hv8⟩ : ∃ V, V7.setCell ⟨g, 37, none⟩ (.slice sn.a sn.n sn.c) = V := ⟨_, rfl⟩
                  have F8 : Hid (Copied A g p yes no sy sn V8) := copied_of HL F7.out hv8
                  rw [hv8]
                  clear hv8
                  refine hK1.out _ _ F8.out.2.2.2 ?_
                  clear hK1
                  intro _
                  try simp only [Act.put, List.setIfInBounds_toArray, List.set_cons_zero, List.set_cons_succ]
                  refine wpAnyH_done (by kernel_rfl) ?_ _
                  exact hQ V8 _ _ sy sn F8.out
      · intro K1 hK1
        rw [if_pos (by rfl)]
        have hc : V2.cell? ⟨g, 36, none⟩ = some (.slice p.y.a p.y.n p.y.c) := R2.out.blk.cell (Pp.tail HL.out.2 1)
        go_wp2
        clear hc
        refine hK1.out _ _ R2.out.keep ?_
        clear hK1
        intro _
        try simp only [Act.put, List.setIfInBounds_toArray, List.set_cons_zero, List.set_cons_succ]
        refine wpAnyH_ready (rs := [0]) (by kernel_rfl) (by simp) (AllReadyH.cons (i := 0) (o := ⟨some 41, Op.buildSlice 40 0 #[], 40, "law.go:123", #[], none⟩) rfl ?_ AllReadyH.nil)
        · intro K1 hK1
          refine step_bs0 (by rfl) rfl ?_
          obtain ⟨V4, hv4⟩ : ∃ V, V2.alloc (.cells #[] 9) = V := ⟨_, rfl⟩
          obtain ⟨q4, hq4⟩ : ∃ m, V2.heap.size = m := ⟨_, rfl⟩
          have R4 : Hid (R13 A g p V4 (some (.slice (some ⟨q4, 0, none⟩) 0 0, [])) (some (.slice (some ⟨q2, 0, none⟩) 0 0, []))) := by rw [← hv4, ← hq4]; exact R2.out.bs
          rw [hv4, hq4]
          clear hv4 hq4
          refine hK1.out _ _ R4.out.keep ?_
          clear hK1
          intro _
          try simp only [Act.put, List.setIfInBounds_toArray, List.set_cons_zero, List.set_cons_succ]
          refine wpAnyH_ready (rs := [3]) (by kernel_rfl) (by simp) (AllReadyH.cons (i := 3) (o := ⟨some 44, Op.call { callee := Callee.builtin Builtin.append, args := #[Operand.tmp 41, Operand.tmp 43], argTypes := #[40, 40] }, 40, "law.go:123", #[⟨0, .data⟩, ⟨2, .data⟩], none⟩) rfl ?_ AllReadyH.nil)
          · intro K1 hK1
            obtain ⟨v5, V5, hr5, hR5⟩ := R4.out.app (s := p.y) (l := yes) (strs_keep HY.out.1 R4.out.keep HNE.out.1) HY.out.2.1 HL.out.1 40
            refine step_run (by rfl) (.tmp 41) (.tmp 43) rfl _ p.y rfl rfl hr5 ?_
            have R5 : Hid (R13 A g p V5 (some (v5, yes)) (some (.slice (some ⟨q2, 0, none⟩) 0 0, []))) := hR5
            clear hr5 hR5
            refine hK1.out _ _ R5.out.keep ?_
            clear hK1
            intro _
            try simp only [Act.put, List.setIfInBounds_toArray, List.set_cons_zero, List.set_cons_succ]
            refine wpAnyH_take (i := 8) (oi := ⟨some 49, Op.fieldAddr 43 (.tmp 2) 5, 0, "law.go:123", #[⟨0, .phase⟩, ⟨1, .phase⟩, ⟨2, .phase⟩, ⟨3, .phase⟩, { on := 4, ground := Ground.textOnly Departure.lateStores }, ⟨5, .phase⟩, ⟨6, .phase⟩, { on := 7, ground := Ground.textOnly Departure.lateStoresUnsure }], none⟩) (v := .pointer (some ⟨g, 36, none⟩)) rfl (by kernel_rfl) (by kernel_rfl) (by kernel_rfl) (fun _ _ _ h => h.elim) (Or.inl ⟨by rfl, ?y81⟩) R5.out.keep ?_
            case y81 =>
              intro V hV
              go_simp
            simp only [Act.put, List.setIfInBounds_toArray, List.set_cons_zero, List.set_cons_succ]
            refine wpAnyH_ready (rs := [7]) (by kernel_rfl) (by simp) (AllReadyH.cons (i := 7) (o := ⟨some 48, Op.call { callee := Callee.builtin Builtin.append, args := #[Operand.tmp 45, Operand.tmp 47], argTypes := #[40, 40] }, 40, "law.go:123", #[⟨4, .data⟩, ⟨6, .data⟩, ⟨3, .chain⟩], none⟩) rfl ?_ AllReadyH.nil)
            · intro K1 hK1
              obtain ⟨v6, V6, hr6, hR6⟩ := R5.out.swap.app (s := p.n) (l := no) (strs_keep HN.out.1 R5.out.keep HNE.out.2) HN.out.2.1 HL.out.1 40
              refine step_run (by rfl) (.tmp 45) (.tmp 47) rfl _ p.n rfl rfl hr6 ?_
              have R6 : Hid (R13 A g p V6 (some (v5, yes)) (some (v6, no))) := hR6.swap
              clear hr6 hR6
              refine hK1.out _ _ R6.out.keep ?_
              clear hK1
              intro _
              try simp only [Act.put, List.setIfInBounds_toArray, List.set_cons_zero, List.set_cons_succ]
              refine wpAnyH_ready (rs := [9]) (by kernel_rfl) (by simp) (AllReadyH.cons (i := 9) (o := ⟨none, Op.store 40 (.tmp 49) (.tmp 44), 0, "law.go:123", #[⟨8, .data⟩, ⟨3, .data⟩, ⟨7, .chain⟩, ⟨0, .phase⟩, ⟨1, .phase⟩, ⟨2, .phase⟩, ⟨3, .phase⟩, { on := 4, ground := Ground.textOnly Departure.lateStores }, ⟨5, .phase⟩, ⟨6, .phase⟩, { on := 7, ground := Ground.textOnly Departure.lateStoresUnsure }], none⟩) rfl ?_ AllReadyH.nil)
              · intro K1 hK1
                obtain ⟨sy, hsy, hty, hyn, hyb⟩ := own_txt R6.out.fst.1 HY.out.2.2.1 (by have := HY.out.2.1; omega)
                obtain ⟨sn, hsn, htn, hnn, hnb⟩ := own_txt R6.out.snd.1 HN.out.2.2.1 (by have := HN.out.2.1; omega)
                subst hsy
                subst hsn
                refine step_st (by rfl) 40 (.tmp 49) (.tmp 44) rfl g 36 (.slice sy.a sy.n sy.c) 43 _ rfl rfl R6.out.blk (by rw [Pp.length HL.out.2]; omega) (by kernel_rfl) rfl rfl ?_
                obtain ⟨V7, hv7⟩ : ∃ V, V6.setCell ⟨g, 36, none⟩ (.slice sy.a sy.n sy.c) = V := ⟨_, rfl⟩
                have F7 : Hid (Half A g p yes no sy sn V7) := half_of HL R6.out.blk R6.out.keep hty htn hyb hnb hv7
                rw [hv7]
                clear hv7 hty htn hyb hnb hyn hnn
                refine hK1.out _ _ F7.out.2.2.2.1 ?_
                clear hK1
                intro _
                try simp only [Act.put, List.setIfInBounds_toArray, List.set_cons_zero, List.set_cons_succ]
                refine wpAnyH_take (i := 10) (oi := ⟨some 50, Op.fieldAddr 43 (.tmp 2) 6, 0, "law.go:123", #[⟨0, .phase⟩, ⟨1, .phase⟩, ⟨2, .phase⟩, ⟨3, .phase⟩, ⟨4, .phase⟩, ⟨5, .phase⟩, ⟨6, .phase⟩, ⟨7, .phase⟩, ⟨8, .phase⟩, ⟨9, .phase⟩], none⟩) (v := .pointer (some ⟨g, 37, none⟩)) rfl (by kernel_rfl) (by kernel_rfl) (by kernel_rfl) (fun _ _ _ h => h.elim) (Or.inl ⟨by rfl, ?y82⟩) F7.out.2.2.2.1 ?_
                case y82 =>
                  intro V hV
                  go_simp
                simp only [Act.put, List.setIfInBounds_toArray, List.set_cons_zero, List.set_cons_succ]
                refine wpAnyH_ready (rs := [11]) (by kernel_rfl) (by simp) (AllReadyH.cons (i := 11) (o := ⟨none, Op.store 40 (.tmp 50) (.tmp 48), 0, "law.go:123", #[⟨10, .data⟩, ⟨7, .data⟩, ⟨9, .chain⟩, ⟨0, .phase⟩, ⟨1, .phase⟩, ⟨2, .phase⟩, ⟨3, .phase⟩, ⟨4, .phase⟩, ⟨5, .phase⟩, ⟨6, .phase⟩, ⟨7, .phase⟩, ⟨8, .phase⟩, ⟨9, .phase⟩], none⟩) rfl ?_ AllReadyH.nil)
                · intro K1 hK1
                  refine step_st (by rfl) 40 (.tmp 50) (.tmp 48) rfl g 37 (.slice sn.a sn.n sn.c) 43 _ rfl rfl F7.out.1 (by rw [Pp.length (p := { p with y := sy }) HL.out.2]; omega) (by kernel_rfl) rfl rfl ?_
                  obtain ⟨V8, hv8⟩ : ∃ V, V7.setCell ⟨g, 37, none⟩ (.slice sn.a sn.n sn.c) = V := ⟨_, rfl⟩
                  have F8 : Hid (Copied A g p yes no sy sn V8) := copied_of HL F7.out hv8
                  rw [hv8]
                  clear hv8
                  refine hK1.out _ _ F8.out.2.2.2 ?_
                  clear hK1
                  intro _
                  try simp only [Act.put, List.setIfInBounds_toArray, List.set_cons_zero, List.set_cons_succ]
                  refine wpAnyH_done (by kernel_rfl) ?_ _
                  exact hQ V8 _ _ sy sn F8.out
#print axioms pas13
end Go.Proofs.Ytaecigpjcbjcbaa.Oct
