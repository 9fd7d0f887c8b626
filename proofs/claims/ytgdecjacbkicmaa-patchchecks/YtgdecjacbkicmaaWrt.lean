/-
  Layer 10 (patch): the writer: text and number.
-/
import Derived.Test.YtgdecjacbkicmaaWri
import Derived.Deep.MidRow
namespace Go.Proofs.Ytgdecjacbkicmaa.Oct
open Go.RowKit
set_option maxRecDepth 100000
set_option linter.unusedSimpArgs false
set_option linter.unusedVariables false

theorem fr_own {B : Nat} {w w2 : World} {v : Value} {M : List UInt8} (ho : Own 5 B w v M) (hg : w.grownBy w2 v.ownBlock) (hB : B ≤ w.heap.size) : Fr B w w2 := by
  refine Fr.of_grown hg hB fun k hk => ?_
  obtain ⟨C, hC, hBk⟩ := own_type ho hk
  refine ⟨hBk, fun C' t f h => ?_⟩
  rw [hC] at h
  cases h
  exact .inl rfl
def encT (s : BA) : List UInt8 := enc s.size ++ s.data.toList
set_option maxRecDepth 100000 in
set_option maxHeartbeats 4000000 in
theorem tx62 {Q : Exit → Act → World → Prop} {x2 x3 x4 x5 x6 x7 x8 x9 x10 x11 x12 x13 : Value} {ds : List Deferred} {A : World} {B g n c tn : Nat} {s : BA} {va : Option Addr} {dv : Value} {M T : List UInt8} {i0 : TypeInfo}
    (HI5 : Hid (Try.prog.info? 5 = some i0 ∧ i0.zero = some (.int .u8 0) ∧ i0.size = 1 ∧ i0.bytes = 1)) (HX : Hid (B ≤ g ∧ B ≤ A.heap.size ∧ M.length + tn ≤ 140737488355328)) (HG : Hid (Blk A g 71 [.slice va n c, dv] ∧ Own 5 B A (.slice va n c) M)) (HC : Hid (∀ V, Calls Try.prog 89 #[.slice none 0 0, .string s] V fun e V2 => ∃ tg tc, e = .returned (.slice (some ⟨tg, 0, none⟩) tn tc) ∧ Hid (In V2 (some ⟨tg, 0, none⟩) tn tc T) ∧ Below V.heap.size V V2))
    (hQ : ∀ V1 tg tc va2 n2 c2, Wr B V1 g dv (M ++ T) → Fr B A V1 → Q .normal { tmps := #[.pointer (some ⟨g, 0, none⟩), .string s, x2, x3, .pointer (some ⟨g, 0, none⟩), .pointer (some ⟨g, 0, none⟩), .pointer (some ⟨g, 0, none⟩), .pointer (some ⟨g, 0, none⟩), .slice va n c, .string s, .slice (some ⟨tg, 0, none⟩) tn tc, .slice va2 n2 c2, .pointer (some ⟨g, 0, none⟩), .pointer (some ⟨g, 0, none⟩)], defers := ds } V1) :
    (Code.region 0 #[{ dst := some 4, op := Op.move (Operand.tmp 0), type := 95, pos := "code.go:29", after := #[], guard := none }, { dst := some 5, op := Op.move (Operand.tmp 0), type := 95, pos := "code.go:29", after := #[], guard := none }, { dst := some 6, op := Op.nilCheck (Operand.tmp 5), type := 0, pos := "code.go:29", after := #[{ on := 1, ground := Ground.data }], guard := none }, { dst := some 7, op := Op.fieldAddr 71 (Operand.tmp 6) 0, type := 0, pos := "code.go:29", after := #[{ on := 2, ground := Ground.data }], guard := none }, { dst := some 8, op := Op.load 36 (Operand.tmp 7), type := 36, pos := "code.go:29", after := #[{ on := 3, ground := Ground.data }], guard := none }, { dst := some 9, op := Op.move (Operand.tmp 1), type := 9, pos := "code.go:29", after := #[], guard := none }, { dst := some 10, op := Op.call { callee := Callee.value (Operand.func 89), args := #[Operand.const (Value.slice none 0 0), Operand.tmp 9], argTypes := #[36, 9] }, type := 36, pos := "code.go:29", after := #[{ on := 5, ground := Ground.data }], guard := none }, { dst := some 11, op := Op.call { callee := Callee.builtin Builtin.append, args := #[Operand.tmp 8, Operand.tmp 10], argTypes := #[36, 36] }, type := 36, pos := "code.go:29", after := #[{ on := 4, ground := Ground.data }, { on := 6, ground := Ground.data }, { on := 6, ground := Ground.chain }], guard := none }, { dst := some 12, op := Op.nilCheck (Operand.tmp 4), type := 0, pos := "code.go:29", after := #[{ on := 0, ground := Ground.data }, { on := 0, ground := Ground.phase }, { on := 1, ground := Ground.phase }, { on := 2, ground := Ground.phase }, { on := 3, ground := Ground.phase }, { on := 4, ground := Ground.phase }, { on := 5, ground := Ground.phase }, { on := 6, ground := Ground.phase }, { on := 7, ground := Ground.phase }], guard := none }, { dst := some 13, op := Op.fieldAddr 71 (Operand.tmp 12) 0, type := 0, pos := "code.go:29", after := #[{ on := 8, ground := Ground.data }, { on := 0, ground := Ground.phase }, { on := 1, ground := Ground.phase }, { on := 2, ground := Ground.phase }, { on := 3, ground := Ground.phase }, { on := 4, ground := Ground.phase }, { on := 5, ground := Ground.phase }, { on := 6, ground := Ground.phase }, { on := 7, ground := Ground.phase }], guard := none }, { dst := none, op := Op.store 36 (Operand.tmp 13) (Operand.tmp 11), type := 0, pos := "code.go:29", after := #[{ on := 9, ground := Ground.data }, { on := 7, ground := Ground.data }, { on := 7, ground := Ground.chain }, { on := 0, ground := Ground.phase }, { on := 1, ground := Ground.phase }, { on := 2, ground := Ground.phase }, { on := 3, ground := Ground.phase }, { on := 4, ground := Ground.phase }, { on := 5, ground := Ground.phase }, { on := 6, ground := Ground.phase }, { on := 7, ground := Ground.phase }], guard := none }] true).wp Try.prog Q { tmps := #[.pointer (some ⟨g, 0, none⟩), .string s, x2, x3, x4, x5, x6, x7, x8, x9, x10, x11, x12, x13], defers := ds } A := by
  refine Code.wp_mono (Q := fun x a' w' => match x with | .normal => Q .normal a' w' | _ => False) (by intro x a' w' h; cases x <;> first | exact h | exact h.elim) ?_
  refine wp_region_held (S := fun V => Fr B A V) (by kernel_rfl) ?_
  have hS0 : Hid (Fr B A A.drew) := Fr.of_below (below_drew0 A) HX.out.2.1
  change wpAnyH Try.prog .any _ _ (fun V => Fr B A V) 11 (Array.replicate 11 false) _ A.drew
  obtain ⟨V0, hV0⟩ : ∃ V0, A.drew = V0 := ⟨_, rfl⟩
  rw [hV0]
  rw [hV0] at hS0
  have hG0 : Hid (Blk V0 g 71 [.slice va n c, dv] ∧ Own 5 B V0 (.slice va n c) M) := by rw [← hV0]; exact HG.out
  clear hV0
  refine wpAnyH_take (i := 0) (oi := { dst := some 4, op := Op.move (Operand.tmp 0), type := 95, pos := "code.go:29", after := #[], guard := none }) (v := .pointer (some ⟨g, 0, none⟩)) rfl (by kernel_rfl) (by kernel_rfl) (by kernel_rfl) (fun _ _ _ h => h.elim) (Or.inl ⟨by rfl, ?y1⟩) hS0.out ?_
  case y1 =>
    intro V hV
    go_simp
  simp only [Act.put, List.setIfInBounds_toArray, List.set_cons_zero, List.set_cons_succ]
  refine wpAnyH_take (i := 1) (oi := { dst := some 5, op := Op.move (Operand.tmp 0), type := 95, pos := "code.go:29", after := #[], guard := none }) (v := .pointer (some ⟨g, 0, none⟩)) rfl (by kernel_rfl) (by kernel_rfl) (by kernel_rfl) (fun _ _ _ h => h.elim) (Or.inl ⟨by rfl, ?y2⟩) hS0.out ?_
  case y2 =>
    intro V hV
    go_simp
  simp only [Act.put, List.setIfInBounds_toArray, List.set_cons_zero, List.set_cons_succ]
  refine wpAnyH_take (i := 2) (oi := { dst := some 6, op := Op.nilCheck (Operand.tmp 5), type := 0, pos := "code.go:29", after := #[{ on := 1, ground := Ground.data }], guard := none }) (v := .pointer (some ⟨g, 0, none⟩)) rfl (by kernel_rfl) (by kernel_rfl) (by kernel_rfl) (fun _ _ _ h => h.elim) (Or.inl ⟨by rfl, ?y3⟩) hS0.out ?_
  case y3 =>
    intro V hV
    go_simp
  simp only [Act.put, List.setIfInBounds_toArray, List.set_cons_zero, List.set_cons_succ]
  refine wpAnyH_take (i := 3) (oi := { dst := some 7, op := Op.fieldAddr 71 (Operand.tmp 6) 0, type := 0, pos := "code.go:29", after := #[{ on := 2, ground := Ground.data }], guard := none }) (v := .pointer (some ⟨g, 0, none⟩)) rfl (by kernel_rfl) (by kernel_rfl) (by kernel_rfl) (fun _ _ _ h => h.elim) (Or.inl ⟨by rfl, ?y4⟩) hS0.out ?_
  case y4 =>
    intro V hV
    go_simp
  simp only [Act.put, List.setIfInBounds_toArray, List.set_cons_zero, List.set_cons_succ]
  refine wpAnyH_take (i := 5) (oi := { dst := some 9, op := Op.move (Operand.tmp 1), type := 9, pos := "code.go:29", after := #[], guard := none }) (v := .string s) rfl (by kernel_rfl) (by kernel_rfl) (by kernel_rfl) (fun _ _ _ h => h.elim) (Or.inl ⟨by rfl, ?y5⟩) hS0.out ?_
  case y5 =>
    intro V hV
    go_simp
  simp only [Act.put, List.setIfInBounds_toArray, List.set_cons_zero, List.set_cons_succ]
  refine wpAnyH_ready (rs := [4, 6]) (by kernel_rfl) (by simp) (AllReadyH.cons (i := 4) (o := { dst := some 8, op := Op.load 36 (Operand.tmp 7), type := 36, pos := "code.go:29", after := #[{ on := 3, ground := Ground.data }], guard := none }) rfl ?_ (AllReadyH.cons (i := 6) (o := { dst := some 10, op := Op.call { callee := Callee.value (Operand.func 89), args := #[Operand.const (Value.slice none 0 0), Operand.tmp 9], argTypes := #[36, 9] }, type := 36, pos := "code.go:29", after := #[{ on := 5, ground := Ground.data }], guard := none }) rfl ?_ AllReadyH.nil))
  · intro K1 hK1
    rw [if_pos (by rfl)]
    have hc1 : V0.cell? ⟨g, 0, none⟩ = some (.slice va n c) := hG0.out.1.cell rfl
    go_wp2
    clear hc1
    refine hK1.out _ _ hS0.out ?_
    clear hK1
    intro _
    try simp only [Act.put, List.setIfInBounds_toArray, List.set_cons_zero, List.set_cons_succ]
    refine wpAnyH_ready (rs := [6]) (by kernel_rfl) (by simp) (AllReadyH.cons (i := 6) (o := { dst := some 10, op := Op.call { callee := Callee.value (Operand.func 89), args := #[Operand.const (Value.slice none 0 0), Operand.tmp 9], argTypes := #[36, 9] }, type := 36, pos := "code.go:29", after := #[{ on := 5, ground := Ground.data }], guard := none }) rfl ?_ AllReadyH.nil)
    · intro K1 hK1
      rw [if_pos (by rfl)]
      have HC2 := HC.out V0
      go_wp2_with fail
      refine HC2.mono ?_
      rintro e V2 ⟨tg, tc, rfl, hT2, hb2⟩
      dsimp only
      clear HC2
      have hS2 : Hid (Fr B A V2) := hS0.out.trans (Fr.of_below hb2 (Nat.le_trans HX.out.2.1 hS0.out.size))
      have hG2 : Hid (Blk V2 g 71 [.slice va n c, dv] ∧ Own 5 B V2 (.slice va n c) M) := ⟨hG0.out.1.below hb2 hG0.out.1.lt, hG0.out.2.below hb2 (Nat.le_refl _)⟩
      clear hb2
      refine hK1.out _ _ hS2.out ?_
      clear hK1
      intro _
      try simp only [Act.put, List.setIfInBounds_toArray, List.set_cons_zero, List.set_cons_succ]
      refine wpAnyH_ready (rs := [7]) (by kernel_rfl) (by simp) (AllReadyH.cons (i := 7) (o := { dst := some 11, op := Op.call { callee := Callee.builtin Builtin.append, args := #[Operand.tmp 8, Operand.tmp 10], argTypes := #[36, 36] }, type := 36, pos := "code.go:29", after := #[{ on := 4, ground := Ground.data }, { on := 6, ground := Ground.data }, { on := 6, ground := Ground.chain }], guard := none }) rfl ?_ AllReadyH.nil)
      · intro K1 hK1
        refine step_append_in V2 (by rfl) (.tmp 8) (.tmp 10) 36 rfl B 5 i0 Try.underlying36 HI5.out.1 HI5.out.2.1 HI5.out.2.2.1 HI5.out.2.2.2 (.slice va n c) M M.length rfl rfl hG2.out.2 (some ⟨tg, 0, none⟩) tn tc T rfl hT2.out (by have := HX.out.2.2; omega) (Nat.le_trans HX.out.2.1 hS2.out.size) ?_
        intro v5 V3 ho5 hg5
        obtain ⟨va2, n2, c2, rfl, -⟩ := sl_of5 ho5
        have hS3 : Hid (Fr B A V3) := hS2.out.trans (fr_own hG2.out.2 hg5 (Nat.le_trans HX.out.2.1 hS2.out.size))
        have hP3 : Hid (Blk V3 g 71 [.slice va n c, dv] ∧ Wr B (V3.setCell ⟨g, 0, none⟩ (.slice va2 n2 c2)) g dv (M ++ T) ∧ Fr B A (V3.setCell ⟨g, 0, none⟩ (.slice va2 n2 c2))) := ⟨(Wr.put hG2.out.1 hG2.out.2 HX.out.1 hg5 ho5).1, (Wr.put hG2.out.1 hG2.out.2 HX.out.1 hg5 ho5).2.1, hS2.out.trans (Wr.put hG2.out.1 hG2.out.2 HX.out.1 hg5 ho5).2.2⟩
        clear ho5 hg5
        refine hK1.out _ _ hS3.out ?_
        clear hK1
        intro _
        try simp only [Act.put, List.setIfInBounds_toArray, List.set_cons_zero, List.set_cons_succ]
        refine wpAnyH_take (i := 8) (oi := { dst := some 12, op := Op.nilCheck (Operand.tmp 4), type := 0, pos := "code.go:29", after := #[{ on := 0, ground := Ground.data }, { on := 0, ground := Ground.phase }, { on := 1, ground := Ground.phase }, { on := 2, ground := Ground.phase }, { on := 3, ground := Ground.phase }, { on := 4, ground := Ground.phase }, { on := 5, ground := Ground.phase }, { on := 6, ground := Ground.phase }, { on := 7, ground := Ground.phase }], guard := none }) (v := .pointer (some ⟨g, 0, none⟩)) rfl (by kernel_rfl) (by kernel_rfl) (by kernel_rfl) (fun _ _ _ h => h.elim) (Or.inl ⟨by rfl, ?y6⟩) hS3.out ?_
        case y6 =>
          intro V hV
          go_simp
        simp only [Act.put, List.setIfInBounds_toArray, List.set_cons_zero, List.set_cons_succ]
        refine wpAnyH_take (i := 9) (oi := { dst := some 13, op := Op.fieldAddr 71 (Operand.tmp 12) 0, type := 0, pos := "code.go:29", after := #[{ on := 8, ground := Ground.data }, { on := 0, ground := Ground.phase }, { on := 1, ground := Ground.phase }, { on := 2, ground := Ground.phase }, { on := 3, ground := Ground.phase }, { on := 4, ground := Ground.phase }, { on := 5, ground := Ground.phase }, { on := 6, ground := Ground.phase }, { on := 7, ground := Ground.phase }], guard := none }) (v := .pointer (some ⟨g, 0, none⟩)) rfl (by kernel_rfl) (by kernel_rfl) (by kernel_rfl) (fun _ _ _ h => h.elim) (Or.inl ⟨by rfl, ?y7⟩) hS3.out ?_
        case y7 =>
          intro V hV
          go_simp
        simp only [Act.put, List.setIfInBounds_toArray, List.set_cons_zero, List.set_cons_succ]
        refine wpAnyH_ready (rs := [10]) (by kernel_rfl) (by simp) (AllReadyH.cons (i := 10) (o := { dst := none, op := Op.store 36 (Operand.tmp 13) (Operand.tmp 11), type := 0, pos := "code.go:29", after := #[{ on := 9, ground := Ground.data }, { on := 7, ground := Ground.data }, { on := 7, ground := Ground.chain }, { on := 0, ground := Ground.phase }, { on := 1, ground := Ground.phase }, { on := 2, ground := Ground.phase }, { on := 3, ground := Ground.phase }, { on := 4, ground := Ground.phase }, { on := 5, ground := Ground.phase }, { on := 6, ground := Ground.phase }, { on := 7, ground := Ground.phase }], guard := none }) rfl ?_ AllReadyH.nil)
        · intro K1 hK1
          refine step_st36 (by rfl) (.tmp 13) (.tmp 11) rfl g n2 c2 va2 (.slice va n c) dv rfl rfl hP3.out.1 ?_
          obtain ⟨V4, hv4⟩ : ∃ V, V3.setCell ⟨g, 0, none⟩ (.slice va2 n2 c2) = V := ⟨_, rfl⟩
          have hF4 : Hid (Wr B V4 g dv (M ++ T) ∧ Fr B A V4) := by have h := hP3.out.2; rw [hv4] at h; exact h
          rw [hv4]
          refine hK1.out _ _ hF4.out.2 ?_
          clear hK1
          intro _
          try simp only [Act.put, List.setIfInBounds_toArray, List.set_cons_zero, List.set_cons_succ]
          refine wpAnyH_done (by kernel_rfl) ?_ _
          exact hQ V4 tg tc va2 n2 c2 hF4.out.1 hF4.out.2
  · intro K1 hK1
    rw [if_pos (by rfl)]
    have HC1 := HC.out V0
    go_wp2_with fail
    refine HC1.mono ?_
    rintro e V1 ⟨tg, tc, rfl, hT1, hb1⟩
    dsimp only
    clear HC1
    have hS1 : Hid (Fr B A V1) := hS0.out.trans (Fr.of_below hb1 (Nat.le_trans HX.out.2.1 hS0.out.size))
    have hG1 : Hid (Blk V1 g 71 [.slice va n c, dv] ∧ Own 5 B V1 (.slice va n c) M) := ⟨hG0.out.1.below hb1 hG0.out.1.lt, hG0.out.2.below hb1 (Nat.le_refl _)⟩
    clear hb1
    refine hK1.out _ _ hS1.out ?_
    clear hK1
    intro _
    try simp only [Act.put, List.setIfInBounds_toArray, List.set_cons_zero, List.set_cons_succ]
    refine wpAnyH_ready (rs := [4]) (by kernel_rfl) (by simp) (AllReadyH.cons (i := 4) (o := { dst := some 8, op := Op.load 36 (Operand.tmp 7), type := 36, pos := "code.go:29", after := #[{ on := 3, ground := Ground.data }], guard := none }) rfl ?_ AllReadyH.nil)
    · intro K1 hK1
      rw [if_pos (by rfl)]
      have hc2 : V1.cell? ⟨g, 0, none⟩ = some (.slice va n c) := hG1.out.1.cell rfl
      go_wp2
      clear hc2
      refine hK1.out _ _ hS1.out ?_
      clear hK1
      intro _
      try simp only [Act.put, List.setIfInBounds_toArray, List.set_cons_zero, List.set_cons_succ]
      refine wpAnyH_ready (rs := [7]) (by kernel_rfl) (by simp) (AllReadyH.cons (i := 7) (o := { dst := some 11, op := Op.call { callee := Callee.builtin Builtin.append, args := #[Operand.tmp 8, Operand.tmp 10], argTypes := #[36, 36] }, type := 36, pos := "code.go:29", after := #[{ on := 4, ground := Ground.data }, { on := 6, ground := Ground.data }, { on := 6, ground := Ground.chain }], guard := none }) rfl ?_ AllReadyH.nil)
      · intro K1 hK1
        refine step_append_in V1 (by rfl) (.tmp 8) (.tmp 10) 36 rfl B 5 i0 Try.underlying36 HI5.out.1 HI5.out.2.1 HI5.out.2.2.1 HI5.out.2.2.2 (.slice va n c) M M.length rfl rfl hG1.out.2 (some ⟨tg, 0, none⟩) tn tc T rfl hT1.out (by have := HX.out.2.2; omega) (Nat.le_trans HX.out.2.1 hS1.out.size) ?_
        intro v5 V3 ho5 hg5
        obtain ⟨va2, n2, c2, rfl, -⟩ := sl_of5 ho5
        have hS3 : Hid (Fr B A V3) := hS1.out.trans (fr_own hG1.out.2 hg5 (Nat.le_trans HX.out.2.1 hS1.out.size))
        have hP3 : Hid (Blk V3 g 71 [.slice va n c, dv] ∧ Wr B (V3.setCell ⟨g, 0, none⟩ (.slice va2 n2 c2)) g dv (M ++ T) ∧ Fr B A (V3.setCell ⟨g, 0, none⟩ (.slice va2 n2 c2))) := ⟨(Wr.put hG1.out.1 hG1.out.2 HX.out.1 hg5 ho5).1, (Wr.put hG1.out.1 hG1.out.2 HX.out.1 hg5 ho5).2.1, hS1.out.trans (Wr.put hG1.out.1 hG1.out.2 HX.out.1 hg5 ho5).2.2⟩
        clear ho5 hg5
        refine hK1.out _ _ hS3.out ?_
        clear hK1
        intro _
        try simp only [Act.put, List.setIfInBounds_toArray, List.set_cons_zero, List.set_cons_succ]
        refine wpAnyH_take (i := 8) (oi := { dst := some 12, op := Op.nilCheck (Operand.tmp 4), type := 0, pos := "code.go:29", after := #[{ on := 0, ground := Ground.data }, { on := 0, ground := Ground.phase }, { on := 1, ground := Ground.phase }, { on := 2, ground := Ground.phase }, { on := 3, ground := Ground.phase }, { on := 4, ground := Ground.phase }, { on := 5, ground := Ground.phase }, { on := 6, ground := Ground.phase }, { on := 7, ground := Ground.phase }], guard := none }) (v := .pointer (some ⟨g, 0, none⟩)) rfl (by kernel_rfl) (by kernel_rfl) (by kernel_rfl) (fun _ _ _ h => h.elim) (Or.inl ⟨by rfl, ?y8⟩) hS3.out ?_
        case y8 =>
          intro V hV
          go_simp
        simp only [Act.put, List.setIfInBounds_toArray, List.set_cons_zero, List.set_cons_succ]
        refine wpAnyH_take (i := 9) (oi := { dst := some 13, op := Op.fieldAddr 71 (Operand.tmp 12) 0, type := 0, pos := "code.go:29", after := #[{ on := 8, ground := Ground.data }, { on := 0, ground := Ground.phase }, { on := 1, ground := Ground.phase }, { on := 2, ground := Ground.phase }, { on := 3, ground := Ground.phase }, { on := 4, ground := Ground.phase }, { on := 5, ground := Ground.phase }, { on := 6, ground := Ground.phase }, { on := 7, ground := Ground.phase }], guard := none }) (v := .pointer (some ⟨g, 0, none⟩)) rfl (by kernel_rfl) (by kernel_rfl) (by kernel_rfl) (fun _ _ _ h => h.elim) (Or.inl ⟨by rfl, ?y9⟩) hS3.out ?_
        case y9 =>
          intro V hV
          go_simp
        simp only [Act.put, List.setIfInBounds_toArray, List.set_cons_zero, List.set_cons_succ]
        refine wpAnyH_ready (rs := [10]) (by kernel_rfl) (by simp) (AllReadyH.cons (i := 10) (o := { dst := none, op := Op.store 36 (Operand.tmp 13) (Operand.tmp 11), type := 0, pos := "code.go:29", after := #[{ on := 9, ground := Ground.data }, { on := 7, ground := Ground.data }, { on := 7, ground := Ground.chain }, { on := 0, ground := Ground.phase }, { on := 1, ground := Ground.phase }, { on := 2, ground := Ground.phase }, { on := 3, ground := Ground.phase }, { on := 4, ground := Ground.phase }, { on := 5, ground := Ground.phase }, { on := 6, ground := Ground.phase }, { on := 7, ground := Ground.phase }], guard := none }) rfl ?_ AllReadyH.nil)
        · intro K1 hK1
          refine step_st36 (by rfl) (.tmp 13) (.tmp 11) rfl g n2 c2 va2 (.slice va n c) dv rfl rfl hP3.out.1 ?_
          obtain ⟨V4, hv4⟩ : ∃ V, V3.setCell ⟨g, 0, none⟩ (.slice va2 n2 c2) = V := ⟨_, rfl⟩
          have hF4 : Hid (Wr B V4 g dv (M ++ T) ∧ Fr B A V4) := by have h := hP3.out.2; rw [hv4] at h; exact h
          rw [hv4]
          refine hK1.out _ _ hF4.out.2 ?_
          clear hK1
          intro _
          try simp only [Act.put, List.setIfInBounds_toArray, List.set_cons_zero, List.set_cons_succ]
          refine wpAnyH_done (by kernel_rfl) ?_ _
          exact hQ V4 tg tc va2 n2 c2 hF4.out.1 hF4.out.2
#print axioms tx62
set_option maxRecDepth 100000 in
set_option maxHeartbeats 4000000 in
theorem nu63 {Q : Exit → Act → World → Prop} {x2 x3 x4 x5 x6 x7 x8 x9 x10 x11 x12 x13 x14 : Value} {ds : List Deferred} {A : World} {B g n c tn k : Nat} {va : Option Addr} {dv : Value} {M T : List UInt8} {i0 : TypeInfo}
    (qk : IntKind.u64.wrap (k : Int) = (k : Int)) (HI5 : Hid (Try.prog.info? 5 = some i0 ∧ i0.zero = some (.int .u8 0) ∧ i0.size = 1 ∧ i0.bytes = 1)) (HX : Hid (B ≤ g ∧ B ≤ A.heap.size ∧ M.length + tn ≤ 140737488355328)) (HG : Hid (Blk A g 71 [.slice va n c, dv] ∧ Own 5 B A (.slice va n c) M)) (HC : Hid (∀ V, Calls Try.prog 90 #[.slice none 0 0, .int .u64 (k : Int)] V fun e V2 => ∃ tg tc, e = .returned (.slice (some ⟨tg, 0, none⟩) tn tc) ∧ Hid (In V2 (some ⟨tg, 0, none⟩) tn tc T) ∧ Below V.heap.size V V2))
    (hQ : ∀ V1 tg tc va2 n2 c2, Wr B V1 g dv (M ++ T) → Fr B A V1 → Q .normal { tmps := #[.pointer (some ⟨g, 0, none⟩), iv (k : Int), x2, x3, .pointer (some ⟨g, 0, none⟩), .pointer (some ⟨g, 0, none⟩), .pointer (some ⟨g, 0, none⟩), .pointer (some ⟨g, 0, none⟩), .slice va n c, iv (k : Int), .int .u64 (k : Int), .slice (some ⟨tg, 0, none⟩) tn tc, .slice va2 n2 c2, .pointer (some ⟨g, 0, none⟩), .pointer (some ⟨g, 0, none⟩)], defers := ds } V1) :
    (Code.region 0 #[{ dst := some 4, op := Op.move (Operand.tmp 0), type := 95, pos := "code.go:27", after := #[], guard := none }, { dst := some 5, op := Op.move (Operand.tmp 0), type := 95, pos := "code.go:27", after := #[], guard := none }, { dst := some 6, op := Op.nilCheck (Operand.tmp 5), type := 0, pos := "code.go:27", after := #[{ on := 1, ground := Ground.data }], guard := none }, { dst := some 7, op := Op.fieldAddr 71 (Operand.tmp 6) 0, type := 0, pos := "code.go:27", after := #[{ on := 2, ground := Ground.data }], guard := none }, { dst := some 8, op := Op.load 36 (Operand.tmp 7), type := 36, pos := "code.go:27", after := #[{ on := 3, ground := Ground.data }], guard := none }, { dst := some 9, op := Op.move (Operand.tmp 1), type := 3, pos := "code.go:27", after := #[], guard := none }, { dst := some 10, op := Op.convert 3 92 (Operand.tmp 9), type := 92, pos := "code.go:27", after := #[{ on := 5, ground := Ground.data }], guard := none }, { dst := some 11, op := Op.call { callee := Callee.value (Operand.func 90), args := #[Operand.const (Value.slice none 0 0), Operand.tmp 10], argTypes := #[36, 92] }, type := 36, pos := "code.go:27", after := #[{ on := 6, ground := Ground.data }], guard := none }, { dst := some 12, op := Op.call { callee := Callee.builtin Builtin.append, args := #[Operand.tmp 8, Operand.tmp 11], argTypes := #[36, 36] }, type := 36, pos := "code.go:27", after := #[{ on := 4, ground := Ground.data }, { on := 7, ground := Ground.data }, { on := 7, ground := Ground.chain }], guard := none }, { dst := some 13, op := Op.nilCheck (Operand.tmp 4), type := 0, pos := "code.go:27", after := #[{ on := 0, ground := Ground.data }, { on := 0, ground := Ground.phase }, { on := 1, ground := Ground.phase }, { on := 2, ground := Ground.phase }, { on := 3, ground := Ground.phase }, { on := 4, ground := Ground.phase }, { on := 5, ground := Ground.phase }, { on := 6, ground := Ground.phase }, { on := 7, ground := Ground.phase }, { on := 8, ground := Ground.phase }], guard := none }, { dst := some 14, op := Op.fieldAddr 71 (Operand.tmp 13) 0, type := 0, pos := "code.go:27", after := #[{ on := 9, ground := Ground.data }, { on := 0, ground := Ground.phase }, { on := 1, ground := Ground.phase }, { on := 2, ground := Ground.phase }, { on := 3, ground := Ground.phase }, { on := 4, ground := Ground.phase }, { on := 5, ground := Ground.phase }, { on := 6, ground := Ground.phase }, { on := 7, ground := Ground.phase }, { on := 8, ground := Ground.phase }], guard := none }, { dst := none, op := Op.store 36 (Operand.tmp 14) (Operand.tmp 12), type := 0, pos := "code.go:27", after := #[{ on := 10, ground := Ground.data }, { on := 8, ground := Ground.data }, { on := 8, ground := Ground.chain }, { on := 0, ground := Ground.phase }, { on := 1, ground := Ground.phase }, { on := 2, ground := Ground.phase }, { on := 3, ground := Ground.phase }, { on := 4, ground := Ground.phase }, { on := 5, ground := Ground.phase }, { on := 6, ground := Ground.phase }, { on := 7, ground := Ground.phase }, { on := 8, ground := Ground.phase }], guard := none }] true).wp Try.prog Q { tmps := #[.pointer (some ⟨g, 0, none⟩), iv (k : Int), x2, x3, x4, x5, x6, x7, x8, x9, x10, x11, x12, x13, x14], defers := ds } A := by
  refine Code.wp_mono (Q := fun x a' w' => match x with | .normal => Q .normal a' w' | _ => False) (by intro x a' w' h; cases x <;> first | exact h | exact h.elim) ?_
  refine wp_region_held (S := fun V => Fr B A V) (by kernel_rfl) ?_
  have hS0 : Hid (Fr B A A.drew) := Fr.of_below (below_drew0 A) HX.out.2.1
  change wpAnyH Try.prog .any _ _ (fun V => Fr B A V) 12 (Array.replicate 12 false) _ A.drew
  obtain ⟨V0, hV0⟩ : ∃ V0, A.drew = V0 := ⟨_, rfl⟩
  rw [hV0]
  rw [hV0] at hS0
  have hG0 : Hid (Blk V0 g 71 [.slice va n c, dv] ∧ Own 5 B V0 (.slice va n c) M) := by rw [← hV0]; exact HG.out
  clear hV0
  refine wpAnyH_take (i := 0) (oi := { dst := some 4, op := Op.move (Operand.tmp 0), type := 95, pos := "code.go:27", after := #[], guard := none }) (v := .pointer (some ⟨g, 0, none⟩)) rfl (by kernel_rfl) (by kernel_rfl) (by kernel_rfl) (fun _ _ _ h => h.elim) (Or.inl ⟨by rfl, ?y1⟩) hS0.out ?_
  case y1 =>
    intro V hV
    go_simp
  simp only [Act.put, List.setIfInBounds_toArray, List.set_cons_zero, List.set_cons_succ]
  refine wpAnyH_take (i := 1) (oi := { dst := some 5, op := Op.move (Operand.tmp 0), type := 95, pos := "code.go:27", after := #[], guard := none }) (v := .pointer (some ⟨g, 0, none⟩)) rfl (by kernel_rfl) (by kernel_rfl) (by kernel_rfl) (fun _ _ _ h => h.elim) (Or.inl ⟨by rfl, ?y2⟩) hS0.out ?_
  case y2 =>
    intro V hV
    go_simp
  simp only [Act.put, List.setIfInBounds_toArray, List.set_cons_zero, List.set_cons_succ]
  refine wpAnyH_take (i := 2) (oi := { dst := some 6, op := Op.nilCheck (Operand.tmp 5), type := 0, pos := "code.go:27", after := #[{ on := 1, ground := Ground.data }], guard := none }) (v := .pointer (some ⟨g, 0, none⟩)) rfl (by kernel_rfl) (by kernel_rfl) (by kernel_rfl) (fun _ _ _ h => h.elim) (Or.inl ⟨by rfl, ?y3⟩) hS0.out ?_
  case y3 =>
    intro V hV
    go_simp
  simp only [Act.put, List.setIfInBounds_toArray, List.set_cons_zero, List.set_cons_succ]
  refine wpAnyH_take (i := 3) (oi := { dst := some 7, op := Op.fieldAddr 71 (Operand.tmp 6) 0, type := 0, pos := "code.go:27", after := #[{ on := 2, ground := Ground.data }], guard := none }) (v := .pointer (some ⟨g, 0, none⟩)) rfl (by kernel_rfl) (by kernel_rfl) (by kernel_rfl) (fun _ _ _ h => h.elim) (Or.inl ⟨by rfl, ?y4⟩) hS0.out ?_
  case y4 =>
    intro V hV
    go_simp
  simp only [Act.put, List.setIfInBounds_toArray, List.set_cons_zero, List.set_cons_succ]
  refine wpAnyH_take (i := 5) (oi := { dst := some 9, op := Op.move (Operand.tmp 1), type := 3, pos := "code.go:27", after := #[], guard := none }) (v := iv (k : Int)) rfl (by kernel_rfl) (by kernel_rfl) (by kernel_rfl) (fun _ _ _ h => h.elim) (Or.inl ⟨by rfl, ?y5⟩) hS0.out ?_
  case y5 =>
    intro V hV
    go_simp
  simp only [Act.put, List.setIfInBounds_toArray, List.set_cons_zero, List.set_cons_succ]
  refine wpAnyH_take (i := 6) (oi := { dst := some 10, op := Op.convert 3 92 (Operand.tmp 9), type := 92, pos := "code.go:27", after := #[{ on := 5, ground := Ground.data }], guard := none }) (v := .int .u64 (k : Int)) rfl (by kernel_rfl) (by kernel_rfl) (by kernel_rfl) (fun _ _ _ h => h.elim) (Or.inl ⟨by rfl, ?y6⟩) hS0.out ?_
  case y6 =>
    intro V hV
    have hw := qk
    go_simp
  simp only [Act.put, List.setIfInBounds_toArray, List.set_cons_zero, List.set_cons_succ]
  refine wpAnyH_ready (rs := [4, 7]) (by kernel_rfl) (by simp) (AllReadyH.cons (i := 4) (o := { dst := some 8, op := Op.load 36 (Operand.tmp 7), type := 36, pos := "code.go:27", after := #[{ on := 3, ground := Ground.data }], guard := none }) rfl ?_ (AllReadyH.cons (i := 7) (o := { dst := some 11, op := Op.call { callee := Callee.value (Operand.func 90), args := #[Operand.const (Value.slice none 0 0), Operand.tmp 10], argTypes := #[36, 92] }, type := 36, pos := "code.go:27", after := #[{ on := 6, ground := Ground.data }], guard := none }) rfl ?_ AllReadyH.nil))
  · intro K1 hK1
    rw [if_pos (by rfl)]
    have hc1 : V0.cell? ⟨g, 0, none⟩ = some (.slice va n c) := hG0.out.1.cell rfl
    go_wp2
    clear hc1
    refine hK1.out _ _ hS0.out ?_
    clear hK1
    intro _
    try simp only [Act.put, List.setIfInBounds_toArray, List.set_cons_zero, List.set_cons_succ]
    refine wpAnyH_ready (rs := [7]) (by kernel_rfl) (by simp) (AllReadyH.cons (i := 7) (o := { dst := some 11, op := Op.call { callee := Callee.value (Operand.func 90), args := #[Operand.const (Value.slice none 0 0), Operand.tmp 10], argTypes := #[36, 92] }, type := 36, pos := "code.go:27", after := #[{ on := 6, ground := Ground.data }], guard := none }) rfl ?_ AllReadyH.nil)
    · intro K1 hK1
      rw [if_pos (by rfl)]
      have HC2 := HC.out V0
      go_wp2_with fail
      refine HC2.mono ?_
      rintro e V2 ⟨tg, tc, rfl, hT2, hb2⟩
      dsimp only
      clear HC2
      have hS2 : Hid (Fr B A V2) := hS0.out.trans (Fr.of_below hb2 (Nat.le_trans HX.out.2.1 hS0.out.size))
      have hG2 : Hid (Blk V2 g 71 [.slice va n c, dv] ∧ Own 5 B V2 (.slice va n c) M) := ⟨hG0.out.1.below hb2 hG0.out.1.lt, hG0.out.2.below hb2 (Nat.le_refl _)⟩
      clear hb2
      refine hK1.out _ _ hS2.out ?_
      clear hK1
      intro _
      try simp only [Act.put, List.setIfInBounds_toArray, List.set_cons_zero, List.set_cons_succ]
      refine wpAnyH_ready (rs := [8]) (by kernel_rfl) (by simp) (AllReadyH.cons (i := 8) (o := { dst := some 12, op := Op.call { callee := Callee.builtin Builtin.append, args := #[Operand.tmp 8, Operand.tmp 11], argTypes := #[36, 36] }, type := 36, pos := "code.go:27", after := #[{ on := 4, ground := Ground.data }, { on := 7, ground := Ground.data }, { on := 7, ground := Ground.chain }], guard := none }) rfl ?_ AllReadyH.nil)
      · intro K1 hK1
        refine step_append_in V2 (by rfl) (.tmp 8) (.tmp 11) 36 rfl B 5 i0 Try.underlying36 HI5.out.1 HI5.out.2.1 HI5.out.2.2.1 HI5.out.2.2.2 (.slice va n c) M M.length rfl rfl hG2.out.2 (some ⟨tg, 0, none⟩) tn tc T rfl hT2.out (by have := HX.out.2.2; omega) (Nat.le_trans HX.out.2.1 hS2.out.size) ?_
        intro v5 V3 ho5 hg5
        obtain ⟨va2, n2, c2, rfl, -⟩ := sl_of5 ho5
        have hS3 : Hid (Fr B A V3) := hS2.out.trans (fr_own hG2.out.2 hg5 (Nat.le_trans HX.out.2.1 hS2.out.size))
        have hP3 : Hid (Blk V3 g 71 [.slice va n c, dv] ∧ Wr B (V3.setCell ⟨g, 0, none⟩ (.slice va2 n2 c2)) g dv (M ++ T) ∧ Fr B A (V3.setCell ⟨g, 0, none⟩ (.slice va2 n2 c2))) := ⟨(Wr.put hG2.out.1 hG2.out.2 HX.out.1 hg5 ho5).1, (Wr.put hG2.out.1 hG2.out.2 HX.out.1 hg5 ho5).2.1, hS2.out.trans (Wr.put hG2.out.1 hG2.out.2 HX.out.1 hg5 ho5).2.2⟩
        clear ho5 hg5
        refine hK1.out _ _ hS3.out ?_
        clear hK1
        intro _
        try simp only [Act.put, List.setIfInBounds_toArray, List.set_cons_zero, List.set_cons_succ]
        refine wpAnyH_take (i := 9) (oi := { dst := some 13, op := Op.nilCheck (Operand.tmp 4), type := 0, pos := "code.go:27", after := #[{ on := 0, ground := Ground.data }, { on := 0, ground := Ground.phase }, { on := 1, ground := Ground.phase }, { on := 2, ground := Ground.phase }, { on := 3, ground := Ground.phase }, { on := 4, ground := Ground.phase }, { on := 5, ground := Ground.phase }, { on := 6, ground := Ground.phase }, { on := 7, ground := Ground.phase }, { on := 8, ground := Ground.phase }], guard := none }) (v := .pointer (some ⟨g, 0, none⟩)) rfl (by kernel_rfl) (by kernel_rfl) (by kernel_rfl) (fun _ _ _ h => h.elim) (Or.inl ⟨by rfl, ?y7⟩) hS3.out ?_
        case y7 =>
          intro V hV
          go_simp
        simp only [Act.put, List.setIfInBounds_toArray, List.set_cons_zero, List.set_cons_succ]
        refine wpAnyH_take (i := 10) (oi := { dst := some 14, op := Op.fieldAddr 71 (Operand.tmp 13) 0, type := 0, pos := "code.go:27", after := #[{ on := 9, ground := Ground.data }, { on := 0, ground := Ground.phase }, { on := 1, ground := Ground.phase }, { on := 2, ground := Ground.phase }, { on := 3, ground := Ground.phase }, { on := 4, ground := Ground.phase }, { on := 5, ground := Ground.phase }, { on := 6, ground := Ground.phase }, { on := 7, ground := Ground.phase }, { on := 8, ground := Ground.phase }], guard := none }) (v := .pointer (some ⟨g, 0, none⟩)) rfl (by kernel_rfl) (by kernel_rfl) (by kernel_rfl) (fun _ _ _ h => h.elim) (Or.inl ⟨by rfl, ?y8⟩) hS3.out ?_
        case y8 =>
          intro V hV
          go_simp
        simp only [Act.put, List.setIfInBounds_toArray, List.set_cons_zero, List.set_cons_succ]
        refine wpAnyH_ready (rs := [11]) (by kernel_rfl) (by simp) (AllReadyH.cons (i := 11) (o := { dst := none, op := Op.store 36 (Operand.tmp 14) (Operand.tmp 12), type := 0, pos := "code.go:27", after := #[{ on := 10, ground := Ground.data }, { on := 8, ground := Ground.data }, { on := 8, ground := Ground.chain }, { on := 0, ground := Ground.phase }, { on := 1, ground := Ground.phase }, { on := 2, ground := Ground.phase }, { on := 3, ground := Ground.phase }, { on := 4, ground := Ground.phase }, { on := 5, ground := Ground.phase }, { on := 6, ground := Ground.phase }, { on := 7, ground := Ground.phase }, { on := 8, ground := Ground.phase }], guard := none }) rfl ?_ AllReadyH.nil)
        · intro K1 hK1
          refine step_st36 (by rfl) (.tmp 14) (.tmp 12) rfl g n2 c2 va2 (.slice va n c) dv rfl rfl hP3.out.1 ?_
          obtain ⟨V4, hv4⟩ : ∃ V, V3.setCell ⟨g, 0, none⟩ (.slice va2 n2 c2) = V := ⟨_, rfl⟩
          have hF4 : Hid (Wr B V4 g dv (M ++ T) ∧ Fr B A V4) := by have h := hP3.out.2; rw [hv4] at h; exact h
          rw [hv4]
          refine hK1.out _ _ hF4.out.2 ?_
          clear hK1
          intro _
          try simp only [Act.put, List.setIfInBounds_toArray, List.set_cons_zero, List.set_cons_succ]
          refine wpAnyH_done (by kernel_rfl) ?_ _
          exact hQ V4 tg tc va2 n2 c2 hF4.out.1 hF4.out.2
  · intro K1 hK1
    rw [if_pos (by rfl)]
    have HC1 := HC.out V0
    go_wp2_with fail
    refine HC1.mono ?_
    rintro e V1 ⟨tg, tc, rfl, hT1, hb1⟩
    dsimp only
    clear HC1
    have hS1 : Hid (Fr B A V1) := hS0.out.trans (Fr.of_below hb1 (Nat.le_trans HX.out.2.1 hS0.out.size))
    have hG1 : Hid (Blk V1 g 71 [.slice va n c, dv] ∧ Own 5 B V1 (.slice va n c) M) := ⟨hG0.out.1.below hb1 hG0.out.1.lt, hG0.out.2.below hb1 (Nat.le_refl _)⟩
    clear hb1
    refine hK1.out _ _ hS1.out ?_
    clear hK1
    intro _
    try simp only [Act.put, List.setIfInBounds_toArray, List.set_cons_zero, List.set_cons_succ]
    refine wpAnyH_ready (rs := [4]) (by kernel_rfl) (by simp) (AllReadyH.cons (i := 4) (o := { dst := some 8, op := Op.load 36 (Operand.tmp 7), type := 36, pos := "code.go:27", after := #[{ on := 3, ground := Ground.data }], guard := none }) rfl ?_ AllReadyH.nil)
    · intro K1 hK1
      rw [if_pos (by rfl)]
      have hc2 : V1.cell? ⟨g, 0, none⟩ = some (.slice va n c) := hG1.out.1.cell rfl
      go_wp2
      clear hc2
      refine hK1.out _ _ hS1.out ?_
      clear hK1
      intro _
      try simp only [Act.put, List.setIfInBounds_toArray, List.set_cons_zero, List.set_cons_succ]
      refine wpAnyH_ready (rs := [8]) (by kernel_rfl) (by simp) (AllReadyH.cons (i := 8) (o := { dst := some 12, op := Op.call { callee := Callee.builtin Builtin.append, args := #[Operand.tmp 8, Operand.tmp 11], argTypes := #[36, 36] }, type := 36, pos := "code.go:27", after := #[{ on := 4, ground := Ground.data }, { on := 7, ground := Ground.data }, { on := 7, ground := Ground.chain }], guard := none }) rfl ?_ AllReadyH.nil)
      · intro K1 hK1
        refine step_append_in V1 (by rfl) (.tmp 8) (.tmp 11) 36 rfl B 5 i0 Try.underlying36 HI5.out.1 HI5.out.2.1 HI5.out.2.2.1 HI5.out.2.2.2 (.slice va n c) M M.length rfl rfl hG1.out.2 (some ⟨tg, 0, none⟩) tn tc T rfl hT1.out (by have := HX.out.2.2; omega) (Nat.le_trans HX.out.2.1 hS1.out.size) ?_
        intro v5 V3 ho5 hg5
        obtain ⟨va2, n2, c2, rfl, -⟩ := sl_of5 ho5
        have hS3 : Hid (Fr B A V3) := hS1.out.trans (fr_own hG1.out.2 hg5 (Nat.le_trans HX.out.2.1 hS1.out.size))
        have hP3 : Hid (Blk V3 g 71 [.slice va n c, dv] ∧ Wr B (V3.setCell ⟨g, 0, none⟩ (.slice va2 n2 c2)) g dv (M ++ T) ∧ Fr B A (V3.setCell ⟨g, 0, none⟩ (.slice va2 n2 c2))) := ⟨(Wr.put hG1.out.1 hG1.out.2 HX.out.1 hg5 ho5).1, (Wr.put hG1.out.1 hG1.out.2 HX.out.1 hg5 ho5).2.1, hS1.out.trans (Wr.put hG1.out.1 hG1.out.2 HX.out.1 hg5 ho5).2.2⟩
        clear ho5 hg5
        refine hK1.out _ _ hS3.out ?_
        clear hK1
        intro _
        try simp only [Act.put, List.setIfInBounds_toArray, List.set_cons_zero, List.set_cons_succ]
        refine wpAnyH_take (i := 9) (oi := { dst := some 13, op := Op.nilCheck (Operand.tmp 4), type := 0, pos := "code.go:27", after := #[{ on := 0, ground := Ground.data }, { on := 0, ground := Ground.phase }, { on := 1, ground := Ground.phase }, { on := 2, ground := Ground.phase }, { on := 3, ground := Ground.phase }, { on := 4, ground := Ground.phase }, { on := 5, ground := Ground.phase }, { on := 6, ground := Ground.phase }, { on := 7, ground := Ground.phase }, { on := 8, ground := Ground.phase }], guard := none }) (v := .pointer (some ⟨g, 0, none⟩)) rfl (by kernel_rfl) (by kernel_rfl) (by kernel_rfl) (fun _ _ _ h => h.elim) (Or.inl ⟨by rfl, ?y9⟩) hS3.out ?_
        case y9 =>
          intro V hV
          go_simp
        simp only [Act.put, List.setIfInBounds_toArray, List.set_cons_zero, List.set_cons_succ]
        refine wpAnyH_take (i := 10) (oi := { dst := some 14, op := Op.fieldAddr 71 (Operand.tmp 13) 0, type := 0, pos := "code.go:27", after := #[{ on := 9, ground := Ground.data }, { on := 0, ground := Ground.phase }, { on := 1, ground := Ground.phase }, { on := 2, ground := Ground.phase }, { on := 3, ground := Ground.phase }, { on := 4, ground := Ground.phase }, { on := 5, ground := Ground.phase }, { on := 6, ground := Ground.phase }, { on := 7, ground := Ground.phase }, { on := 8, ground := Ground.phase }], guard := none }) (v := .pointer (some ⟨g, 0, none⟩)) rfl (by kernel_rfl) (by kernel_rfl) (by kernel_rfl) (fun _ _ _ h => h.elim) (Or.inl ⟨by rfl, ?y10⟩) hS3.out ?_
        case y10 =>
          intro V hV
          go_simp
        simp only [Act.put, List.setIfInBounds_toArray, List.set_cons_zero, List.set_cons_succ]
        refine wpAnyH_ready (rs := [11]) (by kernel_rfl) (by simp) (AllReadyH.cons (i := 11) (o := { dst := none, op := Op.store 36 (Operand.tmp 14) (Operand.tmp 12), type := 0, pos := "code.go:27", after := #[{ on := 10, ground := Ground.data }, { on := 8, ground := Ground.data }, { on := 8, ground := Ground.chain }, { on := 0, ground := Ground.phase }, { on := 1, ground := Ground.phase }, { on := 2, ground := Ground.phase }, { on := 3, ground := Ground.phase }, { on := 4, ground := Ground.phase }, { on := 5, ground := Ground.phase }, { on := 6, ground := Ground.phase }, { on := 7, ground := Ground.phase }, { on := 8, ground := Ground.phase }], guard := none }) rfl ?_ AllReadyH.nil)
        · intro K1 hK1
          refine step_st36 (by rfl) (.tmp 14) (.tmp 12) rfl g n2 c2 va2 (.slice va n c) dv rfl rfl hP3.out.1 ?_
          obtain ⟨V4, hv4⟩ : ∃ V, V3.setCell ⟨g, 0, none⟩ (.slice va2 n2 c2) = V := ⟨_, rfl⟩
          have hF4 : Hid (Wr B V4 g dv (M ++ T) ∧ Fr B A V4) := by have h := hP3.out.2; rw [hv4] at h; exact h
          rw [hv4]
          refine hK1.out _ _ hF4.out.2 ?_
          clear hK1
          intro _
          try simp only [Act.put, List.setIfInBounds_toArray, List.set_cons_zero, List.set_cons_succ]
          refine wpAnyH_done (by kernel_rfl) ?_ _
          exact hQ V4 tg tc va2 n2 c2 hF4.out.1 hF4.out.2
#print axioms nu63
theorem enc_ten (n : Nat) (h : n < 2 ^ 64) : (enc n).length ≤ 10 := enc_le n h
set_option maxHeartbeats 2000000 in
theorem text_is {B : Nat} {w : World} {g : Nat} {dv : Value} {M : List UInt8} (h : Wr B w g dv M) (s : BA) (hM : M.length ≤ 1000000) (hs : s.size ≤ 1000000) : Calls Try.prog 62 #[.pointer (some ⟨g, 0, none⟩), .string s] w (WrP B g dv (M ++ encT s) w) := by
  obtain ⟨va, n, cp, hb, ho⟩ := h.own
  obtain ⟨i0, hi⟩ := i5
  have HI5 : Hid (Try.prog.info? 5 = some i0 ∧ i0.zero = some (.int .u8 0) ∧ i0.size = 1 ∧ i0.bytes = 1) := hi
  obtain ⟨tn, htn⟩ : ∃ n, (encT s).length = n := ⟨_, rfl⟩
  have hle := enc_ten s.size (by omega)
  have hsz : s.data.toList.length = s.size := rfl
  have HX : Hid (B ≤ g ∧ B ≤ w.heap.size ∧ M.length + tn ≤ 140737488355328) := ⟨h.lo, h.lt.2, by rw [← htn]; unfold encT; rw [List.length_append]; omega⟩
  have HG : Hid (Blk w g 71 [.slice va n cp, dv] ∧ Own 5 B w (.slice va n cp) M) := ⟨hb, ho⟩
  have HC : Hid (∀ V, Calls Try.prog 89 #[.slice none 0 0, .string s] V fun e V2 => ∃ tg tc, e = .returned (.slice (some ⟨tg, 0, none⟩) tn tc) ∧ Hid (In V2 (some ⟨tg, 0, none⟩) tn tc (encT s)) ∧ Below V.heap.size V V2) := by
    intro V
    refine (putText none 0 0 [] s V (In.nil V) (by omega)).mono ?_
    rintro e V2 ⟨tg, tc, rfl, _, _, _, ho2, hb2⟩
    have e1 : ([] ++ enc s.size ++ s.data.toList).length = tn := by rw [List.nil_append]; exact htn
    rw [e1] at ho2 ⊢
    refine ⟨tg, tc, rfl, ?_, hb2⟩
    have ho3 : Own 5 V.heap.size V2 (.slice (some ⟨tg, 0, none⟩) (encT s).length tc) (encT s) := by rw [htn]; exact ho2
    have := ho3.toIn (by rw [htn]; have := HX.out.2.2; omega)
    rw [htn] at this
    exact this
  clear h hb ho hM hs hi htn hle hsz
  go_enter Try.func62, Try.ntmps62
  refine tx62 HI5 HX HG HC ?_
  intro V1 tg tc va2 n2 c2 hw hf
  go_end0
  exact ⟨⟨_, rfl⟩, hw, hf⟩
#print axioms text_is
set_option maxHeartbeats 2000000 in
theorem number_w {B : Nat} {w : World} {g : Nat} {dv : Value} {M : List UInt8} (h : Wr B w g dv M) (k : Nat) (hM : M.length ≤ 1000000) (hk : k ≤ 4611686018427387904) : Calls Try.prog 63 #[.pointer (some ⟨g, 0, none⟩), iv (k : Int)] w (WrP B g dv (M ++ enc k) w) := by
  obtain ⟨va, n, cp, hb, ho⟩ := h.own
  obtain ⟨i0, hi⟩ := i5
  have HI5 : Hid (Try.prog.info? 5 = some i0 ∧ i0.zero = some (.int .u8 0) ∧ i0.size = 1 ∧ i0.bytes = 1) := hi
  obtain ⟨tn, htn⟩ : ∃ n, (enc k).length = n := ⟨_, rfl⟩
  have hle := enc_ten k (by omega)
  have qk : IntKind.u64.wrap (k : Int) = (k : Int) := by rw [IntKind.wrap_u64]; omega
  have HX : Hid (B ≤ g ∧ B ≤ w.heap.size ∧ M.length + tn ≤ 140737488355328) := ⟨h.lo, h.lt.2, by omega⟩
  have HG : Hid (Blk w g 71 [.slice va n cp, dv] ∧ Own 5 B w (.slice va n cp) M) := ⟨hb, ho⟩
  have HC : Hid (∀ V, Calls Try.prog 90 #[.slice none 0 0, .int .u64 (k : Int)] V fun e V2 => ∃ tg tc, e = .returned (.slice (some ⟨tg, 0, none⟩) tn tc) ∧ Hid (In V2 (some ⟨tg, 0, none⟩) tn tc (enc k)) ∧ Below V.heap.size V V2) := by
    intro V
    refine (put none 0 0 [] (k : Int) V (In.nil V) (by omega) (by omega)).mono ?_
    rintro e V2 ⟨rfl, ho2, hb2⟩
    rw [Int.toNat_natCast, Nat.zero_add, htn, List.nil_append] at ho2
    rw [Int.toNat_natCast, Nat.zero_add, htn]
    refine ⟨_, tn, rfl, ?_, hb2⟩
    have ho3 : Own 5 V.heap.size V2 (.slice (some ⟨V.heap.size, 0, none⟩) (enc k).length tn) (enc k) := by rw [htn]; exact ho2
    have := ho3.toIn (by omega)
    rw [htn] at this
    exact this
  clear h hb ho hM hk hi htn hle
  go_enter Try.func63, Try.ntmps63
  refine nu63 qk HI5 HX HG HC ?_
  intro V1 tg tc va2 n2 c2 hw hf
  go_end0
  exact ⟨⟨_, rfl⟩, hw, hf⟩
#print axioms number_w
end Go.Proofs.Ytgdecjacbkicmaa.Oct
