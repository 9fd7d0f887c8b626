/-
  Layer 11 (lines): Ahead.
-/
import Derived.Test.YtjcihaohpbmogaaQpBA
/- Layer 11 (lines): Ahead. -/
namespace Go.Proofs.Ytjcihaohpbmogaa.Oct
open Go.RowKit
set_option maxRecDepth 100000
set_option linter.unusedSimpArgs false
set_option linter.unusedVariables false
set_option linter.unusedSectionVars false

/-- what Ahead tells -/
def Gm.has (G : Gm) (v : Vx) : Bool := isE v || decide (v ∈ G.keys)
def Gm.ahd (G : Gm) (a b : Vx) : Prop := G.has a = true ∧ G.has b = true ∧ a ≠ b ∧ (a = vTop ∨ b = vBot ∨ (a ≠ vBot ∧ b ≠ vTop ∧ Gr.Reach G.frs b a))
theorem eqVx_no {x y : Vx} (h : eqVx x y = false) : x ≠ y := fun e => by rw [(eqVx_iff x y).2 e] at h; cases h
set_option maxRecDepth 100000 in
set_option maxHeartbeats 4000000 in
theorem ah5 {Q : Exit → Act → World → Prop} {x0 x1 x2 x3 x5 x6 x7 x8 x9 x10 x11 x12 x13 x14 x15 x16 x17 x18 x19 x20 x21 x22 x23 x24 x25 x26 x27 x28 x29 x30 x31 x32 x33 x34 x35 x36 : Value} {ds : List Deferred} {A : World} {d : Nat} {y : Vx} {B : Bool}
    (HL : Hid (d < A.heap.size)) (HR : Hid (A.rangeAt d 0 y.cells)) (HV : Hid y.ok) (HB : Hid (eqVx y vTop = B))
    (hQ : ∀ V1, Below A.heap.size A V1 → Q .normal { tmps := #[x0, x1, x2, x3, .pointer (some ⟨d, 0, none⟩), x5, x6, x7, x8, x9, x10, x11, x12, x13, x14, x15, x16, x17, x18, .bool B, .agg y.cells.toArray, .agg vTop.cells.toArray, .bool B, x23, x24, x25, x26, x27, x28, x29, x30, x31, x32, x33, x34, x35, x36], defers := ds } V1) :
    (Code.region 5 #[{ dst := some 20, op := Op.load 34 (Operand.tmp 4), type := 34, pos := "lines.go:58", after := #[], guard := none }, { dst := some 21, op := Op.call { callee := Callee.value (Operand.func 45), args := #[], argTypes := #[] }, type := 34, pos := "lines.go:58", after := #[], guard := none }, { dst := some 22, op := Op.binOp BinOp.eql 34 (Operand.tmp 20) (Operand.tmp 21) 34, type := 4, pos := "lines.go:58", after := #[{ on := 0, ground := Ground.data }, { on := 1, ground := Ground.data }], guard := none }, { dst := some 19, op := Op.assign (Operand.tmp 22), type := 4, pos := "lines.go:58", after := #[{ on := 2, ground := Ground.data }, { on := 1, ground := Ground.chain }], guard := none }] true).wp Try.prog Q { tmps := #[x0, x1, x2, x3, .pointer (some ⟨d, 0, none⟩), x5, x6, x7, x8, x9, x10, x11, x12, x13, x14, x15, x16, x17, x18, x19, x20, x21, x22, x23, x24, x25, x26, x27, x28, x29, x30, x31, x32, x33, x34, x35, x36], defers := ds } A := by
  refine Code.wp_mono (Q := fun x a' w' => match x with | .normal => Q .normal a' w' | _ => False) (by intro x a' w' h; cases x <;> first | exact h | exact h.elim) ?_
  refine wp_region_held (S := fun V => Below A.heap.size A V) (by kernel_rfl) ?_
  have hS0 : Hid (Below A.heap.size A A.drew) := below_drew0 A
  change wpAnyH Try.prog .any _ _ (fun V => Below A.heap.size A V) 4 (Array.replicate 4 false) _ A.drew
  obtain ⟨V0, hV0⟩ : ∃ V0, A.drew = V0 := ⟨_, rfl⟩
  rw [hV0]
  rw [hV0] at hS0
  clear hV0
  refine wpAnyH_take (i := 0) (oi := { dst := some 20, op := Op.load 34 (Operand.tmp 4), type := 34, pos := "lines.go:58", after := #[], guard := none }) (v := .agg y.cells.toArray) rfl (by kernel_rfl) (by kernel_rfl) (by kernel_rfl) (fun _ _ _ h => h.elim) (yieldsIf_load_mid (by rfl) _ _ rfl _ _ rfl (y.cells) _ (fun V hV => rangeAt_same (HR.out) ((show Below A.heap.size A V from hV).block _ (HL.out))) Try.underlying34 rfl (info34 HV.out)) hS0.out ?_
  simp only [Act.put, List.setIfInBounds_toArray, List.set_cons_zero, List.set_cons_succ]
  refine wpAnyH_ready (rs := [1]) (by kernel_rfl) (by simp) (AllReadyH.cons (i := 1) (o := { dst := some 21, op := Op.call { callee := Callee.value (Operand.func 45), args := #[], argTypes := #[] }, type := 34, pos := "lines.go:58", after := #[], guard := none }) rfl ?_ AllReadyH.nil)
  · intro K1 hK1
    rw [if_pos (by rfl)]
    have HC1 := top_is V0 vTop.cells rfl
    go_wp2_with fail
    refine HC1.mono ?_
    rintro e V1 ⟨rfl, hb1⟩
    dsimp only
    clear HC1
    have hS1 : Hid (Below A.heap.size A V1) := hS0.out.trans (hb1.mono hS0.out.size)
    clear hb1
    refine hK1.out _ _ hS1.out ?_
    clear hK1
    intro _
    try simp only [Act.put, List.setIfInBounds_toArray, List.set_cons_zero, List.set_cons_succ]
    refine wpAnyH_take (i := 2) (oi := { dst := some 22, op := Op.binOp BinOp.eql 34 (Operand.tmp 20) (Operand.tmp 21) 34, type := 4, pos := "lines.go:58", after := #[{ on := 0, ground := Ground.data }, { on := 1, ground := Ground.data }], guard := none }) (v := .bool B) rfl (by kernel_rfl) (by kernel_rfl) (by kernel_rfl) (fun _ _ _ h => h.elim) (Or.inl ⟨by rfl, ?y1⟩) hS1.out ?_
    case y1 =>
      intro V hV
      exact yl_eqV V _ _ y vTop HV.out vTop_ok B HB.out rfl rfl rfl
    simp only [Act.put, List.setIfInBounds_toArray, List.set_cons_zero, List.set_cons_succ]
    refine wpAnyH_take (i := 3) (oi := { dst := some 19, op := Op.assign (Operand.tmp 22), type := 4, pos := "lines.go:58", after := #[{ on := 2, ground := Ground.data }, { on := 1, ground := Ground.chain }], guard := none }) (v := .bool B) rfl (by kernel_rfl) (by kernel_rfl) (by kernel_rfl) (fun _ _ _ h => h.elim) (Or.inl ⟨by rfl, ?y2⟩) hS1.out ?_
    case y2 =>
      intro V hV
      go_simp
    simp only [Act.put, List.setIfInBounds_toArray, List.set_cons_zero, List.set_cons_succ]
    refine wpAnyH_done (by kernel_rfl) ?_ _
    exact hQ V1 hS1.out
set_option maxRecDepth 100000 in
set_option maxHeartbeats 4000000 in
theorem ah6 {Q : Exit → Act → World → Prop} {x0 x1 x2 x3 x4 x6 x7 x8 x9 x10 x11 x12 x13 x14 x15 x16 x17 x18 x19 x20 x21 x22 x23 x24 x25 x26 x27 x28 x29 x30 x31 x32 x33 x34 x35 x36 : Value} {ds : List Deferred} {A : World} {d : Nat} {y : Vx} {B : Bool}
    (HL : Hid (d < A.heap.size)) (HR : Hid (A.rangeAt d 0 y.cells)) (HV : Hid y.ok) (HB : Hid (eqVx y vBot = B))
    (hQ : ∀ V1, Below A.heap.size A V1 → Q .normal { tmps := #[x0, x1, x2, x3, x4, .pointer (some ⟨d, 0, none⟩), x6, x7, x8, x9, x10, x11, x12, x13, x14, x15, x16, x17, x18, .bool B, x20, x21, x22, .agg y.cells.toArray, .agg vBot.cells.toArray, .bool B, x26, x27, x28, x29, x30, x31, x32, x33, x34, x35, x36], defers := ds } V1) :
    (Code.region 6 #[{ dst := some 23, op := Op.load 34 (Operand.tmp 5), type := 34, pos := "lines.go:58", after := #[], guard := none }, { dst := some 24, op := Op.call { callee := Callee.value (Operand.func 46), args := #[], argTypes := #[] }, type := 34, pos := "lines.go:58", after := #[], guard := none }, { dst := some 25, op := Op.binOp BinOp.eql 34 (Operand.tmp 23) (Operand.tmp 24) 34, type := 4, pos := "lines.go:58", after := #[{ on := 0, ground := Ground.data }, { on := 1, ground := Ground.data }], guard := none }, { dst := some 19, op := Op.assign (Operand.tmp 25), type := 4, pos := "lines.go:58", after := #[{ on := 2, ground := Ground.data }, { on := 1, ground := Ground.chain }], guard := none }] true).wp Try.prog Q { tmps := #[x0, x1, x2, x3, x4, .pointer (some ⟨d, 0, none⟩), x6, x7, x8, x9, x10, x11, x12, x13, x14, x15, x16, x17, x18, x19, x20, x21, x22, x23, x24, x25, x26, x27, x28, x29, x30, x31, x32, x33, x34, x35, x36], defers := ds } A := by
  refine Code.wp_mono (Q := fun x a' w' => match x with | .normal => Q .normal a' w' | _ => False) (by intro x a' w' h; cases x <;> first | exact h | exact h.elim) ?_
  refine wp_region_held (S := fun V => Below A.heap.size A V) (by kernel_rfl) ?_
  have hS0 : Hid (Below A.heap.size A A.drew) := below_drew0 A
  change wpAnyH Try.prog .any _ _ (fun V => Below A.heap.size A V) 4 (Array.replicate 4 false) _ A.drew
  obtain ⟨V0, hV0⟩ : ∃ V0, A.drew = V0 := ⟨_, rfl⟩
  rw [hV0]
  rw [hV0] at hS0
  clear hV0
  refine wpAnyH_take (i := 0) (oi := { dst := some 23, op := Op.load 34 (Operand.tmp 5), type := 34, pos := "lines.go:58", after := #[], guard := none }) (v := .agg y.cells.toArray) rfl (by kernel_rfl) (by kernel_rfl) (by kernel_rfl) (fun _ _ _ h => h.elim) (yieldsIf_load_mid (by rfl) _ _ rfl _ _ rfl (y.cells) _ (fun V hV => rangeAt_same (HR.out) ((show Below A.heap.size A V from hV).block _ (HL.out))) Try.underlying34 rfl (info34 HV.out)) hS0.out ?_
  simp only [Act.put, List.setIfInBounds_toArray, List.set_cons_zero, List.set_cons_succ]
  refine wpAnyH_ready (rs := [1]) (by kernel_rfl) (by simp) (AllReadyH.cons (i := 1) (o := { dst := some 24, op := Op.call { callee := Callee.value (Operand.func 46), args := #[], argTypes := #[] }, type := 34, pos := "lines.go:58", after := #[], guard := none }) rfl ?_ AllReadyH.nil)
  · intro K1 hK1
    rw [if_pos (by rfl)]
    have HC1 := bot_is V0 vBot.cells rfl
    go_wp2_with fail
    refine HC1.mono ?_
    rintro e V1 ⟨rfl, hb1⟩
    dsimp only
    clear HC1
    have hS1 : Hid (Below A.heap.size A V1) := hS0.out.trans (hb1.mono hS0.out.size)
    clear hb1
    refine hK1.out _ _ hS1.out ?_
    clear hK1
    intro _
    try simp only [Act.put, List.setIfInBounds_toArray, List.set_cons_zero, List.set_cons_succ]
    refine wpAnyH_take (i := 2) (oi := { dst := some 25, op := Op.binOp BinOp.eql 34 (Operand.tmp 23) (Operand.tmp 24) 34, type := 4, pos := "lines.go:58", after := #[{ on := 0, ground := Ground.data }, { on := 1, ground := Ground.data }], guard := none }) (v := .bool B) rfl (by kernel_rfl) (by kernel_rfl) (by kernel_rfl) (fun _ _ _ h => h.elim) (Or.inl ⟨by rfl, ?y1⟩) hS1.out ?_
    case y1 =>
      intro V hV
      exact yl_eqV V _ _ y vBot HV.out vBot_ok B HB.out rfl rfl rfl
    simp only [Act.put, List.setIfInBounds_toArray, List.set_cons_zero, List.set_cons_succ]
    refine wpAnyH_take (i := 3) (oi := { dst := some 19, op := Op.assign (Operand.tmp 25), type := 4, pos := "lines.go:58", after := #[{ on := 2, ground := Ground.data }, { on := 1, ground := Ground.chain }], guard := none }) (v := .bool B) rfl (by kernel_rfl) (by kernel_rfl) (by kernel_rfl) (fun _ _ _ h => h.elim) (Or.inl ⟨by rfl, ?y2⟩) hS1.out ?_
    case y2 =>
      intro V hV
      go_simp
    simp only [Act.put, List.setIfInBounds_toArray, List.set_cons_zero, List.set_cons_succ]
    refine wpAnyH_done (by kernel_rfl) ?_ _
    exact hQ V1 hS1.out
set_option maxRecDepth 100000 in
set_option maxHeartbeats 4000000 in
theorem ah8 {Q : Exit → Act → World → Prop} {x0 x1 x2 x3 x5 x6 x7 x8 x9 x10 x11 x12 x13 x14 x15 x16 x17 x18 x19 x20 x21 x22 x23 x24 x25 x26 x27 x28 x29 x30 x31 x32 x33 x34 x35 x36 : Value} {ds : List Deferred} {A : World} {d : Nat} {y : Vx} {B : Bool}
    (HL : Hid (d < A.heap.size)) (HR : Hid (A.rangeAt d 0 y.cells)) (HV : Hid y.ok) (HB : Hid (eqVx y vBot = B))
    (hQ : ∀ V1, Below A.heap.size A V1 → Q .normal { tmps := #[x0, x1, x2, x3, .pointer (some ⟨d, 0, none⟩), x5, x6, x7, x8, x9, x10, x11, x12, x13, x14, x15, x16, x17, x18, x19, x20, x21, x22, x23, x24, x25, .bool B, .agg y.cells.toArray, .agg vBot.cells.toArray, .bool B, x30, x31, x32, x33, x34, x35, x36], defers := ds } V1) :
    (Code.region 8 #[{ dst := some 27, op := Op.load 34 (Operand.tmp 4), type := 34, pos := "lines.go:60", after := #[], guard := none }, { dst := some 28, op := Op.call { callee := Callee.value (Operand.func 46), args := #[], argTypes := #[] }, type := 34, pos := "lines.go:60", after := #[], guard := none }, { dst := some 29, op := Op.binOp BinOp.eql 34 (Operand.tmp 27) (Operand.tmp 28) 34, type := 4, pos := "lines.go:60", after := #[{ on := 0, ground := Ground.data }, { on := 1, ground := Ground.data }], guard := none }, { dst := some 26, op := Op.assign (Operand.tmp 29), type := 4, pos := "lines.go:60", after := #[{ on := 2, ground := Ground.data }, { on := 1, ground := Ground.chain }], guard := none }] true).wp Try.prog Q { tmps := #[x0, x1, x2, x3, .pointer (some ⟨d, 0, none⟩), x5, x6, x7, x8, x9, x10, x11, x12, x13, x14, x15, x16, x17, x18, x19, x20, x21, x22, x23, x24, x25, x26, x27, x28, x29, x30, x31, x32, x33, x34, x35, x36], defers := ds } A := by
  refine Code.wp_mono (Q := fun x a' w' => match x with | .normal => Q .normal a' w' | _ => False) (by intro x a' w' h; cases x <;> first | exact h | exact h.elim) ?_
  refine wp_region_held (S := fun V => Below A.heap.size A V) (by kernel_rfl) ?_
  have hS0 : Hid (Below A.heap.size A A.drew) := below_drew0 A
  change wpAnyH Try.prog .any _ _ (fun V => Below A.heap.size A V) 4 (Array.replicate 4 false) _ A.drew
  obtain ⟨V0, hV0⟩ : ∃ V0, A.drew = V0 := ⟨_, rfl⟩
  rw [hV0]
  rw [hV0] at hS0
  clear hV0
  refine wpAnyH_take (i := 0) (oi := { dst := some 27, op := Op.load 34 (Operand.tmp 4), type := 34, pos := "lines.go:60", after := #[], guard := none }) (v := .agg y.cells.toArray) rfl (by kernel_rfl) (by kernel_rfl) (by kernel_rfl) (fun _ _ _ h => h.elim) (yieldsIf_load_mid (by rfl) _ _ rfl _ _ rfl (y.cells) _ (fun V hV => rangeAt_same (HR.out) ((show Below A.heap.size A V from hV).block _ (HL.out))) Try.underlying34 rfl (info34 HV.out)) hS0.out ?_
  simp only [Act.put, List.setIfInBounds_toArray, List.set_cons_zero, List.set_cons_succ]
  refine wpAnyH_ready (rs := [1]) (by kernel_rfl) (by simp) (AllReadyH.cons (i := 1) (o := { dst := some 28, op := Op.call { callee := Callee.value (Operand.func 46), args := #[], argTypes := #[] }, type := 34, pos := "lines.go:60", after := #[], guard := none }) rfl ?_ AllReadyH.nil)
  · intro K1 hK1
    rw [if_pos (by rfl)]
    have HC1 := bot_is V0 vBot.cells rfl
    go_wp2_with fail
    refine HC1.mono ?_
    rintro e V1 ⟨rfl, hb1⟩
    dsimp only
    clear HC1
    have hS1 : Hid (Below A.heap.size A V1) := hS0.out.trans (hb1.mono hS0.out.size)
    clear hb1
    refine hK1.out _ _ hS1.out ?_
    clear hK1
    intro _
    try simp only [Act.put, List.setIfInBounds_toArray, List.set_cons_zero, List.set_cons_succ]
    refine wpAnyH_take (i := 2) (oi := { dst := some 29, op := Op.binOp BinOp.eql 34 (Operand.tmp 27) (Operand.tmp 28) 34, type := 4, pos := "lines.go:60", after := #[{ on := 0, ground := Ground.data }, { on := 1, ground := Ground.data }], guard := none }) (v := .bool B) rfl (by kernel_rfl) (by kernel_rfl) (by kernel_rfl) (fun _ _ _ h => h.elim) (Or.inl ⟨by rfl, ?y1⟩) hS1.out ?_
    case y1 =>
      intro V hV
      exact yl_eqV V _ _ y vBot HV.out vBot_ok B HB.out rfl rfl rfl
    simp only [Act.put, List.setIfInBounds_toArray, List.set_cons_zero, List.set_cons_succ]
    refine wpAnyH_take (i := 3) (oi := { dst := some 26, op := Op.assign (Operand.tmp 29), type := 4, pos := "lines.go:60", after := #[{ on := 2, ground := Ground.data }, { on := 1, ground := Ground.chain }], guard := none }) (v := .bool B) rfl (by kernel_rfl) (by kernel_rfl) (by kernel_rfl) (fun _ _ _ h => h.elim) (Or.inl ⟨by rfl, ?y2⟩) hS1.out ?_
    case y2 =>
      intro V hV
      go_simp
    simp only [Act.put, List.setIfInBounds_toArray, List.set_cons_zero, List.set_cons_succ]
    refine wpAnyH_done (by kernel_rfl) ?_ _
    exact hQ V1 hS1.out
set_option maxRecDepth 100000 in
set_option maxHeartbeats 4000000 in
theorem ah9 {Q : Exit → Act → World → Prop} {x0 x1 x2 x3 x4 x6 x7 x8 x9 x10 x11 x12 x13 x14 x15 x16 x17 x18 x19 x20 x21 x22 x23 x24 x25 x26 x27 x28 x29 x30 x31 x32 x33 x34 x35 x36 : Value} {ds : List Deferred} {A : World} {d : Nat} {y : Vx} {B : Bool}
    (HL : Hid (d < A.heap.size)) (HR : Hid (A.rangeAt d 0 y.cells)) (HV : Hid y.ok) (HB : Hid (eqVx y vTop = B))
    (hQ : ∀ V1, Below A.heap.size A V1 → Q .normal { tmps := #[x0, x1, x2, x3, x4, .pointer (some ⟨d, 0, none⟩), x6, x7, x8, x9, x10, x11, x12, x13, x14, x15, x16, x17, x18, x19, x20, x21, x22, x23, x24, x25, .bool B, x27, x28, x29, .agg y.cells.toArray, .agg vTop.cells.toArray, .bool B, x33, x34, x35, x36], defers := ds } V1) :
    (Code.region 9 #[{ dst := some 30, op := Op.load 34 (Operand.tmp 5), type := 34, pos := "lines.go:60", after := #[], guard := none }, { dst := some 31, op := Op.call { callee := Callee.value (Operand.func 45), args := #[], argTypes := #[] }, type := 34, pos := "lines.go:60", after := #[], guard := none }, { dst := some 32, op := Op.binOp BinOp.eql 34 (Operand.tmp 30) (Operand.tmp 31) 34, type := 4, pos := "lines.go:60", after := #[{ on := 0, ground := Ground.data }, { on := 1, ground := Ground.data }], guard := none }, { dst := some 26, op := Op.assign (Operand.tmp 32), type := 4, pos := "lines.go:60", after := #[{ on := 2, ground := Ground.data }, { on := 1, ground := Ground.chain }], guard := none }] true).wp Try.prog Q { tmps := #[x0, x1, x2, x3, x4, .pointer (some ⟨d, 0, none⟩), x6, x7, x8, x9, x10, x11, x12, x13, x14, x15, x16, x17, x18, x19, x20, x21, x22, x23, x24, x25, x26, x27, x28, x29, x30, x31, x32, x33, x34, x35, x36], defers := ds } A := by
  refine Code.wp_mono (Q := fun x a' w' => match x with | .normal => Q .normal a' w' | _ => False) (by intro x a' w' h; cases x <;> first | exact h | exact h.elim) ?_
  refine wp_region_held (S := fun V => Below A.heap.size A V) (by kernel_rfl) ?_
  have hS0 : Hid (Below A.heap.size A A.drew) := below_drew0 A
  change wpAnyH Try.prog .any _ _ (fun V => Below A.heap.size A V) 4 (Array.replicate 4 false) _ A.drew
  obtain ⟨V0, hV0⟩ : ∃ V0, A.drew = V0 := ⟨_, rfl⟩
  rw [hV0]
  rw [hV0] at hS0
  clear hV0
  refine wpAnyH_take (i := 0) (oi := { dst := some 30, op := Op.load 34 (Operand.tmp 5), type := 34, pos := "lines.go:60", after := #[], guard := none }) (v := .agg y.cells.toArray) rfl (by kernel_rfl) (by kernel_rfl) (by kernel_rfl) (fun _ _ _ h => h.elim) (yieldsIf_load_mid (by rfl) _ _ rfl _ _ rfl (y.cells) _ (fun V hV => rangeAt_same (HR.out) ((show Below A.heap.size A V from hV).block _ (HL.out))) Try.underlying34 rfl (info34 HV.out)) hS0.out ?_
  simp only [Act.put, List.setIfInBounds_toArray, List.set_cons_zero, List.set_cons_succ]
  refine wpAnyH_ready (rs := [1]) (by kernel_rfl) (by simp) (AllReadyH.cons (i := 1) (o := { dst := some 31, op := Op.call { callee := Callee.value (Operand.func 45), args := #[], argTypes := #[] }, type := 34, pos := "lines.go:60", after := #[], guard := none }) rfl ?_ AllReadyH.nil)
  · intro K1 hK1
    rw [if_pos (by rfl)]
    have HC1 := top_is V0 vTop.cells rfl
    go_wp2_with fail
    refine HC1.mono ?_
    rintro e V1 ⟨rfl, hb1⟩
    dsimp only
    clear HC1
    have hS1 : Hid (Below A.heap.size A V1) := hS0.out.trans (hb1.mono hS0.out.size)
    clear hb1
    refine hK1.out _ _ hS1.out ?_
    clear hK1
    intro _
    try simp only [Act.put, List.setIfInBounds_toArray, List.set_cons_zero, List.set_cons_succ]
    refine wpAnyH_take (i := 2) (oi := { dst := some 32, op := Op.binOp BinOp.eql 34 (Operand.tmp 30) (Operand.tmp 31) 34, type := 4, pos := "lines.go:60", after := #[{ on := 0, ground := Ground.data }, { on := 1, ground := Ground.data }], guard := none }) (v := .bool B) rfl (by kernel_rfl) (by kernel_rfl) (by kernel_rfl) (fun _ _ _ h => h.elim) (Or.inl ⟨by rfl, ?y1⟩) hS1.out ?_
    case y1 =>
      intro V hV
      exact yl_eqV V _ _ y vTop HV.out vTop_ok B HB.out rfl rfl rfl
    simp only [Act.put, List.setIfInBounds_toArray, List.set_cons_zero, List.set_cons_succ]
    refine wpAnyH_take (i := 3) (oi := { dst := some 26, op := Op.assign (Operand.tmp 32), type := 4, pos := "lines.go:60", after := #[{ on := 2, ground := Ground.data }, { on := 1, ground := Ground.chain }], guard := none }) (v := .bool B) rfl (by kernel_rfl) (by kernel_rfl) (by kernel_rfl) (fun _ _ _ h => h.elim) (Or.inl ⟨by rfl, ?y2⟩) hS1.out ?_
    case y2 =>
      intro V hV
      go_simp
    simp only [Act.put, List.setIfInBounds_toArray, List.set_cons_zero, List.set_cons_succ]
    refine wpAnyH_done (by kernel_rfl) ?_ _
    exact hQ V1 hS1.out
set_option maxHeartbeats 4000000 in
theorem ahead_is {w : World} {p : Nat} {G : Gm} (h : GAt w p G) (hT : G.tied) (a b : Vx) (ha : Vk a) (hb : Vk b) (XA XB : List Value) (hXA : a.cells = XA) (hXB : b.cells = XB) (B : Bool) (hB : B = true ↔ G.ahd a b) :
    Calls Try.prog 20 #[.pointer (some ⟨p, 0, none⟩), .agg XA.toArray, .agg XB.toArray] w fun e w' => e = .returned (.bool B) ∧ Below w.heap.size w w' := by
  subst hXA
  subst hXB
  obtain ⟨d4, hdd4⟩ : ∃ d, w.heap.size = d := ⟨_, rfl⟩
  obtain ⟨W1, hWd4⟩ : ∃ W, w.alloc (.cells a.cells.toArray 34) = W := ⟨_, rfl⟩
  have bd4 : Below w.heap.size w W1 := by rw [← hWd4]; exact below_al _ _
  have kd4 : Blk W1 d4 34 a.cells := by rw [← hWd4, ← hdd4]; exact Blk.new w _ _
  obtain ⟨d5, hdd5⟩ : ∃ d, W1.heap.size = d := ⟨_, rfl⟩
  obtain ⟨W2, hWd5⟩ : ∃ W, W1.alloc (.cells b.cells.toArray 34) = W := ⟨_, rfl⟩
  have bd5 : Below W1.heap.size W1 W2 := by rw [← hWd5]; exact below_al _ _
  have kd5 : Blk W2 d5 34 b.cells := by rw [← hWd5, ← hdd5]; exact Blk.new W1 _ _
  have HT : Hid (G.tied ∧ Vk a ∧ Vk b) := ⟨hT, ha, hb⟩
  have S0 : Hid (Below w.heap.size w W2 ∧ Blk W2 d4 34 a.cells ∧ Blk W2 d5 34 b.cells ∧ GAt W2 p G) := ⟨below_tr bd4 bd5, kd4.below bd5 kd4.lt, kd5, h.below (below_tr bd4 bd5)⟩
  have h1 := Vx.one a
  have h1b := Vx.one b
  have h2 := Try.underlying34
  have h3 := info34 ha.1
  have h3b := info34 hb.1
  have h4 := Vx.len ha.1
  have h4b := Vx.len hb.1
  clear bd4 bd5 kd4 kd5 h hT ha hb
  go_enter Try.func20, Try.ntmps20
  go_wp2_with (first
    | (with_reducible change wpList _ _ _ ({ dst := some 9, op := _, type := _, pos := _, after := _, guard := _ } :: _) _ _
       refine wpList_load_want rfl 34 (.tmp 4) rfl d4 0 rfl a.cells _ S0.out.2.1.range0 Try.underlying34 rfl (info34 HT.out.2.1.1) ?_)
    | fail)
  clear hWd4 hWd5 hdd4 hdd5 h1 h1b h3 h3b h4 h4b
  obtain ⟨A, hA⟩ : ∃ A, G.has a = A := ⟨_, rfl⟩
  refine (has_is S0.out.2.2.2 a HT.out.2.1 a.cells rfl A hA).mono ?_
  rintro e V ⟨rfl, hb⟩
  have S1 : Hid (Below w.heap.size w V ∧ Blk V d4 34 a.cells ∧ Blk V d5 34 b.cells ∧ GAt V p G) := ⟨below_tr S0.out.1 hb, S0.out.2.1.below hb S0.out.2.1.lt, S0.out.2.2.1.below hb S0.out.2.2.1.lt, S0.out.2.2.2.below hb⟩
  clear hb
  cases A with
  | false =>
    have HB : Hid (B = false) := by cases hB0 : B with | false => rfl | true => exact absurd (hB.1 hB0) (fun k => by rw [k.1] at hA; cases hA)
    clear hB
    go_wp2
    go_ret
    rw [HB.out]
    exact ⟨rfl, S1.out.1⟩
  | true =>
    go_wp2_with (first
      | (with_reducible change wpList _ _ _ ({ dst := some 13, op := _, type := _, pos := _, after := _, guard := _ } :: _) _ _
         refine wpList_load_want rfl 34 (.tmp 5) rfl d5 0 rfl b.cells _ S1.out.2.2.1.range0 Try.underlying34 rfl (info34 HT.out.2.2.1) ?_)
      | fail)
    obtain ⟨C, hC⟩ : ∃ C, G.has b = C := ⟨_, rfl⟩
    refine (has_is S1.out.2.2.2 b HT.out.2.2 b.cells rfl C hC).mono ?_
    rintro e V2 ⟨rfl, hb⟩
    have S2 : Hid (Below w.heap.size w V2 ∧ Blk V2 d4 34 a.cells ∧ Blk V2 d5 34 b.cells ∧ GAt V2 p G) := ⟨below_tr S1.out.1 hb, S1.out.2.1.below hb S1.out.2.1.lt, S1.out.2.2.1.below hb S1.out.2.2.1.lt, S1.out.2.2.2.below hb⟩
    clear hb
    cases C with
    | false =>
      have HB : Hid (B = false) := by cases hB0 : B with | false => rfl | true => exact absurd (hB.1 hB0) (fun k => by rw [k.2.1] at hC; cases hC)
      clear hB
      go_wp2
      go_ret
      rw [HB.out]
      exact ⟨rfl, S2.out.1⟩
    | true =>
      cases hE : eqVx a b with
      | true =>
        have HE : Hid (eqVx a b = true) := hE
        have HB : Hid (B = false) := by cases hB0 : B with | false => rfl | true => exact absurd (hB.1 hB0) (fun k => k.2.2.1 ((eqVx_iff a b).1 hE))
        clear hB hE
        go_wp2_with (first
          | (with_reducible change wpList _ _ _ ({ dst := some 16, op := _, type := _, pos := _, after := _, guard := _ } :: _) _ _
             refine wpList_load_want rfl 34 (.tmp 4) rfl d4 0 rfl a.cells _ S2.out.2.1.range0 Try.underlying34 rfl (info34 HT.out.2.1.1) ?_)
          | (with_reducible change wpList _ _ _ ({ dst := some 17, op := _, type := _, pos := _, after := _, guard := _ } :: _) _ _
             refine wpList_load_want rfl 34 (.tmp 5) rfl d5 0 rfl b.cells _ S2.out.2.2.1.range0 Try.underlying34 rfl (info34 HT.out.2.2.1) ?_)
          | (with_reducible change wpList _ _ _ ({ dst := some 18, op := _, type := _, pos := _, after := _, guard := _ } :: _) _ _
             refine wpList_eqV rfl (.tmp 16) (.tmp 17) rfl a b HT.out.2.1.1 HT.out.2.2.1 true HE.out rfl rfl ?_)
          | fail)
        go_ret
        rw [HB.out]
        exact ⟨rfl, S2.out.1⟩
      | false =>
        have HE : Hid (eqVx a b = false) := hE
        have HAB : Hid (a ≠ b) := eqVx_no hE
        have HH : Hid (G.has a = true ∧ G.has b = true) := ⟨hA, hC⟩
        have HB0 : Hid (B = true ↔ G.ahd a b) := hB
        clear hE hB
        go_wp2_with (first
          | (with_reducible change wpList _ _ _ ({ dst := some 16, op := _, type := _, pos := _, after := _, guard := _ } :: _) _ _
             refine wpList_load_want rfl 34 (.tmp 4) rfl d4 0 rfl a.cells _ S2.out.2.1.range0 Try.underlying34 rfl (info34 HT.out.2.1.1) ?_)
          | (with_reducible change wpList _ _ _ ({ dst := some 17, op := _, type := _, pos := _, after := _, guard := _ } :: _) _ _
             refine wpList_load_want rfl 34 (.tmp 5) rfl d5 0 rfl b.cells _ S2.out.2.2.1.range0 Try.underlying34 rfl (info34 HT.out.2.2.1) ?_)
          | (with_reducible change wpList _ _ _ ({ dst := some 18, op := _, type := _, pos := _, after := _, guard := _ } :: _) _ _
             refine wpList_eqV rfl (.tmp 16) (.tmp 17) rfl a b HT.out.2.1.1 HT.out.2.2.1 false HE.out rfl rfl ?_)
          | fail)
        clear HE
        obtain ⟨B5, hB5⟩ : ∃ x, eqVx a vTop = x := ⟨_, rfl⟩
        refine ah5 S2.out.2.1.lt S2.out.2.1.range0 HT.out.2.1.1 hB5 ?_
        intro V3 hb
        have S3 : Hid (Below w.heap.size w V3 ∧ Blk V3 d4 34 a.cells ∧ Blk V3 d5 34 b.cells ∧ GAt V3 p G) := ⟨below_tr S2.out.1 hb, S2.out.2.1.below hb S2.out.2.1.lt, S2.out.2.2.1.below hb S2.out.2.2.1.lt, S2.out.2.2.2.below hb⟩
        clear hb
        cases B5 with
        | true =>
          have HB : Hid (B = true) := HB0.out.2 ⟨HH.out.1, HH.out.2, HAB.out, .inl ((eqVx_iff a vTop).1 hB5)⟩
          clear HB0
          go_wp2
          go_ret
          rw [HB.out]
          exact ⟨rfl, S3.out.1⟩
        | false =>
          go_wp2_with fail
          obtain ⟨B6, hB6⟩ : ∃ x, eqVx b vBot = x := ⟨_, rfl⟩
          refine ah6 S3.out.2.2.1.lt S3.out.2.2.1.range0 HT.out.2.2.1 hB6 ?_
          intro V4 hb
          have S4 : Hid (Below w.heap.size w V4 ∧ Blk V4 d4 34 a.cells ∧ Blk V4 d5 34 b.cells ∧ GAt V4 p G) := ⟨below_tr S3.out.1 hb, S3.out.2.1.below hb S3.out.2.1.lt, S3.out.2.2.1.below hb S3.out.2.2.1.lt, S3.out.2.2.2.below hb⟩
          clear hb
          cases B6 with
          | true =>
            have HB : Hid (B = true) := HB0.out.2 ⟨HH.out.1, HH.out.2, HAB.out, .inr (.inl ((eqVx_iff b vBot).1 hB6))⟩
            clear HB0
            go_wp2
            go_ret
            rw [HB.out]
            exact ⟨rfl, S4.out.1⟩
          | false =>
            go_wp2_with fail
            obtain ⟨B8, hB8⟩ : ∃ x, eqVx a vBot = x := ⟨_, rfl⟩
            refine ah8 S4.out.2.1.lt S4.out.2.1.range0 HT.out.2.1.1 hB8 ?_
            intro V5 hb
            have S5 : Hid (Below w.heap.size w V5 ∧ Blk V5 d4 34 a.cells ∧ Blk V5 d5 34 b.cells ∧ GAt V5 p G) := ⟨below_tr S4.out.1 hb, S4.out.2.1.below hb S4.out.2.1.lt, S4.out.2.2.1.below hb S4.out.2.2.1.lt, S4.out.2.2.2.below hb⟩
            clear hb
            cases B8 with
            | true =>
              have HB : Hid (B = false) := by cases hB0 : B with | false => rfl | true => exact absurd (HB0.out.1 hB0) (fun k => k.2.2.2.elim (eqVx_no hB5) (fun e => e.elim (eqVx_no hB6) (fun e => e.1 ((eqVx_iff a vBot).1 hB8))))
              clear HB0
              go_wp2
              go_ret
              rw [HB.out]
              exact ⟨rfl, S5.out.1⟩
            | false =>
              go_wp2_with fail
              obtain ⟨B9, hB9⟩ : ∃ x, eqVx b vTop = x := ⟨_, rfl⟩
              refine ah9 S5.out.2.2.1.lt S5.out.2.2.1.range0 HT.out.2.2.1 hB9 ?_
              intro V6 hb
              have S6 : Hid (Below w.heap.size w V6 ∧ Blk V6 d4 34 a.cells ∧ Blk V6 d5 34 b.cells ∧ GAt V6 p G) := ⟨below_tr S5.out.1 hb, S5.out.2.1.below hb S5.out.2.1.lt, S5.out.2.2.1.below hb S5.out.2.2.1.lt, S5.out.2.2.2.below hb⟩
              clear hb
              cases B9 with
              | true =>
                have HB : Hid (B = false) := by cases hB0 : B with | false => rfl | true => exact absurd (HB0.out.1 hB0) (fun k => k.2.2.2.elim (eqVx_no hB5) (fun e => e.elim (eqVx_no hB6) (fun e => e.2.1 ((eqVx_iff b vTop).1 hB9))))
                clear HB0
                go_wp2
                go_ret
                rw [HB.out]
                exact ⟨rfl, S6.out.1⟩
              | false =>
                have HK : Hid (b ∈ G.keys) := by
                  have h0 := HH.out.2
                  show b ∈ G.keys
                  unfold Gm.has isE at h0
                  rw [hB6, hB9] at h0
                  simpa using h0
                have HRR : Hid (B = true ↔ Gr.Reach G.frs b a) := HB0.out.trans ⟨fun k => k.2.2.2.elim (fun e => absurd e (eqVx_no hB5)) (fun e => e.elim (fun e => absurd e (eqVx_no hB6)) (fun e => e.2.2)), fun k => ⟨HH.out.1, HH.out.2, HAB.out, .inr (.inr ⟨eqVx_no hB8, eqVx_no hB9, k⟩)⟩⟩
                clear hB5 hB6 hB8 hB9
                go_wp2_with (first
                  | (with_reducible change wpList _ _ _ ({ dst := some 34, op := _, type := _, pos := _, after := _, guard := _ } :: _) _ _
                     refine wpList_load_want rfl 34 (.tmp 4) rfl d4 0 rfl a.cells _ S6.out.2.1.range0 Try.underlying34 rfl (info34 HT.out.2.1.1) ?_)
                  | (with_reducible change wpList _ _ _ ({ dst := some 35, op := _, type := _, pos := _, after := _, guard := _ } :: _) _ _
                     refine wpList_load_want rfl 34 (.tmp 5) rfl d5 0 rfl b.cells _ S6.out.2.2.1.range0 Try.underlying34 rfl (info34 HT.out.2.2.1) ?_)
                  | fail)
                refine (leads_is S6.out.2.2.2 HT.out.1 a b HT.out.2.1 HT.out.2.2 HK.out a.cells b.cells rfl rfl B HRR.out).mono ?_
                rintro e V7 ⟨rfl, hb⟩
                have HF : Hid (Below w.heap.size w V7) := below_tr S6.out.1 hb
                clear hb
                go_wp2
                go_ret
                exact ⟨rfl, HF.out⟩
end Go.Proofs.Ytjcihaohpbmogaa.Oct
