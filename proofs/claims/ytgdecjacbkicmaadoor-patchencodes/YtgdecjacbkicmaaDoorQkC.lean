/-
  Layer 10 (patch): the reference: Below, own.
  Layer 10 (patch): the reference: an operation: its drawn region.
-/
import Derived.Test.YtgdecjacbkicmaaDoorQkUlr
/- Layer 10 (patch): the reference: Below, own. -/
namespace Go.Proofs.YtgdecjacbkicmaaDoor.Oct
open Go.RowKit
set_option maxRecDepth 100000
set_option linter.unusedSimpArgs false
set_option linter.unusedVariables false

theorem u8_tri (x y : UInt8) : x < y ∨ x = y ∨ y < x := by
  rcases Nat.lt_trichotomy x.toNat y.toNat with h | h | h
  · exact .inl h
  · exact .inr (.inl (UInt8.toNat_inj.1 h))
  · exact .inr (.inr h)
theorem u8_irr (x : UInt8) : ¬ x < x := Nat.lt_irrefl _
theorem u8_asym {x y : UInt8} (h : x < y) : ¬ y < x := fun k => absurd (show x.toNat < y.toNat from h) (Nat.lt_asymm k)
theorem less_iff : ∀ a b : Hs, Op.bytesLess a b = decide (Lib.compareBytes a b < 0)
  | [], [] => by simp [Op.bytesLess, Lib.compareBytes]
  | _ :: _, [] => by simp [Op.bytesLess, Lib.compareBytes]
  | [], _ :: _ => by simp [Op.bytesLess, Lib.compareBytes]
  | x :: a, y :: b => by
    have ih := less_iff a b
    unfold Op.bytesLess Lib.compareBytes
    rcases u8_tri x y with h | rfl | h
    · simp [h]
    · simp [u8_irr x, ih]
    · have e : (x == y) = false := by
        rw [beq_eq_false_iff_ne]
        intro e
        subst e
        exact u8_irr x h
      simp [u8_asym h, e, h]
theorem yl_ltH {o : Oper} {a : Act} (V : World) (p q : Operand) (x y : Hs) (B : Bool) (hB : Op.bytesLess x y = B) (hop : o.op = .binOp .lss 9 p q 9) (h1 : a.eval p = .string ⟨x.toArray⟩) (h2 : a.eval q = .string ⟨y.toArray⟩) : (execOp a.eval o).run Tryd.prog V = .ok (.value (.bool B)) V := by
  subst hB
  unfold execOp
  simp only [hop, h1, h2, Sem.run_bind, Sem.run_pure]
  first
  | (simp [eqGuard, go_sem, Tryd.underlying9, toList_d]; done)
  | (go_simp; done)
set_option maxRecDepth 100000 in
set_option maxHeartbeats 4000000 in
theorem bl1 {Q : Exit → Act → World → Prop} {x0 x1 x4 x5 x6 x7 x8 x9 : Value} {ds : List Deferred} {A : World} {d2 d3 : Nat} {x y : Hs} {B : Bool}
    (HI : Hid (In A (some ⟨d2, 0, none⟩) 32 32 x ∧ In A (some ⟨d3, 0, none⟩) 32 32 y)) (HB : Hid (Op.bytesLess x y = B))
    (hQ : ∀ V1, Below A.heap.size A V1 → Q .normal { tmps := #[x0, x1, .pointer (some ⟨d2, 0, none⟩), .pointer (some ⟨d3, 0, none⟩), .bool B, .slice (some ⟨d2, 0, none⟩) 32 32, .string ⟨x.toArray⟩, .slice (some ⟨d3, 0, none⟩) 32 32, .string ⟨y.toArray⟩, .bool B], defers := ds } V1) :
    (Code.region 1 #[{ dst := some 5, op := Op.slice 36 (Operand.tmp 2) none none none, type := 28, pos := "ref.go:29", after := #[], guard := none }, { dst := some 6, op := Op.convert 28 9 (Operand.tmp 5), type := 9, pos := "ref.go:29", after := #[{ on := 0, ground := Ground.data }], guard := none }, { dst := some 7, op := Op.slice 36 (Operand.tmp 3) none none none, type := 28, pos := "ref.go:29", after := #[], guard := none }, { dst := some 8, op := Op.convert 28 9 (Operand.tmp 7), type := 9, pos := "ref.go:29", after := #[{ on := 2, ground := Ground.data }], guard := none }, { dst := some 9, op := Op.binOp BinOp.lss 9 (Operand.tmp 6) (Operand.tmp 8) 9, type := 4, pos := "ref.go:29", after := #[{ on := 1, ground := Ground.data }, { on := 3, ground := Ground.data }], guard := none }, { dst := some 4, op := Op.assign (Operand.tmp 9), type := 4, pos := "ref.go:29", after := #[{ on := 4, ground := Ground.data }, { on := 0, ground := Ground.phase }, { on := 1, ground := Ground.phase }, { on := 2, ground := Ground.phase }, { on := 3, ground := Ground.phase }, { on := 4, ground := Ground.phase }], guard := none }] true).wp Tryd.prog Q { tmps := #[x0, x1, .pointer (some ⟨d2, 0, none⟩), .pointer (some ⟨d3, 0, none⟩), x4, x5, x6, x7, x8, x9], defers := ds } A := by
  refine Code.wp_mono (Q := fun x a' w' => match x with | .normal => Q .normal a' w' | _ => False) (by intro x a' w' h; cases x <;> first | exact h | exact h.elim) ?_
  refine wp_region_held (S := fun V => Below A.heap.size A V) (by kernel_rfl) ?_
  have hS0 : Hid (Below A.heap.size A A.drew) := below_drew0 A
  change wpAnyH Tryd.prog .any _ _ (fun V => Below A.heap.size A V) 6 (Array.replicate 6 false) _ A.drew
  obtain ⟨V0, hV0⟩ : ∃ V0, A.drew = V0 := ⟨_, rfl⟩
  rw [hV0]
  rw [hV0] at hS0
  clear hV0
  refine wpAnyH_take (i := 0) (oi := { dst := some 5, op := Op.slice 36 (Operand.tmp 2) none none none, type := 28, pos := "ref.go:29", after := #[], guard := none }) (v := .slice (some ⟨d2, 0, none⟩) 32 32) rfl (by kernel_rfl) (by kernel_rfl) (by kernel_rfl) (fun _ _ _ h => h.elim) (Or.inl ⟨by rfl, ?y1⟩) hS0.out ?_
  case y1 =>
    intro V hV
    go_simp
  simp only [Act.put, List.setIfInBounds_toArray, List.set_cons_zero, List.set_cons_succ]
  refine wpAnyH_take (i := 1) (oi := { dst := some 6, op := Op.convert 28 9 (Operand.tmp 5), type := 9, pos := "ref.go:29", after := #[{ on := 0, ground := Ground.data }], guard := none }) (v := .string ⟨x.toArray⟩) rfl (by kernel_rfl) (by kernel_rfl) (by kernel_rfl) (fun _ _ _ h => h.elim) (Or.inl ⟨by rfl, ?y2⟩) hS0.out ?_
  case y2 =>
    intro V hV
    exact yl_conv V _ (.slice (some ⟨d2, 0, none⟩) 32 32) _ (string_in Tryd.underlying28 Tryd.underlying5 Tryd.underlying9 (HI.out.1.below hV)) rfl rfl
  simp only [Act.put, List.setIfInBounds_toArray, List.set_cons_zero, List.set_cons_succ]
  refine wpAnyH_take (i := 2) (oi := { dst := some 7, op := Op.slice 36 (Operand.tmp 3) none none none, type := 28, pos := "ref.go:29", after := #[], guard := none }) (v := .slice (some ⟨d3, 0, none⟩) 32 32) rfl (by kernel_rfl) (by kernel_rfl) (by kernel_rfl) (fun _ _ _ h => h.elim) (Or.inl ⟨by rfl, ?y3⟩) hS0.out ?_
  case y3 =>
    intro V hV
    go_simp
  simp only [Act.put, List.setIfInBounds_toArray, List.set_cons_zero, List.set_cons_succ]
  refine wpAnyH_take (i := 3) (oi := { dst := some 8, op := Op.convert 28 9 (Operand.tmp 7), type := 9, pos := "ref.go:29", after := #[{ on := 2, ground := Ground.data }], guard := none }) (v := .string ⟨y.toArray⟩) rfl (by kernel_rfl) (by kernel_rfl) (by kernel_rfl) (fun _ _ _ h => h.elim) (Or.inl ⟨by rfl, ?y4⟩) hS0.out ?_
  case y4 =>
    intro V hV
    exact yl_conv V _ (.slice (some ⟨d3, 0, none⟩) 32 32) _ (string_in Tryd.underlying28 Tryd.underlying5 Tryd.underlying9 (HI.out.2.below hV)) rfl rfl
  simp only [Act.put, List.setIfInBounds_toArray, List.set_cons_zero, List.set_cons_succ]
  refine wpAnyH_take (i := 4) (oi := { dst := some 9, op := Op.binOp BinOp.lss 9 (Operand.tmp 6) (Operand.tmp 8) 9, type := 4, pos := "ref.go:29", after := #[{ on := 1, ground := Ground.data }, { on := 3, ground := Ground.data }], guard := none }) (v := .bool B) rfl (by kernel_rfl) (by kernel_rfl) (by kernel_rfl) (fun _ _ _ h => h.elim) (Or.inl ⟨by rfl, ?y5⟩) hS0.out ?_
  case y5 =>
    intro V hV
    exact yl_ltH V _ _ x y B HB.out rfl rfl rfl
  simp only [Act.put, List.setIfInBounds_toArray, List.set_cons_zero, List.set_cons_succ]
  refine wpAnyH_take (i := 5) (oi := { dst := some 4, op := Op.assign (Operand.tmp 9), type := 4, pos := "ref.go:29", after := #[{ on := 4, ground := Ground.data }, { on := 0, ground := Ground.phase }, { on := 1, ground := Ground.phase }, { on := 2, ground := Ground.phase }, { on := 3, ground := Ground.phase }, { on := 4, ground := Ground.phase }], guard := none }) (v := .bool B) rfl (by kernel_rfl) (by kernel_rfl) (by kernel_rfl) (fun _ _ _ h => h.elim) (Or.inl ⟨by rfl, ?y6⟩) hS0.out ?_
  case y6 =>
    intro V hV
    go_simp
  simp only [Act.put, List.setIfInBounds_toArray, List.set_cons_zero, List.set_cons_succ]
  refine wpAnyH_done (by kernel_rfl) ?_ _
  exact hQ V0 hS0.out
set_option maxHeartbeats 2000000 in
theorem rbelow_is (w : World) (x y : Hs) (hx : x.length = 32) (hy : y.length = 32) (B : Bool) (hB : decide (Lib.compareBytes x y < 0) = B) :
    Calls Tryd.prog 25 #[.agg (U x).toArray, .agg (U y).toArray] w fun e w' => e = .returned (.bool B) ∧ Below w.heap.size w w' := by
  obtain ⟨d2, hd2⟩ : ∃ d, w.heap.size = d := ⟨_, rfl⟩
  obtain ⟨W1, hW1⟩ : ∃ W, w.alloc (.cells (U x).toArray 36) = W := ⟨_, rfl⟩
  obtain ⟨d3, hd3⟩ : ∃ d, W1.heap.size = d := ⟨_, rfl⟩
  obtain ⟨W, hW⟩ : ∃ W, W1.alloc (.cells (U y).toArray 36) = W := ⟨_, rfl⟩
  have b1 : Below w.heap.size w W1 := by rw [← hW1]; exact below_al _ _
  have b2 : Below W1.heap.size W1 W := by rw [← hW]; exact below_al _ _
  have k2 : Blk W d2 36 (U x) := by have h : Blk W1 d2 36 (U x) := by rw [← hW1, ← hd2]; exact Blk.new w _ _
                                    exact h.below b2 h.lt
  have k3 : Blk W d3 36 (U y) := by rw [← hW, ← hd3]; exact Blk.new W1 _ _
  have HI : Hid (In W (some ⟨d2, 0, none⟩) 32 32 x ∧ In W (some ⟨d3, 0, none⟩) 32 32 y) := ⟨in47 k2 hx, in47 k3 hy⟩
  have HB : Hid (Op.bytesLess x y = B) := (less_iff x y).trans hB
  have HW : Hid (Below w.heap.size w W) := below_tr b1 b2
  clear b1 b2 k2 k3 hB
  have hu := Tryd.underlying36
  have hi1 := info47 x hx
  have hi2 := info47 y hy
  have h1 := U_one x
  have h2 := U_one y
  have hul : (U x).length = 32 := by rw [U_length, hx]
  have hul2 : (U y).length = 32 := by rw [U_length, hy]
  clear hx hy
  go_enter Tryd.func25, Tryd.ntmps25
  go_wp2_with fail
  refine bl1 HI HB ?_
  intro V1 hb1
  have HF : Hid (Below w.heap.size w V1) := below_tr HW.out hb1
  clear hb1 hd2 hW1 hd3 hW
  go_wp2
  go_ret
  exact ⟨rfl, HF.out⟩
set_option maxHeartbeats 2000000 in
theorem own_is (w : World) (p : PV) (h : PR w p) (hz : p.dn ≤ 100000) (v : Vx) (hv : v.ok) (B : Bool) (hB : lineOf p.D v = B) : Calls Tryd.prog 47 #[.agg p.cells.toArray, .agg v.cells.toArray] w fun e w' => e = .returned (.bool B) ∧ Below w.heap.size w w' := by
  obtain ⟨d2, hd2⟩ : ∃ d, w.heap.size = d := ⟨_, rfl⟩
  obtain ⟨W1, hW1⟩ : ∃ W, w.alloc (.cells p.cells.toArray 25) = W := ⟨_, rfl⟩
  obtain ⟨d3, hd3⟩ : ∃ d, W1.heap.size = d := ⟨_, rfl⟩
  obtain ⟨W, hW⟩ : ∃ W, W1.alloc (.cells v.cells.toArray 42) = W := ⟨_, rfl⟩
  have b1 : Below w.heap.size w W1 := by rw [← hW1]; exact below_al _ _
  have b2 : Below W1.heap.size W1 W := by rw [← hW]; exact below_al _ _
  have k2 : Blk W d2 25 p.cells := by have h : Blk W1 d2 25 p.cells := by rw [← hW1, ← hd2]; exact Blk.new w _ _
                                      exact h.below b2 h.lt
  have k3 : Blk W d3 42 v.cells := by rw [← hW, ← hd3]; exact Blk.new W1 _ _
  have c23 : W.cell? ⟨d2, 3, none⟩ = some (.slice p.da p.dn p.dc) := k2.cell rfl
  obtain ⟨M, hM⟩ : ∃ M, decide (v.h ∈ p.D) = M := ⟨_, rfl⟩
  obtain ⟨P, hP⟩ : ∃ P, placeOf v.h p.D = P := ⟨_, rfl⟩
  have hPM : decide (0 ≤ P) = M := by rw [← hP]; exact place_dec v.h p.D M hM
  obtain ⟨m, hm⟩ : ∃ m, v.n = m := ⟨_, rfl⟩
  unfold lineOf at hB
  rw [hM, hm] at hB
  have HP : Hid (HsR W p.da p.dn p.D ∧ p.dn ≤ 100000 ∧ v.ok ∧ Below w.heap.size w W ∧ W.rangeAt d3 0 (U v.h) ∧ placeOf v.h p.D = P ∧ Blk W d3 42 v.cells ∧ v.n = m) := ⟨h.deps.below (below_tr b1 b2), hz, hv, below_tr b1 b2, by have := k3.range 0 32; rw [List.drop_zero, Vx.hash hv] at this; exact this, hP, k3, hm⟩
  clear h hz hv b1 b2 k2 k3 hM hP hm
  go_enter Tryd.func47, Tryd.ntmps47
  go_wp2_with (with_reducible change wpList _ _ _ ({ dst := some 8, op := _, type := _, pos := _, after := _, guard := _ } :: _) _ _; refine Hid.out ?_)
  show wpList _ _ _ _ _ _
  refine wpList_load_mid rfl 36 (.tmp 7) rfl d3 0 rfl (U v.h) _ HP.out.2.2.2.2.1 Tryd.underlying36 rfl (info47 _ HP.out.2.2.1) ?_
  go_wp2_with fail
  refine (place_is W p.da p.dn p.dc p.D v.h HP.out.1 HP.out.2.2.1 HP.out.2.1).mono ?_
  rintro e V1 ⟨he, hb1⟩
  rw [HP.out.2.2.2.2.2.1] at he
  subst he
  have c1 : V1.cell? ⟨d3, 32, none⟩ = some (iv m) := by
    have := (HP.out.2.2.2.2.2.2.1.below hb1.out HP.out.2.2.2.2.2.2.1.lt).cell (Vx.line HP.out.2.2.1)
    rw [HP.out.2.2.2.2.2.2.2] at this
    exact this
  have HF : Hid (Below w.heap.size w V1) := below_tr HP.out.2.2.2.1 hb1.out
  clear hb1 hd2 hW1 hd3 hW c23 HP
  cases M with
  | false =>
    rw [Bool.and_false, Bool.and_false] at hB
    subst hB
    have q : P < 0 := by simpa using hPM
    go_wp2
    go_ret
    exact ⟨rfl, HF.out⟩
  | true =>
    have q : 0 ≤ P := by simpa using hPM
    rw [Bool.and_true] at hB
    by_cases h1 : 0 ≤ m
    · have g1 : decide (0 ≤ m) = true := decide_eq_true h1
      by_cases h2 : m < 64
      · have g2 : decide (m < 64) = true := decide_eq_true h2
        rw [g1, g2, Bool.true_and] at hB
        subst hB
        go_wp2
        go_ret
        exact ⟨rfl, HF.out⟩
      · have g2 : decide (m < 64) = false := decide_eq_false h2
        rw [g1, g2, Bool.true_and] at hB
        subst hB
        go_wp2
        go_ret
        exact ⟨rfl, HF.out⟩
    · have g1 : decide (0 ≤ m) = false := decide_eq_false h1
      rw [g1, Bool.false_and] at hB
      subst hB
      go_wp2
      go_ret
      exact ⟨rfl, HF.out⟩
end Go.Proofs.YtgdecjacbkicmaaDoor.Oct

/- Layer 10 (patch): the reference: an operation: its drawn region. -/
namespace Go.Proofs.YtgdecjacbkicmaaDoor.Oct
open Go.RowKit
set_option maxRecDepth 100000
set_option linter.unusedSimpArgs false
set_option linter.unusedVariables false

abbrev o26_0 : Oper := { dst := some 78, op := Op.fieldAddr 45 (Operand.tmp 3) 2, type := 0, pos := "ref.go:75", after := #[], guard := none }
abbrev o26_1 : Oper := { dst := some 79, op := Op.load 42 (Operand.tmp 78), type := 42, pos := "ref.go:75", after := #[{ on := 0, ground := Ground.data }], guard := none }
abbrev o26_2 : Oper := { dst := some 80, op := Op.call { callee := Callee.value (Operand.func 48), args := #[], argTypes := #[] }, type := 42, pos := "ref.go:75", after := #[], guard := none }
abbrev o26_3 : Oper := { dst := some 81, op := Op.binOp BinOp.eql 42 (Operand.tmp 79) (Operand.tmp 80) 42, type := 4, pos := "ref.go:75", after := #[{ on := 1, ground := Ground.data }, { on := 2, ground := Ground.data }], guard := none }
abbrev o26_4 : Oper := { dst := some 82, op := Op.move (Operand.tmp 81), type := 4, pos := "ref.go:75", after := #[{ on := 3, ground := Ground.data }, { on := 2, ground := Ground.chain }], guard := none }
abbrev o26_5 : Oper := { dst := some 83, op := Op.load 25 (Operand.tmp 2), type := 25, pos := "ref.go:75", after := #[{ on := 4, ground := Ground.guard }], guard := some (4, false) }
abbrev o26_6 : Oper := { dst := some 84, op := Op.fieldAddr 45 (Operand.tmp 3) 2, type := 0, pos := "ref.go:75", after := #[{ on := 4, ground := Ground.guard }], guard := some (4, false) }
abbrev o26_7 : Oper := { dst := some 85, op := Op.load 42 (Operand.tmp 84), type := 42, pos := "ref.go:75", after := #[{ on := 6, ground := Ground.data }, { on := 4, ground := Ground.guard }], guard := some (4, false) }
abbrev o26_8 : Oper := { dst := some 86, op := Op.call { callee := Callee.value (Operand.func 47), args := #[Operand.tmp 83, Operand.tmp 85], argTypes := #[25, 42] }, type := 4, pos := "ref.go:75", after := #[{ on := 5, ground := Ground.data }, { on := 7, ground := Ground.data }, { on := 4, ground := Ground.chain }, { on := 4, ground := Ground.guard }], guard := some (4, false) }
abbrev o26_9 : Oper := { dst := some 87, op := Op.pick (Operand.tmp 82) (Operand.const (Value.bool true)) (Operand.tmp 86), type := 4, pos := "ref.go:75", after := #[{ on := 4, ground := Ground.data }, { on := 8, ground := Ground.data }], guard := none }
abbrev o26_10 : Oper := { dst := some 88, op := Op.move (Operand.tmp 87), type := 4, pos := "ref.go:75", after := #[{ on := 9, ground := Ground.data }, { on := 8, ground := Ground.chain }], guard := none }
abbrev o26_11 : Oper := { dst := some 89, op := Op.fieldAddr 45 (Operand.tmp 3) 3, type := 0, pos := "ref.go:75", after := #[{ on := 10, ground := Ground.guard }], guard := some (10, true) }
abbrev o26_12 : Oper := { dst := some 90, op := Op.load 42 (Operand.tmp 89), type := 42, pos := "ref.go:75", after := #[{ on := 11, ground := Ground.data }, { on := 10, ground := Ground.guard }], guard := some (10, true) }
abbrev o26_13 : Oper := { dst := some 91, op := Op.call { callee := Callee.value (Operand.func 49), args := #[], argTypes := #[] }, type := 42, pos := "ref.go:75", after := #[{ on := 10, ground := Ground.chain }, { on := 10, ground := Ground.guard }], guard := some (10, true) }
abbrev o26_14 : Oper := { dst := some 92, op := Op.binOp BinOp.eql 42 (Operand.tmp 90) (Operand.tmp 91) 42, type := 4, pos := "ref.go:75", after := #[{ on := 12, ground := Ground.data }, { on := 13, ground := Ground.data }, { on := 10, ground := Ground.guard }], guard := some (10, true) }
abbrev o26_15 : Oper := { dst := some 93, op := Op.move (Operand.tmp 92), type := 4, pos := "ref.go:75", after := #[{ on := 14, ground := Ground.data }, { on := 13, ground := Ground.chain }, { on := 10, ground := Ground.guard }], guard := some (10, true) }
abbrev o26_16 : Oper := { dst := some 94, op := Op.load 25 (Operand.tmp 2), type := 25, pos := "ref.go:75", after := #[{ on := 15, ground := Ground.guard }], guard := some (15, false) }
abbrev o26_17 : Oper := { dst := some 95, op := Op.fieldAddr 45 (Operand.tmp 3) 3, type := 0, pos := "ref.go:75", after := #[{ on := 15, ground := Ground.guard }], guard := some (15, false) }
abbrev o26_18 : Oper := { dst := some 96, op := Op.load 42 (Operand.tmp 95), type := 42, pos := "ref.go:75", after := #[{ on := 17, ground := Ground.data }, { on := 15, ground := Ground.guard }], guard := some (15, false) }
abbrev o26_19 : Oper := { dst := some 97, op := Op.call { callee := Callee.value (Operand.func 47), args := #[Operand.tmp 94, Operand.tmp 96], argTypes := #[25, 42] }, type := 4, pos := "ref.go:75", after := #[{ on := 16, ground := Ground.data }, { on := 18, ground := Ground.data }, { on := 15, ground := Ground.chain }, { on := 15, ground := Ground.guard }], guard := some (15, false) }
abbrev o26_20 : Oper := { dst := some 98, op := Op.pick (Operand.tmp 93) (Operand.const (Value.bool true)) (Operand.tmp 97), type := 4, pos := "ref.go:75", after := #[{ on := 15, ground := Ground.data }, { on := 19, ground := Ground.data }, { on := 10, ground := Ground.guard }], guard := some (10, true) }
abbrev o26_21 : Oper := { dst := some 99, op := Op.pick (Operand.tmp 88) (Operand.tmp 98) (Operand.const (Value.bool false)), type := 4, pos := "ref.go:75", after := #[{ on := 10, ground := Ground.data }, { on := 20, ground := Ground.data }], guard := none }
abbrev o26_22 : Oper := { dst := some 4, op := Op.assign (Operand.tmp 99), type := 4, pos := "ref.go:75", after := #[{ on := 21, ground := Ground.data }, { on := 19, ground := Ground.chain }, { on := 0, ground := Ground.phase }, { on := 1, ground := Ground.phase }, { on := 2, ground := Ground.phase }, { on := 3, ground := Ground.phase }, { on := 4, ground := Ground.phase }, { on := 5, ground := Ground.phase }, { on := 6, ground := Ground.phase }, { on := 7, ground := Ground.phase }, { on := 8, ground := Ground.phase }, { on := 9, ground := Ground.phase }, { on := 10, ground := Ground.phase }, { on := 11, ground := Ground.phase }, { on := 12, ground := Ground.phase }, { on := 13, ground := Ground.phase }, { on := 14, ground := Ground.phase }, { on := 15, ground := Ground.phase }, { on := 16, ground := Ground.phase }, { on := 17, ground := Ground.phase }, { on := 18, ground := Ground.phase }, { on := 19, ground := Ground.phase }, { on := 20, ground := Ground.phase }, { on := 21, ground := Ground.phase }], guard := none }
set_option maxRecDepth 100000 in
set_option maxHeartbeats 4000000 in
theorem ro0 {Q : Exit → Act → World → Prop} {x0 x1 x4 x5 x6 x7 x8 x9 x10 x11 x12 x13 x14 x15 x16 x17 x18 x19 x20 x21 x22 x23 x24 x25 x26 x27 x28 x29 x30 x31 x32 x33 x34 x35 x36 x37 x38 x39 x40 x41 x42 x43 x44 x45 x46 x47 x48 x49 x50 x51 x52 x53 x54 x55 x56 x57 x58 x59 x60 x61 x62 x63 x64 x65 x66 x67 x68 x69 x70 x71 x72 x73 x74 x75 x76 x77 x78 x79 x80 x81 x82 x83 x84 x85 x86 x87 x88 x89 x90 x91 x92 x93 x94 x95 x96 x97 x98 x99 : Value} {ds : List Deferred} {A : World} {d2 d3 : Nat} {p : PV} {o : OpV} {UL DL : Bool}
    (HL : Hid (d2 < A.heap.size ∧ d3 < A.heap.size)) (HR : Hid (A.rangeAt d2 0 p.cells)) (HU : Hid (A.rangeAt d3 2 o.up.cells)) (HDn : Hid (A.rangeAt d3 35 o.dn.cells)) (HV : Hid (o.up.ok ∧ o.dn.ok)) (H52 : Hid (∀ V, Below A.heap.size A V → Calls Tryd.prog 48 #[] V fun e V2 => e = .returned (.agg vTop.cells.toArray) ∧ Below V.heap.size V V2)) (H53 : Hid (∀ V, Below A.heap.size A V → Calls Tryd.prog 49 #[] V fun e V2 => e = .returned (.agg vBot.cells.toArray) ∧ Below V.heap.size V V2)) (HUT : Hid (eqVx o.up vTop = true)) (H51u : Hid (∀ V, Below A.heap.size A V → Calls Tryd.prog 47 #[.agg p.cells.toArray, .agg o.up.cells.toArray] V fun e V2 => e = .returned (.bool UL) ∧ Below V.heap.size V V2)) (HDB : Hid (eqVx o.dn vBot = true)) (H51d : Hid (∀ V, Below A.heap.size A V → Calls Tryd.prog 47 #[.agg p.cells.toArray, .agg o.dn.cells.toArray] V fun e V2 => e = .returned (.bool DL) ∧ Below V.heap.size V V2))
    (hQ : ∀ V1, Below A.heap.size A V1 → Q .normal { tmps := #[x0, x1, .pointer (some ⟨d2, 0, none⟩), .pointer (some ⟨d3, 0, none⟩), .bool true, x5, x6, x7, x8, x9, x10, x11, x12, x13, x14, x15, x16, x17, x18, x19, x20, x21, x22, x23, x24, x25, x26, x27, x28, x29, x30, x31, x32, x33, x34, x35, x36, x37, x38, x39, x40, x41, x42, x43, x44, x45, x46, x47, x48, x49, x50, x51, x52, x53, x54, x55, x56, x57, x58, x59, x60, x61, x62, x63, x64, x65, x66, x67, x68, x69, x70, x71, x72, x73, x74, x75, x76, x77, .pointer (some ⟨d3, 2, none⟩), .agg o.up.cells.toArray, .agg vTop.cells.toArray, .bool true, .bool true, undef, undef, undef, undef, .bool true, .bool true, .pointer (some ⟨d3, 35, none⟩), .agg o.dn.cells.toArray, .agg vBot.cells.toArray, .bool true, .bool true, undef, undef, undef, undef, .bool true, .bool true], defers := ds } V1) :
    (Code.region 17 #[o26_0, o26_1, o26_2, o26_3, o26_4, o26_5, o26_6, o26_7, o26_8, o26_9, o26_10, o26_11, o26_12, o26_13, o26_14, o26_15, o26_16, o26_17, o26_18, o26_19, o26_20, o26_21, o26_22] true).wp Tryd.prog Q { tmps := #[x0, x1, .pointer (some ⟨d2, 0, none⟩), .pointer (some ⟨d3, 0, none⟩), x4, x5, x6, x7, x8, x9, x10, x11, x12, x13, x14, x15, x16, x17, x18, x19, x20, x21, x22, x23, x24, x25, x26, x27, x28, x29, x30, x31, x32, x33, x34, x35, x36, x37, x38, x39, x40, x41, x42, x43, x44, x45, x46, x47, x48, x49, x50, x51, x52, x53, x54, x55, x56, x57, x58, x59, x60, x61, x62, x63, x64, x65, x66, x67, x68, x69, x70, x71, x72, x73, x74, x75, x76, x77, x78, x79, x80, x81, x82, x83, x84, x85, x86, x87, x88, x89, x90, x91, x92, x93, x94, x95, x96, x97, x98, x99], defers := ds } A := by
  refine Code.wp_mono (Q := fun x a' w' => match x with | .normal => Q .normal a' w' | _ => False) (by intro x a' w' h; cases x <;> first | exact h | exact h.elim) ?_
  refine wp_region_held (S := fun V => Below A.heap.size A V) (by kernel_rfl) ?_
  have hS0 : Hid (Below A.heap.size A A.drew) := below_drew0 A
  change wpAnyH Tryd.prog .any _ _ (fun V => Below A.heap.size A V) 23 (Array.replicate 23 false) _ A.drew
  obtain ⟨V0, hV0⟩ : ∃ V0, A.drew = V0 := ⟨_, rfl⟩
  rw [hV0]
  rw [hV0] at hS0
  clear hV0
  refine wpAnyH_take (i := 0) (oi := o26_0) (v := .pointer (some ⟨d3, 2, none⟩)) rfl (by kernel_rfl) (by kernel_rfl) (by kernel_rfl) (fun _ _ _ h => h.elim) (Or.inl ⟨by rfl, ?y1⟩) hS0.out ?_
  case y1 =>
    intro V hV
    dsimp only [o26_0]
    go_simp
  simp only [Act.put, List.setIfInBounds_toArray, List.set_cons_zero, List.set_cons_succ]
  refine wpAnyH_take (i := 1) (oi := o26_1) (v := .agg o.up.cells.toArray) rfl (by kernel_rfl) (by kernel_rfl) (by kernel_rfl) (fun _ _ _ h => h.elim) (yieldsIf_load_mid (by rfl) _ _ rfl _ _ rfl (o.up.cells) _ (fun V hV => rangeAt_same (HU.out) ((show Below A.heap.size A V from hV).block _ (HL.out.2))) Tryd.underlying42 rfl (info49 HV.out.1)) hS0.out ?_
  simp only [Act.put, List.setIfInBounds_toArray, List.set_cons_zero, List.set_cons_succ]
  refine wpAnyH_ready (rs := [2]) (by kernel_rfl) (by simp) (AllReadyH.cons (i := 2) (o := o26_2) rfl ?_ AllReadyH.nil)
  · intro K1 hK1
    dsimp only [o26_2]
    rw [if_pos (by rfl)]
    have HC1 := H52.out V0 hS0.out
    go_wp2_with fail
    refine HC1.mono ?_
    rintro e V1 ⟨rfl, hb1⟩
    dsimp only
    clear HC1
    have hS1 : Hid (Below A.heap.size A V1) := hS0.out.trans (hb1.mono hS0.out.size)
    clear hb1
    refine hK1.out _ _ hS1.out ?_
    clear hK1
    intro _
    try simp only [Act.put, List.setIfInBounds_toArray, List.set_cons_zero, List.set_cons_succ]
    refine wpAnyH_take (i := 3) (oi := o26_3) (v := .bool true) rfl (by kernel_rfl) (by kernel_rfl) (by kernel_rfl) (fun _ _ _ h => h.elim) (Or.inl ⟨by rfl, ?y2⟩) hS1.out ?_
    case y2 =>
      intro V hV
      exact yl_eqV V _ _ o.up vTop HV.out.1 vTop_ok true HUT.out rfl rfl rfl
    simp only [Act.put, List.setIfInBounds_toArray, List.set_cons_zero, List.set_cons_succ]
    refine wpAnyH_take (i := 4) (oi := o26_4) (v := .bool true) rfl (by kernel_rfl) (by kernel_rfl) (by kernel_rfl) (fun _ _ _ h => h.elim) (Or.inl ⟨by rfl, ?y3⟩) hS1.out ?_
    case y3 =>
      intro V hV
      dsimp only [o26_4]
      go_simp
    simp only [Act.put, List.setIfInBounds_toArray, List.set_cons_zero, List.set_cons_succ]
    refine wpAnyH_take (i := 5) (oi := o26_5) (v := undef) rfl (by kernel_rfl) (by kernel_rfl) (by kernel_rfl) (fun _ _ _ h => h.elim) (Or.inr ⟨by rfl, rfl⟩) hS1.out ?_
    simp only [Act.put, List.setIfInBounds_toArray, List.set_cons_zero, List.set_cons_succ]
    refine wpAnyH_take (i := 6) (oi := o26_6) (v := undef) rfl (by kernel_rfl) (by kernel_rfl) (by kernel_rfl) (fun _ _ _ h => h.elim) (Or.inr ⟨by rfl, rfl⟩) hS1.out ?_
    simp only [Act.put, List.setIfInBounds_toArray, List.set_cons_zero, List.set_cons_succ]
    refine wpAnyH_take (i := 7) (oi := o26_7) (v := undef) rfl (by kernel_rfl) (by kernel_rfl) (by kernel_rfl) (fun _ _ _ h => h.elim) (Or.inr ⟨by rfl, rfl⟩) hS1.out ?_
    simp only [Act.put, List.setIfInBounds_toArray, List.set_cons_zero, List.set_cons_succ]
    refine wpAnyH_take (i := 8) (oi := o26_8) (v := undef) rfl (by kernel_rfl) (by kernel_rfl) (by kernel_rfl) (fun _ _ _ h => h.elim) (Or.inr ⟨by rfl, rfl⟩) hS1.out ?_
    simp only [Act.put, List.setIfInBounds_toArray, List.set_cons_zero, List.set_cons_succ]
    refine wpAnyH_take (i := 9) (oi := o26_9) (v := .bool true) rfl (by kernel_rfl) (by kernel_rfl) (by kernel_rfl) (fun _ _ _ h => h.elim) (Or.inl ⟨by rfl, ?y4⟩) hS1.out ?_
    case y4 =>
      intro V hV
      dsimp only [o26_9]
      go_simp
    simp only [Act.put, List.setIfInBounds_toArray, List.set_cons_zero, List.set_cons_succ]
    refine wpAnyH_take (i := 10) (oi := o26_10) (v := .bool true) rfl (by kernel_rfl) (by kernel_rfl) (by kernel_rfl) (fun _ _ _ h => h.elim) (Or.inl ⟨by rfl, ?y5⟩) hS1.out ?_
    case y5 =>
      intro V hV
      dsimp only [o26_10]
      go_simp
    simp only [Act.put, List.setIfInBounds_toArray, List.set_cons_zero, List.set_cons_succ]
    refine wpAnyH_take (i := 11) (oi := o26_11) (v := .pointer (some ⟨d3, 35, none⟩)) rfl (by kernel_rfl) (by kernel_rfl) (by kernel_rfl) (fun _ _ _ h => h.elim) (Or.inl ⟨by rfl, ?y6⟩) hS1.out ?_
    case y6 =>
      intro V hV
      dsimp only [o26_11]
      go_simp
    simp only [Act.put, List.setIfInBounds_toArray, List.set_cons_zero, List.set_cons_succ]
    refine wpAnyH_take (i := 12) (oi := o26_12) (v := .agg o.dn.cells.toArray) rfl (by kernel_rfl) (by kernel_rfl) (by kernel_rfl) (fun _ _ _ h => h.elim) (yieldsIf_load_mid (by rfl) _ _ rfl _ _ rfl (o.dn.cells) _ (fun V hV => rangeAt_same (HDn.out) ((show Below A.heap.size A V from hV).block _ (HL.out.2))) Tryd.underlying42 rfl (info49 HV.out.2)) hS1.out ?_
    simp only [Act.put, List.setIfInBounds_toArray, List.set_cons_zero, List.set_cons_succ]
    refine wpAnyH_ready (rs := [13]) (by kernel_rfl) (by simp) (AllReadyH.cons (i := 13) (o := o26_13) rfl ?_ AllReadyH.nil)
    · intro K1 hK1
      dsimp only [o26_13]
      rw [if_pos (by rfl)]
      have HC2 := H53.out V1 hS1.out
      go_wp2_with fail
      refine HC2.mono ?_
      rintro e V2 ⟨rfl, hb2⟩
      dsimp only
      clear HC2
      have hS2 : Hid (Below A.heap.size A V2) := hS1.out.trans (hb2.mono hS1.out.size)
      clear hb2
      refine hK1.out _ _ hS2.out ?_
      clear hK1
      intro _
      try simp only [Act.put, List.setIfInBounds_toArray, List.set_cons_zero, List.set_cons_succ]
      refine wpAnyH_take (i := 14) (oi := o26_14) (v := .bool true) rfl (by kernel_rfl) (by kernel_rfl) (by kernel_rfl) (fun _ _ _ h => h.elim) (Or.inl ⟨by rfl, ?y7⟩) hS2.out ?_
      case y7 =>
        intro V hV
        exact yl_eqV V _ _ o.dn vBot HV.out.2 vBot_ok true HDB.out rfl rfl rfl
      simp only [Act.put, List.setIfInBounds_toArray, List.set_cons_zero, List.set_cons_succ]
      refine wpAnyH_take (i := 15) (oi := o26_15) (v := .bool true) rfl (by kernel_rfl) (by kernel_rfl) (by kernel_rfl) (fun _ _ _ h => h.elim) (Or.inl ⟨by rfl, ?y8⟩) hS2.out ?_
      case y8 =>
        intro V hV
        dsimp only [o26_15]
        go_simp
      simp only [Act.put, List.setIfInBounds_toArray, List.set_cons_zero, List.set_cons_succ]
      refine wpAnyH_take (i := 16) (oi := o26_16) (v := undef) rfl (by kernel_rfl) (by kernel_rfl) (by kernel_rfl) (fun _ _ _ h => h.elim) (Or.inr ⟨by rfl, rfl⟩) hS2.out ?_
      simp only [Act.put, List.setIfInBounds_toArray, List.set_cons_zero, List.set_cons_succ]
      refine wpAnyH_take (i := 17) (oi := o26_17) (v := undef) rfl (by kernel_rfl) (by kernel_rfl) (by kernel_rfl) (fun _ _ _ h => h.elim) (Or.inr ⟨by rfl, rfl⟩) hS2.out ?_
      simp only [Act.put, List.setIfInBounds_toArray, List.set_cons_zero, List.set_cons_succ]
      refine wpAnyH_take (i := 18) (oi := o26_18) (v := undef) rfl (by kernel_rfl) (by kernel_rfl) (by kernel_rfl) (fun _ _ _ h => h.elim) (Or.inr ⟨by rfl, rfl⟩) hS2.out ?_
      simp only [Act.put, List.setIfInBounds_toArray, List.set_cons_zero, List.set_cons_succ]
      refine wpAnyH_take (i := 19) (oi := o26_19) (v := undef) rfl (by kernel_rfl) (by kernel_rfl) (by kernel_rfl) (fun _ _ _ h => h.elim) (Or.inr ⟨by rfl, rfl⟩) hS2.out ?_
      simp only [Act.put, List.setIfInBounds_toArray, List.set_cons_zero, List.set_cons_succ]
      refine wpAnyH_take (i := 20) (oi := o26_20) (v := .bool true) rfl (by kernel_rfl) (by kernel_rfl) (by kernel_rfl) (fun _ _ _ h => h.elim) (Or.inl ⟨by rfl, ?y9⟩) hS2.out ?_
      case y9 =>
        intro V hV
        dsimp only [o26_20]
        go_simp
      simp only [Act.put, List.setIfInBounds_toArray, List.set_cons_zero, List.set_cons_succ]
      refine wpAnyH_take (i := 21) (oi := o26_21) (v := .bool true) rfl (by kernel_rfl) (by kernel_rfl) (by kernel_rfl) (fun _ _ _ h => h.elim) (Or.inl ⟨by rfl, ?y10⟩) hS2.out ?_
      case y10 =>
        intro V hV
        dsimp only [o26_21]
        go_simp
      simp only [Act.put, List.setIfInBounds_toArray, List.set_cons_zero, List.set_cons_succ]
      refine wpAnyH_take (i := 22) (oi := o26_22) (v := .bool true) rfl (by kernel_rfl) (by kernel_rfl) (by kernel_rfl) (fun _ _ _ h => h.elim) (Or.inl ⟨by rfl, ?y11⟩) hS2.out ?_
      case y11 =>
        intro V hV
        dsimp only [o26_22]
        go_simp
      simp only [Act.put, List.setIfInBounds_toArray, List.set_cons_zero, List.set_cons_succ]
      refine wpAnyH_done (by kernel_rfl) ?_ _
      exact hQ V2 hS2.out
set_option maxRecDepth 100000 in
set_option maxHeartbeats 4000000 in
theorem ro1 {Q : Exit → Act → World → Prop} {x0 x1 x4 x5 x6 x7 x8 x9 x10 x11 x12 x13 x14 x15 x16 x17 x18 x19 x20 x21 x22 x23 x24 x25 x26 x27 x28 x29 x30 x31 x32 x33 x34 x35 x36 x37 x38 x39 x40 x41 x42 x43 x44 x45 x46 x47 x48 x49 x50 x51 x52 x53 x54 x55 x56 x57 x58 x59 x60 x61 x62 x63 x64 x65 x66 x67 x68 x69 x70 x71 x72 x73 x74 x75 x76 x77 x78 x79 x80 x81 x82 x83 x84 x85 x86 x87 x88 x89 x90 x91 x92 x93 x94 x95 x96 x97 x98 x99 : Value} {ds : List Deferred} {A : World} {d2 d3 : Nat} {p : PV} {o : OpV} {UL : Bool}
    (HL : Hid (d2 < A.heap.size ∧ d3 < A.heap.size)) (HR : Hid (A.rangeAt d2 0 p.cells)) (HU : Hid (A.rangeAt d3 2 o.up.cells)) (HDn : Hid (A.rangeAt d3 35 o.dn.cells)) (HV : Hid (o.up.ok ∧ o.dn.ok)) (H52 : Hid (∀ V, Below A.heap.size A V → Calls Tryd.prog 48 #[] V fun e V2 => e = .returned (.agg vTop.cells.toArray) ∧ Below V.heap.size V V2)) (H53 : Hid (∀ V, Below A.heap.size A V → Calls Tryd.prog 49 #[] V fun e V2 => e = .returned (.agg vBot.cells.toArray) ∧ Below V.heap.size V V2)) (HUT : Hid (eqVx o.up vTop = true)) (H51u : Hid (∀ V, Below A.heap.size A V → Calls Tryd.prog 47 #[.agg p.cells.toArray, .agg o.up.cells.toArray] V fun e V2 => e = .returned (.bool UL) ∧ Below V.heap.size V V2)) (HDB : Hid (eqVx o.dn vBot = false)) (H51d : Hid (∀ V, Below A.heap.size A V → Calls Tryd.prog 47 #[.agg p.cells.toArray, .agg o.dn.cells.toArray] V fun e V2 => e = .returned (.bool true) ∧ Below V.heap.size V V2))
    (hQ : ∀ V1, Below A.heap.size A V1 → Q .normal { tmps := #[x0, x1, .pointer (some ⟨d2, 0, none⟩), .pointer (some ⟨d3, 0, none⟩), .bool true, x5, x6, x7, x8, x9, x10, x11, x12, x13, x14, x15, x16, x17, x18, x19, x20, x21, x22, x23, x24, x25, x26, x27, x28, x29, x30, x31, x32, x33, x34, x35, x36, x37, x38, x39, x40, x41, x42, x43, x44, x45, x46, x47, x48, x49, x50, x51, x52, x53, x54, x55, x56, x57, x58, x59, x60, x61, x62, x63, x64, x65, x66, x67, x68, x69, x70, x71, x72, x73, x74, x75, x76, x77, .pointer (some ⟨d3, 2, none⟩), .agg o.up.cells.toArray, .agg vTop.cells.toArray, .bool true, .bool true, undef, undef, undef, undef, .bool true, .bool true, .pointer (some ⟨d3, 35, none⟩), .agg o.dn.cells.toArray, .agg vBot.cells.toArray, .bool false, .bool false, .agg p.cells.toArray, .pointer (some ⟨d3, 35, none⟩), .agg o.dn.cells.toArray, .bool true, .bool true, .bool true], defers := ds } V1) :
    (Code.region 17 #[o26_0, o26_1, o26_2, o26_3, o26_4, o26_5, o26_6, o26_7, o26_8, o26_9, o26_10, o26_11, o26_12, o26_13, o26_14, o26_15, o26_16, o26_17, o26_18, o26_19, o26_20, o26_21, o26_22] true).wp Tryd.prog Q { tmps := #[x0, x1, .pointer (some ⟨d2, 0, none⟩), .pointer (some ⟨d3, 0, none⟩), x4, x5, x6, x7, x8, x9, x10, x11, x12, x13, x14, x15, x16, x17, x18, x19, x20, x21, x22, x23, x24, x25, x26, x27, x28, x29, x30, x31, x32, x33, x34, x35, x36, x37, x38, x39, x40, x41, x42, x43, x44, x45, x46, x47, x48, x49, x50, x51, x52, x53, x54, x55, x56, x57, x58, x59, x60, x61, x62, x63, x64, x65, x66, x67, x68, x69, x70, x71, x72, x73, x74, x75, x76, x77, x78, x79, x80, x81, x82, x83, x84, x85, x86, x87, x88, x89, x90, x91, x92, x93, x94, x95, x96, x97, x98, x99], defers := ds } A := by
  refine Code.wp_mono (Q := fun x a' w' => match x with | .normal => Q .normal a' w' | _ => False) (by intro x a' w' h; cases x <;> first | exact h | exact h.elim) ?_
  refine wp_region_held (S := fun V => Below A.heap.size A V) (by kernel_rfl) ?_
  have hS0 : Hid (Below A.heap.size A A.drew) := below_drew0 A
  change wpAnyH Tryd.prog .any _ _ (fun V => Below A.heap.size A V) 23 (Array.replicate 23 false) _ A.drew
  obtain ⟨V0, hV0⟩ : ∃ V0, A.drew = V0 := ⟨_, rfl⟩
  rw [hV0]
  rw [hV0] at hS0
  clear hV0
  refine wpAnyH_take (i := 0) (oi := o26_0) (v := .pointer (some ⟨d3, 2, none⟩)) rfl (by kernel_rfl) (by kernel_rfl) (by kernel_rfl) (fun _ _ _ h => h.elim) (Or.inl ⟨by rfl, ?y1⟩) hS0.out ?_
  case y1 =>
    intro V hV
    dsimp only [o26_0]
    go_simp
  simp only [Act.put, List.setIfInBounds_toArray, List.set_cons_zero, List.set_cons_succ]
  refine wpAnyH_take (i := 1) (oi := o26_1) (v := .agg o.up.cells.toArray) rfl (by kernel_rfl) (by kernel_rfl) (by kernel_rfl) (fun _ _ _ h => h.elim) (yieldsIf_load_mid (by rfl) _ _ rfl _ _ rfl (o.up.cells) _ (fun V hV => rangeAt_same (HU.out) ((show Below A.heap.size A V from hV).block _ (HL.out.2))) Tryd.underlying42 rfl (info49 HV.out.1)) hS0.out ?_
  simp only [Act.put, List.setIfInBounds_toArray, List.set_cons_zero, List.set_cons_succ]
  refine wpAnyH_ready (rs := [2]) (by kernel_rfl) (by simp) (AllReadyH.cons (i := 2) (o := o26_2) rfl ?_ AllReadyH.nil)
  · intro K1 hK1
    dsimp only [o26_2]
    rw [if_pos (by rfl)]
    have HC1 := H52.out V0 hS0.out
    go_wp2_with fail
    refine HC1.mono ?_
    rintro e V1 ⟨rfl, hb1⟩
    dsimp only
    clear HC1
    have hS1 : Hid (Below A.heap.size A V1) := hS0.out.trans (hb1.mono hS0.out.size)
    clear hb1
    refine hK1.out _ _ hS1.out ?_
    clear hK1
    intro _
    try simp only [Act.put, List.setIfInBounds_toArray, List.set_cons_zero, List.set_cons_succ]
    refine wpAnyH_take (i := 3) (oi := o26_3) (v := .bool true) rfl (by kernel_rfl) (by kernel_rfl) (by kernel_rfl) (fun _ _ _ h => h.elim) (Or.inl ⟨by rfl, ?y2⟩) hS1.out ?_
    case y2 =>
      intro V hV
      exact yl_eqV V _ _ o.up vTop HV.out.1 vTop_ok true HUT.out rfl rfl rfl
    simp only [Act.put, List.setIfInBounds_toArray, List.set_cons_zero, List.set_cons_succ]
    refine wpAnyH_take (i := 4) (oi := o26_4) (v := .bool true) rfl (by kernel_rfl) (by kernel_rfl) (by kernel_rfl) (fun _ _ _ h => h.elim) (Or.inl ⟨by rfl, ?y3⟩) hS1.out ?_
    case y3 =>
      intro V hV
      dsimp only [o26_4]
      go_simp
    simp only [Act.put, List.setIfInBounds_toArray, List.set_cons_zero, List.set_cons_succ]
    refine wpAnyH_take (i := 5) (oi := o26_5) (v := undef) rfl (by kernel_rfl) (by kernel_rfl) (by kernel_rfl) (fun _ _ _ h => h.elim) (Or.inr ⟨by rfl, rfl⟩) hS1.out ?_
    simp only [Act.put, List.setIfInBounds_toArray, List.set_cons_zero, List.set_cons_succ]
    refine wpAnyH_take (i := 6) (oi := o26_6) (v := undef) rfl (by kernel_rfl) (by kernel_rfl) (by kernel_rfl) (fun _ _ _ h => h.elim) (Or.inr ⟨by rfl, rfl⟩) hS1.out ?_
    simp only [Act.put, List.setIfInBounds_toArray, List.set_cons_zero, List.set_cons_succ]
    refine wpAnyH_take (i := 7) (oi := o26_7) (v := undef) rfl (by kernel_rfl) (by kernel_rfl) (by kernel_rfl) (fun _ _ _ h => h.elim) (Or.inr ⟨by rfl, rfl⟩) hS1.out ?_
    simp only [Act.put, List.setIfInBounds_toArray, List.set_cons_zero, List.set_cons_succ]
    refine wpAnyH_take (i := 8) (oi := o26_8) (v := undef) rfl (by kernel_rfl) (by kernel_rfl) (by kernel_rfl) (fun _ _ _ h => h.elim) (Or.inr ⟨by rfl, rfl⟩) hS1.out ?_
    simp only [Act.put, List.setIfInBounds_toArray, List.set_cons_zero, List.set_cons_succ]
    refine wpAnyH_take (i := 9) (oi := o26_9) (v := .bool true) rfl (by kernel_rfl) (by kernel_rfl) (by kernel_rfl) (fun _ _ _ h => h.elim) (Or.inl ⟨by rfl, ?y4⟩) hS1.out ?_
    case y4 =>
      intro V hV
      dsimp only [o26_9]
      go_simp
    simp only [Act.put, List.setIfInBounds_toArray, List.set_cons_zero, List.set_cons_succ]
    refine wpAnyH_take (i := 10) (oi := o26_10) (v := .bool true) rfl (by kernel_rfl) (by kernel_rfl) (by kernel_rfl) (fun _ _ _ h => h.elim) (Or.inl ⟨by rfl, ?y5⟩) hS1.out ?_
    case y5 =>
      intro V hV
      dsimp only [o26_10]
      go_simp
    simp only [Act.put, List.setIfInBounds_toArray, List.set_cons_zero, List.set_cons_succ]
    refine wpAnyH_take (i := 11) (oi := o26_11) (v := .pointer (some ⟨d3, 35, none⟩)) rfl (by kernel_rfl) (by kernel_rfl) (by kernel_rfl) (fun _ _ _ h => h.elim) (Or.inl ⟨by rfl, ?y6⟩) hS1.out ?_
    case y6 =>
      intro V hV
      dsimp only [o26_11]
      go_simp
    simp only [Act.put, List.setIfInBounds_toArray, List.set_cons_zero, List.set_cons_succ]
    refine wpAnyH_take (i := 12) (oi := o26_12) (v := .agg o.dn.cells.toArray) rfl (by kernel_rfl) (by kernel_rfl) (by kernel_rfl) (fun _ _ _ h => h.elim) (yieldsIf_load_mid (by rfl) _ _ rfl _ _ rfl (o.dn.cells) _ (fun V hV => rangeAt_same (HDn.out) ((show Below A.heap.size A V from hV).block _ (HL.out.2))) Tryd.underlying42 rfl (info49 HV.out.2)) hS1.out ?_
    simp only [Act.put, List.setIfInBounds_toArray, List.set_cons_zero, List.set_cons_succ]
    refine wpAnyH_ready (rs := [13]) (by kernel_rfl) (by simp) (AllReadyH.cons (i := 13) (o := o26_13) rfl ?_ AllReadyH.nil)
    · intro K1 hK1
      dsimp only [o26_13]
      rw [if_pos (by rfl)]
      have HC2 := H53.out V1 hS1.out
      go_wp2_with fail
      refine HC2.mono ?_
      rintro e V2 ⟨rfl, hb2⟩
      dsimp only
      clear HC2
      have hS2 : Hid (Below A.heap.size A V2) := hS1.out.trans (hb2.mono hS1.out.size)
      clear hb2
      refine hK1.out _ _ hS2.out ?_
      clear hK1
      intro _
      try simp only [Act.put, List.setIfInBounds_toArray, List.set_cons_zero, List.set_cons_succ]
      refine wpAnyH_take (i := 14) (oi := o26_14) (v := .bool false) rfl (by kernel_rfl) (by kernel_rfl) (by kernel_rfl) (fun _ _ _ h => h.elim) (Or.inl ⟨by rfl, ?y7⟩) hS2.out ?_
      case y7 =>
        intro V hV
        exact yl_eqV V _ _ o.dn vBot HV.out.2 vBot_ok false HDB.out rfl rfl rfl
      simp only [Act.put, List.setIfInBounds_toArray, List.set_cons_zero, List.set_cons_succ]
      refine wpAnyH_take (i := 15) (oi := o26_15) (v := .bool false) rfl (by kernel_rfl) (by kernel_rfl) (by kernel_rfl) (fun _ _ _ h => h.elim) (Or.inl ⟨by rfl, ?y8⟩) hS2.out ?_
      case y8 =>
        intro V hV
        dsimp only [o26_15]
        go_simp
      simp only [Act.put, List.setIfInBounds_toArray, List.set_cons_zero, List.set_cons_succ]
      refine wpAnyH_take (i := 16) (oi := o26_16) (v := .agg p.cells.toArray) rfl (by kernel_rfl) (by kernel_rfl) (by kernel_rfl) (fun _ _ _ h => h.elim) (yieldsIf_load_mid (by rfl) _ _ rfl _ _ rfl (p.cells) _ (fun V hV => rangeAt_same (HR.out) ((show Below A.heap.size A V from hV).block _ (HL.out.1))) Tryd.underlying25 rfl (info25 p)) hS2.out ?_
      simp only [Act.put, List.setIfInBounds_toArray, List.set_cons_zero, List.set_cons_succ]
      refine wpAnyH_take (i := 17) (oi := o26_17) (v := .pointer (some ⟨d3, 35, none⟩)) rfl (by kernel_rfl) (by kernel_rfl) (by kernel_rfl) (fun _ _ _ h => h.elim) (Or.inl ⟨by rfl, ?y9⟩) hS2.out ?_
      case y9 =>
        intro V hV
        dsimp only [o26_17]
        go_simp
      simp only [Act.put, List.setIfInBounds_toArray, List.set_cons_zero, List.set_cons_succ]
      refine wpAnyH_take (i := 18) (oi := o26_18) (v := .agg o.dn.cells.toArray) rfl (by kernel_rfl) (by kernel_rfl) (by kernel_rfl) (fun _ _ _ h => h.elim) (yieldsIf_load_mid (by rfl) _ _ rfl _ _ rfl (o.dn.cells) _ (fun V hV => rangeAt_same (HDn.out) ((show Below A.heap.size A V from hV).block _ (HL.out.2))) Tryd.underlying42 rfl (info49 HV.out.2)) hS2.out ?_
      simp only [Act.put, List.setIfInBounds_toArray, List.set_cons_zero, List.set_cons_succ]
      refine wpAnyH_ready (rs := [19]) (by kernel_rfl) (by simp) (AllReadyH.cons (i := 19) (o := o26_19) rfl ?_ AllReadyH.nil)
      · intro K1 hK1
        dsimp only [o26_19]
        rw [if_pos (by rfl)]
        have HC3 := H51d.out V2 hS2.out
        go_wp2_with fail
        refine HC3.mono ?_
        rintro e V3 ⟨rfl, hb3⟩
        dsimp only
        clear HC3
        have hS3 : Hid (Below A.heap.size A V3) := hS2.out.trans (hb3.mono hS2.out.size)
        clear hb3
        refine hK1.out _ _ hS3.out ?_
        clear hK1
        intro _
        try simp only [Act.put, List.setIfInBounds_toArray, List.set_cons_zero, List.set_cons_succ]
        refine wpAnyH_take (i := 20) (oi := o26_20) (v := .bool true) rfl (by kernel_rfl) (by kernel_rfl) (by kernel_rfl) (fun _ _ _ h => h.elim) (Or.inl ⟨by rfl, ?y10⟩) hS3.out ?_
        case y10 =>
          intro V hV
          dsimp only [o26_20]
          go_simp
        simp only [Act.put, List.setIfInBounds_toArray, List.set_cons_zero, List.set_cons_succ]
        refine wpAnyH_take (i := 21) (oi := o26_21) (v := .bool true) rfl (by kernel_rfl) (by kernel_rfl) (by kernel_rfl) (fun _ _ _ h => h.elim) (Or.inl ⟨by rfl, ?y11⟩) hS3.out ?_
        case y11 =>
          intro V hV
          dsimp only [o26_21]
          go_simp
        simp only [Act.put, List.setIfInBounds_toArray, List.set_cons_zero, List.set_cons_succ]
        refine wpAnyH_take (i := 22) (oi := o26_22) (v := .bool true) rfl (by kernel_rfl) (by kernel_rfl) (by kernel_rfl) (fun _ _ _ h => h.elim) (Or.inl ⟨by rfl, ?y12⟩) hS3.out ?_
        case y12 =>
          intro V hV
          dsimp only [o26_22]
          go_simp
        simp only [Act.put, List.setIfInBounds_toArray, List.set_cons_zero, List.set_cons_succ]
        refine wpAnyH_done (by kernel_rfl) ?_ _
        exact hQ V3 hS3.out
set_option maxRecDepth 100000 in
set_option maxHeartbeats 4000000 in
theorem ro2 {Q : Exit → Act → World → Prop} {x0 x1 x4 x5 x6 x7 x8 x9 x10 x11 x12 x13 x14 x15 x16 x17 x18 x19 x20 x21 x22 x23 x24 x25 x26 x27 x28 x29 x30 x31 x32 x33 x34 x35 x36 x37 x38 x39 x40 x41 x42 x43 x44 x45 x46 x47 x48 x49 x50 x51 x52 x53 x54 x55 x56 x57 x58 x59 x60 x61 x62 x63 x64 x65 x66 x67 x68 x69 x70 x71 x72 x73 x74 x75 x76 x77 x78 x79 x80 x81 x82 x83 x84 x85 x86 x87 x88 x89 x90 x91 x92 x93 x94 x95 x96 x97 x98 x99 : Value} {ds : List Deferred} {A : World} {d2 d3 : Nat} {p : PV} {o : OpV} {UL : Bool}
    (HL : Hid (d2 < A.heap.size ∧ d3 < A.heap.size)) (HR : Hid (A.rangeAt d2 0 p.cells)) (HU : Hid (A.rangeAt d3 2 o.up.cells)) (HDn : Hid (A.rangeAt d3 35 o.dn.cells)) (HV : Hid (o.up.ok ∧ o.dn.ok)) (H52 : Hid (∀ V, Below A.heap.size A V → Calls Tryd.prog 48 #[] V fun e V2 => e = .returned (.agg vTop.cells.toArray) ∧ Below V.heap.size V V2)) (H53 : Hid (∀ V, Below A.heap.size A V → Calls Tryd.prog 49 #[] V fun e V2 => e = .returned (.agg vBot.cells.toArray) ∧ Below V.heap.size V V2)) (HUT : Hid (eqVx o.up vTop = true)) (H51u : Hid (∀ V, Below A.heap.size A V → Calls Tryd.prog 47 #[.agg p.cells.toArray, .agg o.up.cells.toArray] V fun e V2 => e = .returned (.bool UL) ∧ Below V.heap.size V V2)) (HDB : Hid (eqVx o.dn vBot = false)) (H51d : Hid (∀ V, Below A.heap.size A V → Calls Tryd.prog 47 #[.agg p.cells.toArray, .agg o.dn.cells.toArray] V fun e V2 => e = .returned (.bool false) ∧ Below V.heap.size V V2))
    (hQ : ∀ V1, Below A.heap.size A V1 → Q .normal { tmps := #[x0, x1, .pointer (some ⟨d2, 0, none⟩), .pointer (some ⟨d3, 0, none⟩), .bool false, x5, x6, x7, x8, x9, x10, x11, x12, x13, x14, x15, x16, x17, x18, x19, x20, x21, x22, x23, x24, x25, x26, x27, x28, x29, x30, x31, x32, x33, x34, x35, x36, x37, x38, x39, x40, x41, x42, x43, x44, x45, x46, x47, x48, x49, x50, x51, x52, x53, x54, x55, x56, x57, x58, x59, x60, x61, x62, x63, x64, x65, x66, x67, x68, x69, x70, x71, x72, x73, x74, x75, x76, x77, .pointer (some ⟨d3, 2, none⟩), .agg o.up.cells.toArray, .agg vTop.cells.toArray, .bool true, .bool true, undef, undef, undef, undef, .bool true, .bool true, .pointer (some ⟨d3, 35, none⟩), .agg o.dn.cells.toArray, .agg vBot.cells.toArray, .bool false, .bool false, .agg p.cells.toArray, .pointer (some ⟨d3, 35, none⟩), .agg o.dn.cells.toArray, .bool false, .bool false, .bool false], defers := ds } V1) :
    (Code.region 17 #[o26_0, o26_1, o26_2, o26_3, o26_4, o26_5, o26_6, o26_7, o26_8, o26_9, o26_10, o26_11, o26_12, o26_13, o26_14, o26_15, o26_16, o26_17, o26_18, o26_19, o26_20, o26_21, o26_22] true).wp Tryd.prog Q { tmps := #[x0, x1, .pointer (some ⟨d2, 0, none⟩), .pointer (some ⟨d3, 0, none⟩), x4, x5, x6, x7, x8, x9, x10, x11, x12, x13, x14, x15, x16, x17, x18, x19, x20, x21, x22, x23, x24, x25, x26, x27, x28, x29, x30, x31, x32, x33, x34, x35, x36, x37, x38, x39, x40, x41, x42, x43, x44, x45, x46, x47, x48, x49, x50, x51, x52, x53, x54, x55, x56, x57, x58, x59, x60, x61, x62, x63, x64, x65, x66, x67, x68, x69, x70, x71, x72, x73, x74, x75, x76, x77, x78, x79, x80, x81, x82, x83, x84, x85, x86, x87, x88, x89, x90, x91, x92, x93, x94, x95, x96, x97, x98, x99], defers := ds } A := by
  refine Code.wp_mono (Q := fun x a' w' => match x with | .normal => Q .normal a' w' | _ => False) (by intro x a' w' h; cases x <;> first | exact h | exact h.elim) ?_
  refine wp_region_held (S := fun V => Below A.heap.size A V) (by kernel_rfl) ?_
  have hS0 : Hid (Below A.heap.size A A.drew) := below_drew0 A
  change wpAnyH Tryd.prog .any _ _ (fun V => Below A.heap.size A V) 23 (Array.replicate 23 false) _ A.drew
  obtain ⟨V0, hV0⟩ : ∃ V0, A.drew = V0 := ⟨_, rfl⟩
  rw [hV0]
  rw [hV0] at hS0
  clear hV0
  refine wpAnyH_take (i := 0) (oi := o26_0) (v := .pointer (some ⟨d3, 2, none⟩)) rfl (by kernel_rfl) (by kernel_rfl) (by kernel_rfl) (fun _ _ _ h => h.elim) (Or.inl ⟨by rfl, ?y1⟩) hS0.out ?_
  case y1 =>
    intro V hV
    dsimp only [o26_0]
    go_simp
  simp only [Act.put, List.setIfInBounds_toArray, List.set_cons_zero, List.set_cons_succ]
  refine wpAnyH_take (i := 1) (oi := o26_1) (v := .agg o.up.cells.toArray) rfl (by kernel_rfl) (by kernel_rfl) (by kernel_rfl) (fun _ _ _ h => h.elim) (yieldsIf_load_mid (by rfl) _ _ rfl _ _ rfl (o.up.cells) _ (fun V hV => rangeAt_same (HU.out) ((show Below A.heap.size A V from hV).block _ (HL.out.2))) Tryd.underlying42 rfl (info49 HV.out.1)) hS0.out ?_
  simp only [Act.put, List.setIfInBounds_toArray, List.set_cons_zero, List.set_cons_succ]
  refine wpAnyH_ready (rs := [2]) (by kernel_rfl) (by simp) (AllReadyH.cons (i := 2) (o := o26_2) rfl ?_ AllReadyH.nil)
  · intro K1 hK1
    dsimp only [o26_2]
    rw [if_pos (by rfl)]
    have HC1 := H52.out V0 hS0.out
    go_wp2_with fail
    refine HC1.mono ?_
    rintro e V1 ⟨rfl, hb1⟩
    dsimp only
    clear HC1
    have hS1 : Hid (Below A.heap.size A V1) := hS0.out.trans (hb1.mono hS0.out.size)
    clear hb1
    refine hK1.out _ _ hS1.out ?_
    clear hK1
    intro _
    try simp only [Act.put, List.setIfInBounds_toArray, List.set_cons_zero, List.set_cons_succ]
    refine wpAnyH_take (i := 3) (oi := o26_3) (v := .bool true) rfl (by kernel_rfl) (by kernel_rfl) (by kernel_rfl) (fun _ _ _ h => h.elim) (Or.inl ⟨by rfl, ?y2⟩) hS1.out ?_
    case y2 =>
      intro V hV
      exact yl_eqV V _ _ o.up vTop HV.out.1 vTop_ok true HUT.out rfl rfl rfl
    simp only [Act.put, List.setIfInBounds_toArray, List.set_cons_zero, List.set_cons_succ]
    refine wpAnyH_take (i := 4) (oi := o26_4) (v := .bool true) rfl (by kernel_rfl) (by kernel_rfl) (by kernel_rfl) (fun _ _ _ h => h.elim) (Or.inl ⟨by rfl, ?y3⟩) hS1.out ?_
    case y3 =>
      intro V hV
      dsimp only [o26_4]
      go_simp
    simp only [Act.put, List.setIfInBounds_toArray, List.set_cons_zero, List.set_cons_succ]
    refine wpAnyH_take (i := 5) (oi := o26_5) (v := undef) rfl (by kernel_rfl) (by kernel_rfl) (by kernel_rfl) (fun _ _ _ h => h.elim) (Or.inr ⟨by rfl, rfl⟩) hS1.out ?_
    simp only [Act.put, List.setIfInBounds_toArray, List.set_cons_zero, List.set_cons_succ]
    refine wpAnyH_take (i := 6) (oi := o26_6) (v := undef) rfl (by kernel_rfl) (by kernel_rfl) (by kernel_rfl) (fun _ _ _ h => h.elim) (Or.inr ⟨by rfl, rfl⟩) hS1.out ?_
    simp only [Act.put, List.setIfInBounds_toArray, List.set_cons_zero, List.set_cons_succ]
    refine wpAnyH_take (i := 7) (oi := o26_7) (v := undef) rfl (by kernel_rfl) (by kernel_rfl) (by kernel_rfl) (fun _ _ _ h => h.elim) (Or.inr ⟨by rfl, rfl⟩) hS1.out ?_
    simp only [Act.put, List.setIfInBounds_toArray, List.set_cons_zero, List.set_cons_succ]
    refine wpAnyH_take (i := 8) (oi := o26_8) (v := undef) rfl (by kernel_rfl) (by kernel_rfl) (by kernel_rfl) (fun _ _ _ h => h.elim) (Or.inr ⟨by rfl, rfl⟩) hS1.out ?_
    simp only [Act.put, List.setIfInBounds_toArray, List.set_cons_zero, List.set_cons_succ]
    refine wpAnyH_take (i := 9) (oi := o26_9) (v := .bool true) rfl (by kernel_rfl) (by kernel_rfl) (by kernel_rfl) (fun _ _ _ h => h.elim) (Or.inl ⟨by rfl, ?y4⟩) hS1.out ?_
    case y4 =>
      intro V hV
      dsimp only [o26_9]
      go_simp
    simp only [Act.put, List.setIfInBounds_toArray, List.set_cons_zero, List.set_cons_succ]
    refine wpAnyH_take (i := 10) (oi := o26_10) (v := .bool true) rfl (by kernel_rfl) (by kernel_rfl) (by kernel_rfl) (fun _ _ _ h => h.elim) (Or.inl ⟨by rfl, ?y5⟩) hS1.out ?_
    case y5 =>
      intro V hV
      dsimp only [o26_10]
      go_simp
    simp only [Act.put, List.setIfInBounds_toArray, List.set_cons_zero, List.set_cons_succ]
    refine wpAnyH_take (i := 11) (oi := o26_11) (v := .pointer (some ⟨d3, 35, none⟩)) rfl (by kernel_rfl) (by kernel_rfl) (by kernel_rfl) (fun _ _ _ h => h.elim) (Or.inl ⟨by rfl, ?y6⟩) hS1.out ?_
    case y6 =>
      intro V hV
      dsimp only [o26_11]
      go_simp
    simp only [Act.put, List.setIfInBounds_toArray, List.set_cons_zero, List.set_cons_succ]
    refine wpAnyH_take (i := 12) (oi := o26_12) (v := .agg o.dn.cells.toArray) rfl (by kernel_rfl) (by kernel_rfl) (by kernel_rfl) (fun _ _ _ h => h.elim) (yieldsIf_load_mid (by rfl) _ _ rfl _ _ rfl (o.dn.cells) _ (fun V hV => rangeAt_same (HDn.out) ((show Below A.heap.size A V from hV).block _ (HL.out.2))) Tryd.underlying42 rfl (info49 HV.out.2)) hS1.out ?_
    simp only [Act.put, List.setIfInBounds_toArray, List.set_cons_zero, List.set_cons_succ]
    refine wpAnyH_ready (rs := [13]) (by kernel_rfl) (by simp) (AllReadyH.cons (i := 13) (o := o26_13) rfl ?_ AllReadyH.nil)
    · intro K1 hK1
      dsimp only [o26_13]
      rw [if_pos (by rfl)]
      have HC2 := H53.out V1 hS1.out
      go_wp2_with fail
      refine HC2.mono ?_
      rintro e V2 ⟨rfl, hb2⟩
      dsimp only
      clear HC2
      have hS2 : Hid (Below A.heap.size A V2) := hS1.out.trans (hb2.mono hS1.out.size)
      clear hb2
      refine hK1.out _ _ hS2.out ?_
      clear hK1
      intro _
      try simp only [Act.put, List.setIfInBounds_toArray, List.set_cons_zero, List.set_cons_succ]
      refine wpAnyH_take (i := 14) (oi := o26_14) (v := .bool false) rfl (by kernel_rfl) (by kernel_rfl) (by kernel_rfl) (fun _ _ _ h => h.elim) (Or.inl ⟨by rfl, ?y7⟩) hS2.out ?_
      case y7 =>
        intro V hV
        exact yl_eqV V _ _ o.dn vBot HV.out.2 vBot_ok false HDB.out rfl rfl rfl
      simp only [Act.put, List.setIfInBounds_toArray, List.set_cons_zero, List.set_cons_succ]
      refine wpAnyH_take (i := 15) (oi := o26_15) (v := .bool false) rfl (by kernel_rfl) (by kernel_rfl) (by kernel_rfl) (fun _ _ _ h => h.elim) (Or.inl ⟨by rfl, ?y8⟩) hS2.out ?_
      case y8 =>
        intro V hV
        dsimp only [o26_15]
        go_simp
      simp only [Act.put, List.setIfInBounds_toArray, List.set_cons_zero, List.set_cons_succ]
      refine wpAnyH_take (i := 16) (oi := o26_16) (v := .agg p.cells.toArray) rfl (by kernel_rfl) (by kernel_rfl) (by kernel_rfl) (fun _ _ _ h => h.elim) (yieldsIf_load_mid (by rfl) _ _ rfl _ _ rfl (p.cells) _ (fun V hV => rangeAt_same (HR.out) ((show Below A.heap.size A V from hV).block _ (HL.out.1))) Tryd.underlying25 rfl (info25 p)) hS2.out ?_
      simp only [Act.put, List.setIfInBounds_toArray, List.set_cons_zero, List.set_cons_succ]
      refine wpAnyH_take (i := 17) (oi := o26_17) (v := .pointer (some ⟨d3, 35, none⟩)) rfl (by kernel_rfl) (by kernel_rfl) (by kernel_rfl) (fun _ _ _ h => h.elim) (Or.inl ⟨by rfl, ?y9⟩) hS2.out ?_
      case y9 =>
        intro V hV
        dsimp only [o26_17]
        go_simp
      simp only [Act.put, List.setIfInBounds_toArray, List.set_cons_zero, List.set_cons_succ]
      refine wpAnyH_take (i := 18) (oi := o26_18) (v := .agg o.dn.cells.toArray) rfl (by kernel_rfl) (by kernel_rfl) (by kernel_rfl) (fun _ _ _ h => h.elim) (yieldsIf_load_mid (by rfl) _ _ rfl _ _ rfl (o.dn.cells) _ (fun V hV => rangeAt_same (HDn.out) ((show Below A.heap.size A V from hV).block _ (HL.out.2))) Tryd.underlying42 rfl (info49 HV.out.2)) hS2.out ?_
      simp only [Act.put, List.setIfInBounds_toArray, List.set_cons_zero, List.set_cons_succ]
      refine wpAnyH_ready (rs := [19]) (by kernel_rfl) (by simp) (AllReadyH.cons (i := 19) (o := o26_19) rfl ?_ AllReadyH.nil)
      · intro K1 hK1
        dsimp only [o26_19]
        rw [if_pos (by rfl)]
        have HC3 := H51d.out V2 hS2.out
        go_wp2_with fail
        refine HC3.mono ?_
        rintro e V3 ⟨rfl, hb3⟩
        dsimp only
        clear HC3
        have hS3 : Hid (Below A.heap.size A V3) := hS2.out.trans (hb3.mono hS2.out.size)
        clear hb3
        refine hK1.out _ _ hS3.out ?_
        clear hK1
        intro _
        try simp only [Act.put, List.setIfInBounds_toArray, List.set_cons_zero, List.set_cons_succ]
        refine wpAnyH_take (i := 20) (oi := o26_20) (v := .bool false) rfl (by kernel_rfl) (by kernel_rfl) (by kernel_rfl) (fun _ _ _ h => h.elim) (Or.inl ⟨by rfl, ?y10⟩) hS3.out ?_
        case y10 =>
          intro V hV
          dsimp only [o26_20]
          go_simp
        simp only [Act.put, List.setIfInBounds_toArray, List.set_cons_zero, List.set_cons_succ]
        refine wpAnyH_take (i := 21) (oi := o26_21) (v := .bool false) rfl (by kernel_rfl) (by kernel_rfl) (by kernel_rfl) (fun _ _ _ h => h.elim) (Or.inl ⟨by rfl, ?y11⟩) hS3.out ?_
        case y11 =>
          intro V hV
          dsimp only [o26_21]
          go_simp
        simp only [Act.put, List.setIfInBounds_toArray, List.set_cons_zero, List.set_cons_succ]
        refine wpAnyH_take (i := 22) (oi := o26_22) (v := .bool false) rfl (by kernel_rfl) (by kernel_rfl) (by kernel_rfl) (fun _ _ _ h => h.elim) (Or.inl ⟨by rfl, ?y12⟩) hS3.out ?_
        case y12 =>
          intro V hV
          dsimp only [o26_22]
          go_simp
        simp only [Act.put, List.setIfInBounds_toArray, List.set_cons_zero, List.set_cons_succ]
        refine wpAnyH_done (by kernel_rfl) ?_ _
        exact hQ V3 hS3.out
set_option maxRecDepth 100000 in
set_option maxHeartbeats 4000000 in
theorem ro3 {Q : Exit → Act → World → Prop} {x0 x1 x4 x5 x6 x7 x8 x9 x10 x11 x12 x13 x14 x15 x16 x17 x18 x19 x20 x21 x22 x23 x24 x25 x26 x27 x28 x29 x30 x31 x32 x33 x34 x35 x36 x37 x38 x39 x40 x41 x42 x43 x44 x45 x46 x47 x48 x49 x50 x51 x52 x53 x54 x55 x56 x57 x58 x59 x60 x61 x62 x63 x64 x65 x66 x67 x68 x69 x70 x71 x72 x73 x74 x75 x76 x77 x78 x79 x80 x81 x82 x83 x84 x85 x86 x87 x88 x89 x90 x91 x92 x93 x94 x95 x96 x97 x98 x99 : Value} {ds : List Deferred} {A : World} {d2 d3 : Nat} {p : PV} {o : OpV} {DL : Bool}
    (HL : Hid (d2 < A.heap.size ∧ d3 < A.heap.size)) (HR : Hid (A.rangeAt d2 0 p.cells)) (HU : Hid (A.rangeAt d3 2 o.up.cells)) (HDn : Hid (A.rangeAt d3 35 o.dn.cells)) (HV : Hid (o.up.ok ∧ o.dn.ok)) (H52 : Hid (∀ V, Below A.heap.size A V → Calls Tryd.prog 48 #[] V fun e V2 => e = .returned (.agg vTop.cells.toArray) ∧ Below V.heap.size V V2)) (H53 : Hid (∀ V, Below A.heap.size A V → Calls Tryd.prog 49 #[] V fun e V2 => e = .returned (.agg vBot.cells.toArray) ∧ Below V.heap.size V V2)) (HUT : Hid (eqVx o.up vTop = false)) (H51u : Hid (∀ V, Below A.heap.size A V → Calls Tryd.prog 47 #[.agg p.cells.toArray, .agg o.up.cells.toArray] V fun e V2 => e = .returned (.bool true) ∧ Below V.heap.size V V2)) (HDB : Hid (eqVx o.dn vBot = true)) (H51d : Hid (∀ V, Below A.heap.size A V → Calls Tryd.prog 47 #[.agg p.cells.toArray, .agg o.dn.cells.toArray] V fun e V2 => e = .returned (.bool DL) ∧ Below V.heap.size V V2))
    (hQ : ∀ V1, Below A.heap.size A V1 → Q .normal { tmps := #[x0, x1, .pointer (some ⟨d2, 0, none⟩), .pointer (some ⟨d3, 0, none⟩), .bool true, x5, x6, x7, x8, x9, x10, x11, x12, x13, x14, x15, x16, x17, x18, x19, x20, x21, x22, x23, x24, x25, x26, x27, x28, x29, x30, x31, x32, x33, x34, x35, x36, x37, x38, x39, x40, x41, x42, x43, x44, x45, x46, x47, x48, x49, x50, x51, x52, x53, x54, x55, x56, x57, x58, x59, x60, x61, x62, x63, x64, x65, x66, x67, x68, x69, x70, x71, x72, x73, x74, x75, x76, x77, .pointer (some ⟨d3, 2, none⟩), .agg o.up.cells.toArray, .agg vTop.cells.toArray, .bool false, .bool false, .agg p.cells.toArray, .pointer (some ⟨d3, 2, none⟩), .agg o.up.cells.toArray, .bool true, .bool true, .bool true, .pointer (some ⟨d3, 35, none⟩), .agg o.dn.cells.toArray, .agg vBot.cells.toArray, .bool true, .bool true, undef, undef, undef, undef, .bool true, .bool true], defers := ds } V1) :
    (Code.region 17 #[o26_0, o26_1, o26_2, o26_3, o26_4, o26_5, o26_6, o26_7, o26_8, o26_9, o26_10, o26_11, o26_12, o26_13, o26_14, o26_15, o26_16, o26_17, o26_18, o26_19, o26_20, o26_21, o26_22] true).wp Tryd.prog Q { tmps := #[x0, x1, .pointer (some ⟨d2, 0, none⟩), .pointer (some ⟨d3, 0, none⟩), x4, x5, x6, x7, x8, x9, x10, x11, x12, x13, x14, x15, x16, x17, x18, x19, x20, x21, x22, x23, x24, x25, x26, x27, x28, x29, x30, x31, x32, x33, x34, x35, x36, x37, x38, x39, x40, x41, x42, x43, x44, x45, x46, x47, x48, x49, x50, x51, x52, x53, x54, x55, x56, x57, x58, x59, x60, x61, x62, x63, x64, x65, x66, x67, x68, x69, x70, x71, x72, x73, x74, x75, x76, x77, x78, x79, x80, x81, x82, x83, x84, x85, x86, x87, x88, x89, x90, x91, x92, x93, x94, x95, x96, x97, x98, x99], defers := ds } A := by
  refine Code.wp_mono (Q := fun x a' w' => match x with | .normal => Q .normal a' w' | _ => False) (by intro x a' w' h; cases x <;> first | exact h | exact h.elim) ?_
  refine wp_region_held (S := fun V => Below A.heap.size A V) (by kernel_rfl) ?_
  have hS0 : Hid (Below A.heap.size A A.drew) := below_drew0 A
  change wpAnyH Tryd.prog .any _ _ (fun V => Below A.heap.size A V) 23 (Array.replicate 23 false) _ A.drew
  obtain ⟨V0, hV0⟩ : ∃ V0, A.drew = V0 := ⟨_, rfl⟩
  rw [hV0]
  rw [hV0] at hS0
  clear hV0
  refine wpAnyH_take (i := 0) (oi := o26_0) (v := .pointer (some ⟨d3, 2, none⟩)) rfl (by kernel_rfl) (by kernel_rfl) (by kernel_rfl) (fun _ _ _ h => h.elim) (Or.inl ⟨by rfl, ?y1⟩) hS0.out ?_
  case y1 =>
    intro V hV
    dsimp only [o26_0]
    go_simp
  simp only [Act.put, List.setIfInBounds_toArray, List.set_cons_zero, List.set_cons_succ]
  refine wpAnyH_take (i := 1) (oi := o26_1) (v := .agg o.up.cells.toArray) rfl (by kernel_rfl) (by kernel_rfl) (by kernel_rfl) (fun _ _ _ h => h.elim) (yieldsIf_load_mid (by rfl) _ _ rfl _ _ rfl (o.up.cells) _ (fun V hV => rangeAt_same (HU.out) ((show Below A.heap.size A V from hV).block _ (HL.out.2))) Tryd.underlying42 rfl (info49 HV.out.1)) hS0.out ?_
  simp only [Act.put, List.setIfInBounds_toArray, List.set_cons_zero, List.set_cons_succ]
  refine wpAnyH_ready (rs := [2]) (by kernel_rfl) (by simp) (AllReadyH.cons (i := 2) (o := o26_2) rfl ?_ AllReadyH.nil)
  · intro K1 hK1
    dsimp only [o26_2]
    rw [if_pos (by rfl)]
    have HC1 := H52.out V0 hS0.out
    go_wp2_with fail
    refine HC1.mono ?_
    rintro e V1 ⟨rfl, hb1⟩
    dsimp only
    clear HC1
    have hS1 : Hid (Below A.heap.size A V1) := hS0.out.trans (hb1.mono hS0.out.size)
    clear hb1
    refine hK1.out _ _ hS1.out ?_
    clear hK1
    intro _
    try simp only [Act.put, List.setIfInBounds_toArray, List.set_cons_zero, List.set_cons_succ]
    refine wpAnyH_take (i := 3) (oi := o26_3) (v := .bool false) rfl (by kernel_rfl) (by kernel_rfl) (by kernel_rfl) (fun _ _ _ h => h.elim) (Or.inl ⟨by rfl, ?y2⟩) hS1.out ?_
    case y2 =>
      intro V hV
      exact yl_eqV V _ _ o.up vTop HV.out.1 vTop_ok false HUT.out rfl rfl rfl
    simp only [Act.put, List.setIfInBounds_toArray, List.set_cons_zero, List.set_cons_succ]
    refine wpAnyH_take (i := 4) (oi := o26_4) (v := .bool false) rfl (by kernel_rfl) (by kernel_rfl) (by kernel_rfl) (fun _ _ _ h => h.elim) (Or.inl ⟨by rfl, ?y3⟩) hS1.out ?_
    case y3 =>
      intro V hV
      dsimp only [o26_4]
      go_simp
    simp only [Act.put, List.setIfInBounds_toArray, List.set_cons_zero, List.set_cons_succ]
    refine wpAnyH_take (i := 5) (oi := o26_5) (v := .agg p.cells.toArray) rfl (by kernel_rfl) (by kernel_rfl) (by kernel_rfl) (fun _ _ _ h => h.elim) (yieldsIf_load_mid (by rfl) _ _ rfl _ _ rfl (p.cells) _ (fun V hV => rangeAt_same (HR.out) ((show Below A.heap.size A V from hV).block _ (HL.out.1))) Tryd.underlying25 rfl (info25 p)) hS1.out ?_
    simp only [Act.put, List.setIfInBounds_toArray, List.set_cons_zero, List.set_cons_succ]
    refine wpAnyH_take (i := 6) (oi := o26_6) (v := .pointer (some ⟨d3, 2, none⟩)) rfl (by kernel_rfl) (by kernel_rfl) (by kernel_rfl) (fun _ _ _ h => h.elim) (Or.inl ⟨by rfl, ?y4⟩) hS1.out ?_
    case y4 =>
      intro V hV
      dsimp only [o26_6]
      go_simp
    simp only [Act.put, List.setIfInBounds_toArray, List.set_cons_zero, List.set_cons_succ]
    refine wpAnyH_take (i := 7) (oi := o26_7) (v := .agg o.up.cells.toArray) rfl (by kernel_rfl) (by kernel_rfl) (by kernel_rfl) (fun _ _ _ h => h.elim) (yieldsIf_load_mid (by rfl) _ _ rfl _ _ rfl (o.up.cells) _ (fun V hV => rangeAt_same (HU.out) ((show Below A.heap.size A V from hV).block _ (HL.out.2))) Tryd.underlying42 rfl (info49 HV.out.1)) hS1.out ?_
    simp only [Act.put, List.setIfInBounds_toArray, List.set_cons_zero, List.set_cons_succ]
    refine wpAnyH_ready (rs := [8]) (by kernel_rfl) (by simp) (AllReadyH.cons (i := 8) (o := o26_8) rfl ?_ AllReadyH.nil)
    · intro K1 hK1
      dsimp only [o26_8]
      rw [if_pos (by rfl)]
      have HC2 := H51u.out V1 hS1.out
      go_wp2_with fail
      refine HC2.mono ?_
      rintro e V2 ⟨rfl, hb2⟩
      dsimp only
      clear HC2
      have hS2 : Hid (Below A.heap.size A V2) := hS1.out.trans (hb2.mono hS1.out.size)
      clear hb2
      refine hK1.out _ _ hS2.out ?_
      clear hK1
      intro _
      try simp only [Act.put, List.setIfInBounds_toArray, List.set_cons_zero, List.set_cons_succ]
      refine wpAnyH_take (i := 9) (oi := o26_9) (v := .bool true) rfl (by kernel_rfl) (by kernel_rfl) (by kernel_rfl) (fun _ _ _ h => h.elim) (Or.inl ⟨by rfl, ?y5⟩) hS2.out ?_
      case y5 =>
        intro V hV
        dsimp only [o26_9]
        go_simp
      simp only [Act.put, List.setIfInBounds_toArray, List.set_cons_zero, List.set_cons_succ]
      refine wpAnyH_take (i := 10) (oi := o26_10) (v := .bool true) rfl (by kernel_rfl) (by kernel_rfl) (by kernel_rfl) (fun _ _ _ h => h.elim) (Or.inl ⟨by rfl, ?y6⟩) hS2.out ?_
      case y6 =>
        intro V hV
        dsimp only [o26_10]
        go_simp
      simp only [Act.put, List.setIfInBounds_toArray, List.set_cons_zero, List.set_cons_succ]
      refine wpAnyH_take (i := 11) (oi := o26_11) (v := .pointer (some ⟨d3, 35, none⟩)) rfl (by kernel_rfl) (by kernel_rfl) (by kernel_rfl) (fun _ _ _ h => h.elim) (Or.inl ⟨by rfl, ?y7⟩) hS2.out ?_
      case y7 =>
        intro V hV
        dsimp only [o26_11]
        go_simp
      simp only [Act.put, List.setIfInBounds_toArray, List.set_cons_zero, List.set_cons_succ]
      refine wpAnyH_take (i := 12) (oi := o26_12) (v := .agg o.dn.cells.toArray) rfl (by kernel_rfl) (by kernel_rfl) (by kernel_rfl) (fun _ _ _ h => h.elim) (yieldsIf_load_mid (by rfl) _ _ rfl _ _ rfl (o.dn.cells) _ (fun V hV => rangeAt_same (HDn.out) ((show Below A.heap.size A V from hV).block _ (HL.out.2))) Tryd.underlying42 rfl (info49 HV.out.2)) hS2.out ?_
      simp only [Act.put, List.setIfInBounds_toArray, List.set_cons_zero, List.set_cons_succ]
      refine wpAnyH_ready (rs := [13]) (by kernel_rfl) (by simp) (AllReadyH.cons (i := 13) (o := o26_13) rfl ?_ AllReadyH.nil)
      · intro K1 hK1
        dsimp only [o26_13]
        rw [if_pos (by rfl)]
        have HC3 := H53.out V2 hS2.out
        go_wp2_with fail
        refine HC3.mono ?_
        rintro e V3 ⟨rfl, hb3⟩
        dsimp only
        clear HC3
        have hS3 : Hid (Below A.heap.size A V3) := hS2.out.trans (hb3.mono hS2.out.size)
        clear hb3
        refine hK1.out _ _ hS3.out ?_
        clear hK1
        intro _
        try simp only [Act.put, List.setIfInBounds_toArray, List.set_cons_zero, List.set_cons_succ]
        refine wpAnyH_take (i := 14) (oi := o26_14) (v := .bool true) rfl (by kernel_rfl) (by kernel_rfl) (by kernel_rfl) (fun _ _ _ h => h.elim) (Or.inl ⟨by rfl, ?y8⟩) hS3.out ?_
        case y8 =>
          intro V hV
          exact yl_eqV V _ _ o.dn vBot HV.out.2 vBot_ok true HDB.out rfl rfl rfl
        simp only [Act.put, List.setIfInBounds_toArray, List.set_cons_zero, List.set_cons_succ]
        refine wpAnyH_take (i := 15) (oi := o26_15) (v := .bool true) rfl (by kernel_rfl) (by kernel_rfl) (by kernel_rfl) (fun _ _ _ h => h.elim) (Or.inl ⟨by rfl, ?y9⟩) hS3.out ?_
        case y9 =>
          intro V hV
          dsimp only [o26_15]
          go_simp
        simp only [Act.put, List.setIfInBounds_toArray, List.set_cons_zero, List.set_cons_succ]
        refine wpAnyH_take (i := 16) (oi := o26_16) (v := undef) rfl (by kernel_rfl) (by kernel_rfl) (by kernel_rfl) (fun _ _ _ h => h.elim) (Or.inr ⟨by rfl, rfl⟩) hS3.out ?_
        simp only [Act.put, List.setIfInBounds_toArray, List.set_cons_zero, List.set_cons_succ]
        refine wpAnyH_take (i := 17) (oi := o26_17) (v := undef) rfl (by kernel_rfl) (by kernel_rfl) (by kernel_rfl) (fun _ _ _ h => h.elim) (Or.inr ⟨by rfl, rfl⟩) hS3.out ?_
        simp only [Act.put, List.setIfInBounds_toArray, List.set_cons_zero, List.set_cons_succ]
        refine wpAnyH_take (i := 18) (oi := o26_18) (v := undef) rfl (by kernel_rfl) (by kernel_rfl) (by kernel_rfl) (fun _ _ _ h => h.elim) (Or.inr ⟨by rfl, rfl⟩) hS3.out ?_
        simp only [Act.put, List.setIfInBounds_toArray, List.set_cons_zero, List.set_cons_succ]
        refine wpAnyH_take (i := 19) (oi := o26_19) (v := undef) rfl (by kernel_rfl) (by kernel_rfl) (by kernel_rfl) (fun _ _ _ h => h.elim) (Or.inr ⟨by rfl, rfl⟩) hS3.out ?_
        simp only [Act.put, List.setIfInBounds_toArray, List.set_cons_zero, List.set_cons_succ]
        refine wpAnyH_take (i := 20) (oi := o26_20) (v := .bool true) rfl (by kernel_rfl) (by kernel_rfl) (by kernel_rfl) (fun _ _ _ h => h.elim) (Or.inl ⟨by rfl, ?y10⟩) hS3.out ?_
        case y10 =>
          intro V hV
          dsimp only [o26_20]
          go_simp
        simp only [Act.put, List.setIfInBounds_toArray, List.set_cons_zero, List.set_cons_succ]
        refine wpAnyH_take (i := 21) (oi := o26_21) (v := .bool true) rfl (by kernel_rfl) (by kernel_rfl) (by kernel_rfl) (fun _ _ _ h => h.elim) (Or.inl ⟨by rfl, ?y11⟩) hS3.out ?_
        case y11 =>
          intro V hV
          dsimp only [o26_21]
          go_simp
        simp only [Act.put, List.setIfInBounds_toArray, List.set_cons_zero, List.set_cons_succ]
        refine wpAnyH_take (i := 22) (oi := o26_22) (v := .bool true) rfl (by kernel_rfl) (by kernel_rfl) (by kernel_rfl) (fun _ _ _ h => h.elim) (Or.inl ⟨by rfl, ?y12⟩) hS3.out ?_
        case y12 =>
          intro V hV
          dsimp only [o26_22]
          go_simp
        simp only [Act.put, List.setIfInBounds_toArray, List.set_cons_zero, List.set_cons_succ]
        refine wpAnyH_done (by kernel_rfl) ?_ _
        exact hQ V3 hS3.out
set_option maxRecDepth 100000 in
set_option maxHeartbeats 4000000 in
theorem ro4 {Q : Exit → Act → World → Prop} {x0 x1 x4 x5 x6 x7 x8 x9 x10 x11 x12 x13 x14 x15 x16 x17 x18 x19 x20 x21 x22 x23 x24 x25 x26 x27 x28 x29 x30 x31 x32 x33 x34 x35 x36 x37 x38 x39 x40 x41 x42 x43 x44 x45 x46 x47 x48 x49 x50 x51 x52 x53 x54 x55 x56 x57 x58 x59 x60 x61 x62 x63 x64 x65 x66 x67 x68 x69 x70 x71 x72 x73 x74 x75 x76 x77 x78 x79 x80 x81 x82 x83 x84 x85 x86 x87 x88 x89 x90 x91 x92 x93 x94 x95 x96 x97 x98 x99 : Value} {ds : List Deferred} {A : World} {d2 d3 : Nat} {p : PV} {o : OpV}
    (HL : Hid (d2 < A.heap.size ∧ d3 < A.heap.size)) (HR : Hid (A.rangeAt d2 0 p.cells)) (HU : Hid (A.rangeAt d3 2 o.up.cells)) (HDn : Hid (A.rangeAt d3 35 o.dn.cells)) (HV : Hid (o.up.ok ∧ o.dn.ok)) (H52 : Hid (∀ V, Below A.heap.size A V → Calls Tryd.prog 48 #[] V fun e V2 => e = .returned (.agg vTop.cells.toArray) ∧ Below V.heap.size V V2)) (H53 : Hid (∀ V, Below A.heap.size A V → Calls Tryd.prog 49 #[] V fun e V2 => e = .returned (.agg vBot.cells.toArray) ∧ Below V.heap.size V V2)) (HUT : Hid (eqVx o.up vTop = false)) (H51u : Hid (∀ V, Below A.heap.size A V → Calls Tryd.prog 47 #[.agg p.cells.toArray, .agg o.up.cells.toArray] V fun e V2 => e = .returned (.bool true) ∧ Below V.heap.size V V2)) (HDB : Hid (eqVx o.dn vBot = false)) (H51d : Hid (∀ V, Below A.heap.size A V → Calls Tryd.prog 47 #[.agg p.cells.toArray, .agg o.dn.cells.toArray] V fun e V2 => e = .returned (.bool true) ∧ Below V.heap.size V V2))
    (hQ : ∀ V1, Below A.heap.size A V1 → Q .normal { tmps := #[x0, x1, .pointer (some ⟨d2, 0, none⟩), .pointer (some ⟨d3, 0, none⟩), .bool true, x5, x6, x7, x8, x9, x10, x11, x12, x13, x14, x15, x16, x17, x18, x19, x20, x21, x22, x23, x24, x25, x26, x27, x28, x29, x30, x31, x32, x33, x34, x35, x36, x37, x38, x39, x40, x41, x42, x43, x44, x45, x46, x47, x48, x49, x50, x51, x52, x53, x54, x55, x56, x57, x58, x59, x60, x61, x62, x63, x64, x65, x66, x67, x68, x69, x70, x71, x72, x73, x74, x75, x76, x77, .pointer (some ⟨d3, 2, none⟩), .agg o.up.cells.toArray, .agg vTop.cells.toArray, .bool false, .bool false, .agg p.cells.toArray, .pointer (some ⟨d3, 2, none⟩), .agg o.up.cells.toArray, .bool true, .bool true, .bool true, .pointer (some ⟨d3, 35, none⟩), .agg o.dn.cells.toArray, .agg vBot.cells.toArray, .bool false, .bool false, .agg p.cells.toArray, .pointer (some ⟨d3, 35, none⟩), .agg o.dn.cells.toArray, .bool true, .bool true, .bool true], defers := ds } V1) :
    (Code.region 17 #[o26_0, o26_1, o26_2, o26_3, o26_4, o26_5, o26_6, o26_7, o26_8, o26_9, o26_10, o26_11, o26_12, o26_13, o26_14, o26_15, o26_16, o26_17, o26_18, o26_19, o26_20, o26_21, o26_22] true).wp Tryd.prog Q { tmps := #[x0, x1, .pointer (some ⟨d2, 0, none⟩), .pointer (some ⟨d3, 0, none⟩), x4, x5, x6, x7, x8, x9, x10, x11, x12, x13, x14, x15, x16, x17, x18, x19, x20, x21, x22, x23, x24, x25, x26, x27, x28, x29, x30, x31, x32, x33, x34, x35, x36, x37, x38, x39, x40, x41, x42, x43, x44, x45, x46, x47, x48, x49, x50, x51, x52, x53, x54, x55, x56, x57, x58, x59, x60, x61, x62, x63, x64, x65, x66, x67, x68, x69, x70, x71, x72, x73, x74, x75, x76, x77, x78, x79, x80, x81, x82, x83, x84, x85, x86, x87, x88, x89, x90, x91, x92, x93, x94, x95, x96, x97, x98, x99], defers := ds } A := by
  refine Code.wp_mono (Q := fun x a' w' => match x with | .normal => Q .normal a' w' | _ => False) (by intro x a' w' h; cases x <;> first | exact h | exact h.elim) ?_
  refine wp_region_held (S := fun V => Below A.heap.size A V) (by kernel_rfl) ?_
  have hS0 : Hid (Below A.heap.size A A.drew) := below_drew0 A
  change wpAnyH Tryd.prog .any _ _ (fun V => Below A.heap.size A V) 23 (Array.replicate 23 false) _ A.drew
  obtain ⟨V0, hV0⟩ : ∃ V0, A.drew = V0 := ⟨_, rfl⟩
  rw [hV0]
  rw [hV0] at hS0
  clear hV0
  refine wpAnyH_take (i := 0) (oi := o26_0) (v := .pointer (some ⟨d3, 2, none⟩)) rfl (by kernel_rfl) (by kernel_rfl) (by kernel_rfl) (fun _ _ _ h => h.elim) (Or.inl ⟨by rfl, ?y1⟩) hS0.out ?_
  case y1 =>
    intro V hV
    dsimp only [o26_0]
    go_simp
  simp only [Act.put, List.setIfInBounds_toArray, List.set_cons_zero, List.set_cons_succ]
  refine wpAnyH_take (i := 1) (oi := o26_1) (v := .agg o.up.cells.toArray) rfl (by kernel_rfl) (by kernel_rfl) (by kernel_rfl) (fun _ _ _ h => h.elim) (yieldsIf_load_mid (by rfl) _ _ rfl _ _ rfl (o.up.cells) _ (fun V hV => rangeAt_same (HU.out) ((show Below A.heap.size A V from hV).block _ (HL.out.2))) Tryd.underlying42 rfl (info49 HV.out.1)) hS0.out ?_
  simp only [Act.put, List.setIfInBounds_toArray, List.set_cons_zero, List.set_cons_succ]
  refine wpAnyH_ready (rs := [2]) (by kernel_rfl) (by simp) (AllReadyH.cons (i := 2) (o := o26_2) rfl ?_ AllReadyH.nil)
  · intro K1 hK1
    dsimp only [o26_2]
    rw [if_pos (by rfl)]
    have HC1 := H52.out V0 hS0.out
    go_wp2_with fail
    refine HC1.mono ?_
    rintro e V1 ⟨rfl, hb1⟩
    dsimp only
    clear HC1
    have hS1 : Hid (Below A.heap.size A V1) := hS0.out.trans (hb1.mono hS0.out.size)
    clear hb1
    refine hK1.out _ _ hS1.out ?_
    clear hK1
    intro _
    try simp only [Act.put, List.setIfInBounds_toArray, List.set_cons_zero, List.set_cons_succ]
    refine wpAnyH_take (i := 3) (oi := o26_3) (v := .bool false) rfl (by kernel_rfl) (by kernel_rfl) (by kernel_rfl) (fun _ _ _ h => h.elim) (Or.inl ⟨by rfl, ?y2⟩) hS1.out ?_
    case y2 =>
      intro V hV
      exact yl_eqV V _ _ o.up vTop HV.out.1 vTop_ok false HUT.out rfl rfl rfl
    simp only [Act.put, List.setIfInBounds_toArray, List.set_cons_zero, List.set_cons_succ]
    refine wpAnyH_take (i := 4) (oi := o26_4) (v := .bool false) rfl (by kernel_rfl) (by kernel_rfl) (by kernel_rfl) (fun _ _ _ h => h.elim) (Or.inl ⟨by rfl, ?y3⟩) hS1.out ?_
    case y3 =>
      intro V hV
      dsimp only [o26_4]
      go_simp
    simp only [Act.put, List.setIfInBounds_toArray, List.set_cons_zero, List.set_cons_succ]
    refine wpAnyH_take (i := 5) (oi := o26_5) (v := .agg p.cells.toArray) rfl (by kernel_rfl) (by kernel_rfl) (by kernel_rfl) (fun _ _ _ h => h.elim) (yieldsIf_load_mid (by rfl) _ _ rfl _ _ rfl (p.cells) _ (fun V hV => rangeAt_same (HR.out) ((show Below A.heap.size A V from hV).block _ (HL.out.1))) Tryd.underlying25 rfl (info25 p)) hS1.out ?_
    simp only [Act.put, List.setIfInBounds_toArray, List.set_cons_zero, List.set_cons_succ]
    refine wpAnyH_take (i := 6) (oi := o26_6) (v := .pointer (some ⟨d3, 2, none⟩)) rfl (by kernel_rfl) (by kernel_rfl) (by kernel_rfl) (fun _ _ _ h => h.elim) (Or.inl ⟨by rfl, ?y4⟩) hS1.out ?_
    case y4 =>
      intro V hV
      dsimp only [o26_6]
      go_simp
    simp only [Act.put, List.setIfInBounds_toArray, List.set_cons_zero, List.set_cons_succ]
    refine wpAnyH_take (i := 7) (oi := o26_7) (v := .agg o.up.cells.toArray) rfl (by kernel_rfl) (by kernel_rfl) (by kernel_rfl) (fun _ _ _ h => h.elim) (yieldsIf_load_mid (by rfl) _ _ rfl _ _ rfl (o.up.cells) _ (fun V hV => rangeAt_same (HU.out) ((show Below A.heap.size A V from hV).block _ (HL.out.2))) Tryd.underlying42 rfl (info49 HV.out.1)) hS1.out ?_
    simp only [Act.put, List.setIfInBounds_toArray, List.set_cons_zero, List.set_cons_succ]
    refine wpAnyH_ready (rs := [8]) (by kernel_rfl) (by simp) (AllReadyH.cons (i := 8) (o := o26_8) rfl ?_ AllReadyH.nil)
    · intro K1 hK1
      dsimp only [o26_8]
      rw [if_pos (by rfl)]
      have HC2 := H51u.out V1 hS1.out
      go_wp2_with fail
      refine HC2.mono ?_
      rintro e V2 ⟨rfl, hb2⟩
      dsimp only
      clear HC2
      have hS2 : Hid (Below A.heap.size A V2) := hS1.out.trans (hb2.mono hS1.out.size)
      clear hb2
      refine hK1.out _ _ hS2.out ?_
      clear hK1
      intro _
      try simp only [Act.put, List.setIfInBounds_toArray, List.set_cons_zero, List.set_cons_succ]
      refine wpAnyH_take (i := 9) (oi := o26_9) (v := .bool true) rfl (by kernel_rfl) (by kernel_rfl) (by kernel_rfl) (fun _ _ _ h => h.elim) (Or.inl ⟨by rfl, ?y5⟩) hS2.out ?_
      case y5 =>
        intro V hV
        dsimp only [o26_9]
        go_simp
      simp only [Act.put, List.setIfInBounds_toArray, List.set_cons_zero, List.set_cons_succ]
      refine wpAnyH_take (i := 10) (oi := o26_10) (v := .bool true) rfl (by kernel_rfl) (by kernel_rfl) (by kernel_rfl) (fun _ _ _ h => h.elim) (Or.inl ⟨by rfl, ?y6⟩) hS2.out ?_
      case y6 =>
        intro V hV
        dsimp only [o26_10]
        go_simp
      simp only [Act.put, List.setIfInBounds_toArray, List.set_cons_zero, List.set_cons_succ]
      refine wpAnyH_take (i := 11) (oi := o26_11) (v := .pointer (some ⟨d3, 35, none⟩)) rfl (by kernel_rfl) (by kernel_rfl) (by kernel_rfl) (fun _ _ _ h => h.elim) (Or.inl ⟨by rfl, ?y7⟩) hS2.out ?_
      case y7 =>
        intro V hV
        dsimp only [o26_11]
        go_simp
      simp only [Act.put, List.setIfInBounds_toArray, List.set_cons_zero, List.set_cons_succ]
      refine wpAnyH_take (i := 12) (oi := o26_12) (v := .agg o.dn.cells.toArray) rfl (by kernel_rfl) (by kernel_rfl) (by kernel_rfl) (fun _ _ _ h => h.elim) (yieldsIf_load_mid (by rfl) _ _ rfl _ _ rfl (o.dn.cells) _ (fun V hV => rangeAt_same (HDn.out) ((show Below A.heap.size A V from hV).block _ (HL.out.2))) Tryd.underlying42 rfl (info49 HV.out.2)) hS2.out ?_
      simp only [Act.put, List.setIfInBounds_toArray, List.set_cons_zero, List.set_cons_succ]
      refine wpAnyH_ready (rs := [13]) (by kernel_rfl) (by simp) (AllReadyH.cons (i := 13) (o := o26_13) rfl ?_ AllReadyH.nil)
      · intro K1 hK1
        dsimp only [o26_13]
        rw [if_pos (by rfl)]
        have HC3 := H53.out V2 hS2.out
        go_wp2_with fail
        refine HC3.mono ?_
        rintro e V3 ⟨rfl, hb3⟩
        dsimp only
        clear HC3
        have hS3 : Hid (Below A.heap.size A V3) := hS2.out.trans (hb3.mono hS2.out.size)
        clear hb3
        refine hK1.out _ _ hS3.out ?_
        clear hK1
        intro _
        try simp only [Act.put, List.setIfInBounds_toArray, List.set_cons_zero, List.set_cons_succ]
        refine wpAnyH_take (i := 14) (oi := o26_14) (v := .bool false) rfl (by kernel_rfl) (by kernel_rfl) (by kernel_rfl) (fun _ _ _ h => h.elim) (Or.inl ⟨by rfl, ?y8⟩) hS3.out ?_
        case y8 =>
          intro V hV
          exact yl_eqV V _ _ o.dn vBot HV.out.2 vBot_ok false HDB.out rfl rfl rfl
        simp only [Act.put, List.setIfInBounds_toArray, List.set_cons_zero, List.set_cons_succ]
        refine wpAnyH_take (i := 15) (oi := o26_15) (v := .bool false) rfl (by kernel_rfl) (by kernel_rfl) (by kernel_rfl) (fun _ _ _ h => h.elim) (Or.inl ⟨by rfl, ?y9⟩) hS3.out ?_
        case y9 =>
          intro V hV
          dsimp only [o26_15]
          go_simp
        simp only [Act.put, List.setIfInBounds_toArray, List.set_cons_zero, List.set_cons_succ]
        refine wpAnyH_take (i := 16) (oi := o26_16) (v := .agg p.cells.toArray) rfl (by kernel_rfl) (by kernel_rfl) (by kernel_rfl) (fun _ _ _ h => h.elim) (yieldsIf_load_mid (by rfl) _ _ rfl _ _ rfl (p.cells) _ (fun V hV => rangeAt_same (HR.out) ((show Below A.heap.size A V from hV).block _ (HL.out.1))) Tryd.underlying25 rfl (info25 p)) hS3.out ?_
        simp only [Act.put, List.setIfInBounds_toArray, List.set_cons_zero, List.set_cons_succ]
        refine wpAnyH_take (i := 17) (oi := o26_17) (v := .pointer (some ⟨d3, 35, none⟩)) rfl (by kernel_rfl) (by kernel_rfl) (by kernel_rfl) (fun _ _ _ h => h.elim) (Or.inl ⟨by rfl, ?y10⟩) hS3.out ?_
        case y10 =>
          intro V hV
          dsimp only [o26_17]
          go_simp
        simp only [Act.put, List.setIfInBounds_toArray, List.set_cons_zero, List.set_cons_succ]
        refine wpAnyH_take (i := 18) (oi := o26_18) (v := .agg o.dn.cells.toArray) rfl (by kernel_rfl) (by kernel_rfl) (by kernel_rfl) (fun _ _ _ h => h.elim) (yieldsIf_load_mid (by rfl) _ _ rfl _ _ rfl (o.dn.cells) _ (fun V hV => rangeAt_same (HDn.out) ((show Below A.heap.size A V from hV).block _ (HL.out.2))) Tryd.underlying42 rfl (info49 HV.out.2)) hS3.out ?_
        simp only [Act.put, List.setIfInBounds_toArray, List.set_cons_zero, List.set_cons_succ]
        refine wpAnyH_ready (rs := [19]) (by kernel_rfl) (by simp) (AllReadyH.cons (i := 19) (o := o26_19) rfl ?_ AllReadyH.nil)
        · intro K1 hK1
          dsimp only [o26_19]
          rw [if_pos (by rfl)]
          have HC4 := H51d.out V3 hS3.out
          go_wp2_with fail
          refine HC4.mono ?_
          rintro e V4 ⟨rfl, hb4⟩
          dsimp only
          clear HC4
          have hS4 : Hid (Below A.heap.size A V4) := hS3.out.trans (hb4.mono hS3.out.size)
          clear hb4
          refine hK1.out _ _ hS4.out ?_
          clear hK1
          intro _
          try simp only [Act.put, List.setIfInBounds_toArray, List.set_cons_zero, List.set_cons_succ]
          refine wpAnyH_take (i := 20) (oi := o26_20) (v := .bool true) rfl (by kernel_rfl) (by kernel_rfl) (by kernel_rfl) (fun _ _ _ h => h.elim) (Or.inl ⟨by rfl, ?y11⟩) hS4.out ?_
          case y11 =>
            intro V hV
            dsimp only [o26_20]
            go_simp
          simp only [Act.put, List.setIfInBounds_toArray, List.set_cons_zero, List.set_cons_succ]
          refine wpAnyH_take (i := 21) (oi := o26_21) (v := .bool true) rfl (by kernel_rfl) (by kernel_rfl) (by kernel_rfl) (fun _ _ _ h => h.elim) (Or.inl ⟨by rfl, ?y12⟩) hS4.out ?_
          case y12 =>
            intro V hV
            dsimp only [o26_21]
            go_simp
          simp only [Act.put, List.setIfInBounds_toArray, List.set_cons_zero, List.set_cons_succ]
          refine wpAnyH_take (i := 22) (oi := o26_22) (v := .bool true) rfl (by kernel_rfl) (by kernel_rfl) (by kernel_rfl) (fun _ _ _ h => h.elim) (Or.inl ⟨by rfl, ?y13⟩) hS4.out ?_
          case y13 =>
            intro V hV
            dsimp only [o26_22]
            go_simp
          simp only [Act.put, List.setIfInBounds_toArray, List.set_cons_zero, List.set_cons_succ]
          refine wpAnyH_done (by kernel_rfl) ?_ _
          exact hQ V4 hS4.out
set_option maxRecDepth 100000 in
set_option maxHeartbeats 4000000 in
theorem ro5 {Q : Exit → Act → World → Prop} {x0 x1 x4 x5 x6 x7 x8 x9 x10 x11 x12 x13 x14 x15 x16 x17 x18 x19 x20 x21 x22 x23 x24 x25 x26 x27 x28 x29 x30 x31 x32 x33 x34 x35 x36 x37 x38 x39 x40 x41 x42 x43 x44 x45 x46 x47 x48 x49 x50 x51 x52 x53 x54 x55 x56 x57 x58 x59 x60 x61 x62 x63 x64 x65 x66 x67 x68 x69 x70 x71 x72 x73 x74 x75 x76 x77 x78 x79 x80 x81 x82 x83 x84 x85 x86 x87 x88 x89 x90 x91 x92 x93 x94 x95 x96 x97 x98 x99 : Value} {ds : List Deferred} {A : World} {d2 d3 : Nat} {p : PV} {o : OpV}
    (HL : Hid (d2 < A.heap.size ∧ d3 < A.heap.size)) (HR : Hid (A.rangeAt d2 0 p.cells)) (HU : Hid (A.rangeAt d3 2 o.up.cells)) (HDn : Hid (A.rangeAt d3 35 o.dn.cells)) (HV : Hid (o.up.ok ∧ o.dn.ok)) (H52 : Hid (∀ V, Below A.heap.size A V → Calls Tryd.prog 48 #[] V fun e V2 => e = .returned (.agg vTop.cells.toArray) ∧ Below V.heap.size V V2)) (H53 : Hid (∀ V, Below A.heap.size A V → Calls Tryd.prog 49 #[] V fun e V2 => e = .returned (.agg vBot.cells.toArray) ∧ Below V.heap.size V V2)) (HUT : Hid (eqVx o.up vTop = false)) (H51u : Hid (∀ V, Below A.heap.size A V → Calls Tryd.prog 47 #[.agg p.cells.toArray, .agg o.up.cells.toArray] V fun e V2 => e = .returned (.bool true) ∧ Below V.heap.size V V2)) (HDB : Hid (eqVx o.dn vBot = false)) (H51d : Hid (∀ V, Below A.heap.size A V → Calls Tryd.prog 47 #[.agg p.cells.toArray, .agg o.dn.cells.toArray] V fun e V2 => e = .returned (.bool false) ∧ Below V.heap.size V V2))
    (hQ : ∀ V1, Below A.heap.size A V1 → Q .normal { tmps := #[x0, x1, .pointer (some ⟨d2, 0, none⟩), .pointer (some ⟨d3, 0, none⟩), .bool false, x5, x6, x7, x8, x9, x10, x11, x12, x13, x14, x15, x16, x17, x18, x19, x20, x21, x22, x23, x24, x25, x26, x27, x28, x29, x30, x31, x32, x33, x34, x35, x36, x37, x38, x39, x40, x41, x42, x43, x44, x45, x46, x47, x48, x49, x50, x51, x52, x53, x54, x55, x56, x57, x58, x59, x60, x61, x62, x63, x64, x65, x66, x67, x68, x69, x70, x71, x72, x73, x74, x75, x76, x77, .pointer (some ⟨d3, 2, none⟩), .agg o.up.cells.toArray, .agg vTop.cells.toArray, .bool false, .bool false, .agg p.cells.toArray, .pointer (some ⟨d3, 2, none⟩), .agg o.up.cells.toArray, .bool true, .bool true, .bool true, .pointer (some ⟨d3, 35, none⟩), .agg o.dn.cells.toArray, .agg vBot.cells.toArray, .bool false, .bool false, .agg p.cells.toArray, .pointer (some ⟨d3, 35, none⟩), .agg o.dn.cells.toArray, .bool false, .bool false, .bool false], defers := ds } V1) :
    (Code.region 17 #[o26_0, o26_1, o26_2, o26_3, o26_4, o26_5, o26_6, o26_7, o26_8, o26_9, o26_10, o26_11, o26_12, o26_13, o26_14, o26_15, o26_16, o26_17, o26_18, o26_19, o26_20, o26_21, o26_22] true).wp Tryd.prog Q { tmps := #[x0, x1, .pointer (some ⟨d2, 0, none⟩), .pointer (some ⟨d3, 0, none⟩), x4, x5, x6, x7, x8, x9, x10, x11, x12, x13, x14, x15, x16, x17, x18, x19, x20, x21, x22, x23, x24, x25, x26, x27, x28, x29, x30, x31, x32, x33, x34, x35, x36, x37, x38, x39, x40, x41, x42, x43, x44, x45, x46, x47, x48, x49, x50, x51, x52, x53, x54, x55, x56, x57, x58, x59, x60, x61, x62, x63, x64, x65, x66, x67, x68, x69, x70, x71, x72, x73, x74, x75, x76, x77, x78, x79, x80, x81, x82, x83, x84, x85, x86, x87, x88, x89, x90, x91, x92, x93, x94, x95, x96, x97, x98, x99], defers := ds } A := by
  refine Code.wp_mono (Q := fun x a' w' => match x with | .normal => Q .normal a' w' | _ => False) (by intro x a' w' h; cases x <;> first | exact h | exact h.elim) ?_
  refine wp_region_held (S := fun V => Below A.heap.size A V) (by kernel_rfl) ?_
  have hS0 : Hid (Below A.heap.size A A.drew) := below_drew0 A
  change wpAnyH Tryd.prog .any _ _ (fun V => Below A.heap.size A V) 23 (Array.replicate 23 false) _ A.drew
  obtain ⟨V0, hV0⟩ : ∃ V0, A.drew = V0 := ⟨_, rfl⟩
  rw [hV0]
  rw [hV0] at hS0
  clear hV0
  refine wpAnyH_take (i := 0) (oi := o26_0) (v := .pointer (some ⟨d3, 2, none⟩)) rfl (by kernel_rfl) (by kernel_rfl) (by kernel_rfl) (fun _ _ _ h => h.elim) (Or.inl ⟨by rfl, ?y1⟩) hS0.out ?_
  case y1 =>
    intro V hV
    dsimp only [o26_0]
    go_simp
  simp only [Act.put, List.setIfInBounds_toArray, List.set_cons_zero, List.set_cons_succ]
  refine wpAnyH_take (i := 1) (oi := o26_1) (v := .agg o.up.cells.toArray) rfl (by kernel_rfl) (by kernel_rfl) (by kernel_rfl) (fun _ _ _ h => h.elim) (yieldsIf_load_mid (by rfl) _ _ rfl _ _ rfl (o.up.cells) _ (fun V hV => rangeAt_same (HU.out) ((show Below A.heap.size A V from hV).block _ (HL.out.2))) Tryd.underlying42 rfl (info49 HV.out.1)) hS0.out ?_
  simp only [Act.put, List.setIfInBounds_toArray, List.set_cons_zero, List.set_cons_succ]
  refine wpAnyH_ready (rs := [2]) (by kernel_rfl) (by simp) (AllReadyH.cons (i := 2) (o := o26_2) rfl ?_ AllReadyH.nil)
  · intro K1 hK1
    dsimp only [o26_2]
    rw [if_pos (by rfl)]
    have HC1 := H52.out V0 hS0.out
    go_wp2_with fail
    refine HC1.mono ?_
    rintro e V1 ⟨rfl, hb1⟩
    dsimp only
    clear HC1
    have hS1 : Hid (Below A.heap.size A V1) := hS0.out.trans (hb1.mono hS0.out.size)
    clear hb1
    refine hK1.out _ _ hS1.out ?_
    clear hK1
    intro _
    try simp only [Act.put, List.setIfInBounds_toArray, List.set_cons_zero, List.set_cons_succ]
    refine wpAnyH_take (i := 3) (oi := o26_3) (v := .bool false) rfl (by kernel_rfl) (by kernel_rfl) (by kernel_rfl) (fun _ _ _ h => h.elim) (Or.inl ⟨by rfl, ?y2⟩) hS1.out ?_
    case y2 =>
      intro V hV
      exact yl_eqV V _ _ o.up vTop HV.out.1 vTop_ok false HUT.out rfl rfl rfl
    simp only [Act.put, List.setIfInBounds_toArray, List.set_cons_zero, List.set_cons_succ]
    refine wpAnyH_take (i := 4) (oi := o26_4) (v := .bool false) rfl (by kernel_rfl) (by kernel_rfl) (by kernel_rfl) (fun _ _ _ h => h.elim) (Or.inl ⟨by rfl, ?y3⟩) hS1.out ?_
    case y3 =>
      intro V hV
      dsimp only [o26_4]
      go_simp
    simp only [Act.put, List.setIfInBounds_toArray, List.set_cons_zero, List.set_cons_succ]
    refine wpAnyH_take (i := 5) (oi := o26_5) (v := .agg p.cells.toArray) rfl (by kernel_rfl) (by kernel_rfl) (by kernel_rfl) (fun _ _ _ h => h.elim) (yieldsIf_load_mid (by rfl) _ _ rfl _ _ rfl (p.cells) _ (fun V hV => rangeAt_same (HR.out) ((show Below A.heap.size A V from hV).block _ (HL.out.1))) Tryd.underlying25 rfl (info25 p)) hS1.out ?_
    simp only [Act.put, List.setIfInBounds_toArray, List.set_cons_zero, List.set_cons_succ]
    refine wpAnyH_take (i := 6) (oi := o26_6) (v := .pointer (some ⟨d3, 2, none⟩)) rfl (by kernel_rfl) (by kernel_rfl) (by kernel_rfl) (fun _ _ _ h => h.elim) (Or.inl ⟨by rfl, ?y4⟩) hS1.out ?_
    case y4 =>
      intro V hV
      dsimp only [o26_6]
      go_simp
    simp only [Act.put, List.setIfInBounds_toArray, List.set_cons_zero, List.set_cons_succ]
    refine wpAnyH_take (i := 7) (oi := o26_7) (v := .agg o.up.cells.toArray) rfl (by kernel_rfl) (by kernel_rfl) (by kernel_rfl) (fun _ _ _ h => h.elim) (yieldsIf_load_mid (by rfl) _ _ rfl _ _ rfl (o.up.cells) _ (fun V hV => rangeAt_same (HU.out) ((show Below A.heap.size A V from hV).block _ (HL.out.2))) Tryd.underlying42 rfl (info49 HV.out.1)) hS1.out ?_
    simp only [Act.put, List.setIfInBounds_toArray, List.set_cons_zero, List.set_cons_succ]
    refine wpAnyH_ready (rs := [8]) (by kernel_rfl) (by simp) (AllReadyH.cons (i := 8) (o := o26_8) rfl ?_ AllReadyH.nil)
    · intro K1 hK1
      dsimp only [o26_8]
      rw [if_pos (by rfl)]
      have HC2 := H51u.out V1 hS1.out
      go_wp2_with fail
      refine HC2.mono ?_
      rintro e V2 ⟨rfl, hb2⟩
      dsimp only
      clear HC2
      have hS2 : Hid (Below A.heap.size A V2) := hS1.out.trans (hb2.mono hS1.out.size)
      clear hb2
      refine hK1.out _ _ hS2.out ?_
      clear hK1
      intro _
      try simp only [Act.put, List.setIfInBounds_toArray, List.set_cons_zero, List.set_cons_succ]
      refine wpAnyH_take (i := 9) (oi := o26_9) (v := .bool true) rfl (by kernel_rfl) (by kernel_rfl) (by kernel_rfl) (fun _ _ _ h => h.elim) (Or.inl ⟨by rfl, ?y5⟩) hS2.out ?_
      case y5 =>
        intro V hV
        dsimp only [o26_9]
        go_simp
      simp only [Act.put, List.setIfInBounds_toArray, List.set_cons_zero, List.set_cons_succ]
      refine wpAnyH_take (i := 10) (oi := o26_10) (v := .bool true) rfl (by kernel_rfl) (by kernel_rfl) (by kernel_rfl) (fun _ _ _ h => h.elim) (Or.inl ⟨by rfl, ?y6⟩) hS2.out ?_
      case y6 =>
        intro V hV
        dsimp only [o26_10]
        go_simp
      simp only [Act.put, List.setIfInBounds_toArray, List.set_cons_zero, List.set_cons_succ]
      refine wpAnyH_take (i := 11) (oi := o26_11) (v := .pointer (some ⟨d3, 35, none⟩)) rfl (by kernel_rfl) (by kernel_rfl) (by kernel_rfl) (fun _ _ _ h => h.elim) (Or.inl ⟨by rfl, ?y7⟩) hS2.out ?_
      case y7 =>
        intro V hV
        dsimp only [o26_11]
        go_simp
      simp only [Act.put, List.setIfInBounds_toArray, List.set_cons_zero, List.set_cons_succ]
      refine wpAnyH_take (i := 12) (oi := o26_12) (v := .agg o.dn.cells.toArray) rfl (by kernel_rfl) (by kernel_rfl) (by kernel_rfl) (fun _ _ _ h => h.elim) (yieldsIf_load_mid (by rfl) _ _ rfl _ _ rfl (o.dn.cells) _ (fun V hV => rangeAt_same (HDn.out) ((show Below A.heap.size A V from hV).block _ (HL.out.2))) Tryd.underlying42 rfl (info49 HV.out.2)) hS2.out ?_
      simp only [Act.put, List.setIfInBounds_toArray, List.set_cons_zero, List.set_cons_succ]
      refine wpAnyH_ready (rs := [13]) (by kernel_rfl) (by simp) (AllReadyH.cons (i := 13) (o := o26_13) rfl ?_ AllReadyH.nil)
      · intro K1 hK1
        dsimp only [o26_13]
        rw [if_pos (by rfl)]
        have HC3 := H53.out V2 hS2.out
        go_wp2_with fail
        refine HC3.mono ?_
        rintro e V3 ⟨rfl, hb3⟩
        dsimp only
        clear HC3
        have hS3 : Hid (Below A.heap.size A V3) := hS2.out.trans (hb3.mono hS2.out.size)
        clear hb3
        refine hK1.out _ _ hS3.out ?_
        clear hK1
        intro _
        try simp only [Act.put, List.setIfInBounds_toArray, List.set_cons_zero, List.set_cons_succ]
        refine wpAnyH_take (i := 14) (oi := o26_14) (v := .bool false) rfl (by kernel_rfl) (by kernel_rfl) (by kernel_rfl) (fun _ _ _ h => h.elim) (Or.inl ⟨by rfl, ?y8⟩) hS3.out ?_
        case y8 =>
          intro V hV
          exact yl_eqV V _ _ o.dn vBot HV.out.2 vBot_ok false HDB.out rfl rfl rfl
        simp only [Act.put, List.setIfInBounds_toArray, List.set_cons_zero, List.set_cons_succ]
        refine wpAnyH_take (i := 15) (oi := o26_15) (v := .bool false) rfl (by kernel_rfl) (by kernel_rfl) (by kernel_rfl) (fun _ _ _ h => h.elim) (Or.inl ⟨by rfl, ?y9⟩) hS3.out ?_
        case y9 =>
          intro V hV
          dsimp only [o26_15]
          go_simp
        simp only [Act.put, List.setIfInBounds_toArray, List.set_cons_zero, List.set_cons_succ]
        refine wpAnyH_take (i := 16) (oi := o26_16) (v := .agg p.cells.toArray) rfl (by kernel_rfl) (by kernel_rfl) (by kernel_rfl) (fun _ _ _ h => h.elim) (yieldsIf_load_mid (by rfl) _ _ rfl _ _ rfl (p.cells) _ (fun V hV => rangeAt_same (HR.out) ((show Below A.heap.size A V from hV).block _ (HL.out.1))) Tryd.underlying25 rfl (info25 p)) hS3.out ?_
        simp only [Act.put, List.setIfInBounds_toArray, List.set_cons_zero, List.set_cons_succ]
        refine wpAnyH_take (i := 17) (oi := o26_17) (v := .pointer (some ⟨d3, 35, none⟩)) rfl (by kernel_rfl) (by kernel_rfl) (by kernel_rfl) (fun _ _ _ h => h.elim) (Or.inl ⟨by rfl, ?y10⟩) hS3.out ?_
        case y10 =>
          intro V hV
          dsimp only [o26_17]
          go_simp
        simp only [Act.put, List.setIfInBounds_toArray, List.set_cons_zero, List.set_cons_succ]
        refine wpAnyH_take (i := 18) (oi := o26_18) (v := .agg o.dn.cells.toArray) rfl (by kernel_rfl) (by kernel_rfl) (by kernel_rfl) (fun _ _ _ h => h.elim) (yieldsIf_load_mid (by rfl) _ _ rfl _ _ rfl (o.dn.cells) _ (fun V hV => rangeAt_same (HDn.out) ((show Below A.heap.size A V from hV).block _ (HL.out.2))) Tryd.underlying42 rfl (info49 HV.out.2)) hS3.out ?_
        simp only [Act.put, List.setIfInBounds_toArray, List.set_cons_zero, List.set_cons_succ]
        refine wpAnyH_ready (rs := [19]) (by kernel_rfl) (by simp) (AllReadyH.cons (i := 19) (o := o26_19) rfl ?_ AllReadyH.nil)
        · intro K1 hK1
          dsimp only [o26_19]
          rw [if_pos (by rfl)]
          have HC4 := H51d.out V3 hS3.out
          go_wp2_with fail
          refine HC4.mono ?_
          rintro e V4 ⟨rfl, hb4⟩
          dsimp only
          clear HC4
          have hS4 : Hid (Below A.heap.size A V4) := hS3.out.trans (hb4.mono hS3.out.size)
          clear hb4
          refine hK1.out _ _ hS4.out ?_
          clear hK1
          intro _
          try simp only [Act.put, List.setIfInBounds_toArray, List.set_cons_zero, List.set_cons_succ]
          refine wpAnyH_take (i := 20) (oi := o26_20) (v := .bool false) rfl (by kernel_rfl) (by kernel_rfl) (by kernel_rfl) (fun _ _ _ h => h.elim) (Or.inl ⟨by rfl, ?y11⟩) hS4.out ?_
          case y11 =>
            intro V hV
            dsimp only [o26_20]
            go_simp
          simp only [Act.put, List.setIfInBounds_toArray, List.set_cons_zero, List.set_cons_succ]
          refine wpAnyH_take (i := 21) (oi := o26_21) (v := .bool false) rfl (by kernel_rfl) (by kernel_rfl) (by kernel_rfl) (fun _ _ _ h => h.elim) (Or.inl ⟨by rfl, ?y12⟩) hS4.out ?_
          case y12 =>
            intro V hV
            dsimp only [o26_21]
            go_simp
          simp only [Act.put, List.setIfInBounds_toArray, List.set_cons_zero, List.set_cons_succ]
          refine wpAnyH_take (i := 22) (oi := o26_22) (v := .bool false) rfl (by kernel_rfl) (by kernel_rfl) (by kernel_rfl) (fun _ _ _ h => h.elim) (Or.inl ⟨by rfl, ?y13⟩) hS4.out ?_
          case y13 =>
            intro V hV
            dsimp only [o26_22]
            go_simp
          simp only [Act.put, List.setIfInBounds_toArray, List.set_cons_zero, List.set_cons_succ]
          refine wpAnyH_done (by kernel_rfl) ?_ _
          exact hQ V4 hS4.out
set_option maxRecDepth 100000 in
set_option maxHeartbeats 4000000 in
theorem ro6 {Q : Exit → Act → World → Prop} {x0 x1 x4 x5 x6 x7 x8 x9 x10 x11 x12 x13 x14 x15 x16 x17 x18 x19 x20 x21 x22 x23 x24 x25 x26 x27 x28 x29 x30 x31 x32 x33 x34 x35 x36 x37 x38 x39 x40 x41 x42 x43 x44 x45 x46 x47 x48 x49 x50 x51 x52 x53 x54 x55 x56 x57 x58 x59 x60 x61 x62 x63 x64 x65 x66 x67 x68 x69 x70 x71 x72 x73 x74 x75 x76 x77 x78 x79 x80 x81 x82 x83 x84 x85 x86 x87 x88 x89 x90 x91 x92 x93 x94 x95 x96 x97 x98 x99 : Value} {ds : List Deferred} {A : World} {d2 d3 : Nat} {p : PV} {o : OpV} {dB DL : Bool}
    (HL : Hid (d2 < A.heap.size ∧ d3 < A.heap.size)) (HR : Hid (A.rangeAt d2 0 p.cells)) (HU : Hid (A.rangeAt d3 2 o.up.cells)) (HDn : Hid (A.rangeAt d3 35 o.dn.cells)) (HV : Hid (o.up.ok ∧ o.dn.ok)) (H52 : Hid (∀ V, Below A.heap.size A V → Calls Tryd.prog 48 #[] V fun e V2 => e = .returned (.agg vTop.cells.toArray) ∧ Below V.heap.size V V2)) (H53 : Hid (∀ V, Below A.heap.size A V → Calls Tryd.prog 49 #[] V fun e V2 => e = .returned (.agg vBot.cells.toArray) ∧ Below V.heap.size V V2)) (HUT : Hid (eqVx o.up vTop = false)) (H51u : Hid (∀ V, Below A.heap.size A V → Calls Tryd.prog 47 #[.agg p.cells.toArray, .agg o.up.cells.toArray] V fun e V2 => e = .returned (.bool false) ∧ Below V.heap.size V V2)) (HDB : Hid (eqVx o.dn vBot = dB)) (H51d : Hid (∀ V, Below A.heap.size A V → Calls Tryd.prog 47 #[.agg p.cells.toArray, .agg o.dn.cells.toArray] V fun e V2 => e = .returned (.bool DL) ∧ Below V.heap.size V V2))
    (hQ : ∀ V1, Below A.heap.size A V1 → Q .normal { tmps := #[x0, x1, .pointer (some ⟨d2, 0, none⟩), .pointer (some ⟨d3, 0, none⟩), .bool false, x5, x6, x7, x8, x9, x10, x11, x12, x13, x14, x15, x16, x17, x18, x19, x20, x21, x22, x23, x24, x25, x26, x27, x28, x29, x30, x31, x32, x33, x34, x35, x36, x37, x38, x39, x40, x41, x42, x43, x44, x45, x46, x47, x48, x49, x50, x51, x52, x53, x54, x55, x56, x57, x58, x59, x60, x61, x62, x63, x64, x65, x66, x67, x68, x69, x70, x71, x72, x73, x74, x75, x76, x77, .pointer (some ⟨d3, 2, none⟩), .agg o.up.cells.toArray, .agg vTop.cells.toArray, .bool false, .bool false, .agg p.cells.toArray, .pointer (some ⟨d3, 2, none⟩), .agg o.up.cells.toArray, .bool false, .bool false, .bool false, undef, undef, undef, undef, undef, undef, undef, undef, undef, undef, .bool false], defers := ds } V1) :
    (Code.region 17 #[o26_0, o26_1, o26_2, o26_3, o26_4, o26_5, o26_6, o26_7, o26_8, o26_9, o26_10, o26_11, o26_12, o26_13, o26_14, o26_15, o26_16, o26_17, o26_18, o26_19, o26_20, o26_21, o26_22] true).wp Tryd.prog Q { tmps := #[x0, x1, .pointer (some ⟨d2, 0, none⟩), .pointer (some ⟨d3, 0, none⟩), x4, x5, x6, x7, x8, x9, x10, x11, x12, x13, x14, x15, x16, x17, x18, x19, x20, x21, x22, x23, x24, x25, x26, x27, x28, x29, x30, x31, x32, x33, x34, x35, x36, x37, x38, x39, x40, x41, x42, x43, x44, x45, x46, x47, x48, x49, x50, x51, x52, x53, x54, x55, x56, x57, x58, x59, x60, x61, x62, x63, x64, x65, x66, x67, x68, x69, x70, x71, x72, x73, x74, x75, x76, x77, x78, x79, x80, x81, x82, x83, x84, x85, x86, x87, x88, x89, x90, x91, x92, x93, x94, x95, x96, x97, x98, x99], defers := ds } A := by
  refine Code.wp_mono (Q := fun x a' w' => match x with | .normal => Q .normal a' w' | _ => False) (by intro x a' w' h; cases x <;> first | exact h | exact h.elim) ?_
  refine wp_region_held (S := fun V => Below A.heap.size A V) (by kernel_rfl) ?_
  have hS0 : Hid (Below A.heap.size A A.drew) := below_drew0 A
  change wpAnyH Tryd.prog .any _ _ (fun V => Below A.heap.size A V) 23 (Array.replicate 23 false) _ A.drew
  obtain ⟨V0, hV0⟩ : ∃ V0, A.drew = V0 := ⟨_, rfl⟩
  rw [hV0]
  rw [hV0] at hS0
  clear hV0
  refine wpAnyH_take (i := 0) (oi := o26_0) (v := .pointer (some ⟨d3, 2, none⟩)) rfl (by kernel_rfl) (by kernel_rfl) (by kernel_rfl) (fun _ _ _ h => h.elim) (Or.inl ⟨by rfl, ?y1⟩) hS0.out ?_
  case y1 =>
    intro V hV
    dsimp only [o26_0]
    go_simp
  simp only [Act.put, List.setIfInBounds_toArray, List.set_cons_zero, List.set_cons_succ]
  refine wpAnyH_take (i := 1) (oi := o26_1) (v := .agg o.up.cells.toArray) rfl (by kernel_rfl) (by kernel_rfl) (by kernel_rfl) (fun _ _ _ h => h.elim) (yieldsIf_load_mid (by rfl) _ _ rfl _ _ rfl (o.up.cells) _ (fun V hV => rangeAt_same (HU.out) ((show Below A.heap.size A V from hV).block _ (HL.out.2))) Tryd.underlying42 rfl (info49 HV.out.1)) hS0.out ?_
  simp only [Act.put, List.setIfInBounds_toArray, List.set_cons_zero, List.set_cons_succ]
  refine wpAnyH_ready (rs := [2]) (by kernel_rfl) (by simp) (AllReadyH.cons (i := 2) (o := o26_2) rfl ?_ AllReadyH.nil)
  · intro K1 hK1
    dsimp only [o26_2]
    rw [if_pos (by rfl)]
    have HC1 := H52.out V0 hS0.out
    go_wp2_with fail
    refine HC1.mono ?_
    rintro e V1 ⟨rfl, hb1⟩
    dsimp only
    clear HC1
    have hS1 : Hid (Below A.heap.size A V1) := hS0.out.trans (hb1.mono hS0.out.size)
    clear hb1
    refine hK1.out _ _ hS1.out ?_
    clear hK1
    intro _
    try simp only [Act.put, List.setIfInBounds_toArray, List.set_cons_zero, List.set_cons_succ]
    refine wpAnyH_take (i := 3) (oi := o26_3) (v := .bool false) rfl (by kernel_rfl) (by kernel_rfl) (by kernel_rfl) (fun _ _ _ h => h.elim) (Or.inl ⟨by rfl, ?y2⟩) hS1.out ?_
    case y2 =>
      intro V hV
      exact yl_eqV V _ _ o.up vTop HV.out.1 vTop_ok false HUT.out rfl rfl rfl
    simp only [Act.put, List.setIfInBounds_toArray, List.set_cons_zero, List.set_cons_succ]
    refine wpAnyH_take (i := 4) (oi := o26_4) (v := .bool false) rfl (by kernel_rfl) (by kernel_rfl) (by kernel_rfl) (fun _ _ _ h => h.elim) (Or.inl ⟨by rfl, ?y3⟩) hS1.out ?_
    case y3 =>
      intro V hV
      dsimp only [o26_4]
      go_simp
    simp only [Act.put, List.setIfInBounds_toArray, List.set_cons_zero, List.set_cons_succ]
    refine wpAnyH_take (i := 5) (oi := o26_5) (v := .agg p.cells.toArray) rfl (by kernel_rfl) (by kernel_rfl) (by kernel_rfl) (fun _ _ _ h => h.elim) (yieldsIf_load_mid (by rfl) _ _ rfl _ _ rfl (p.cells) _ (fun V hV => rangeAt_same (HR.out) ((show Below A.heap.size A V from hV).block _ (HL.out.1))) Tryd.underlying25 rfl (info25 p)) hS1.out ?_
    simp only [Act.put, List.setIfInBounds_toArray, List.set_cons_zero, List.set_cons_succ]
    refine wpAnyH_take (i := 6) (oi := o26_6) (v := .pointer (some ⟨d3, 2, none⟩)) rfl (by kernel_rfl) (by kernel_rfl) (by kernel_rfl) (fun _ _ _ h => h.elim) (Or.inl ⟨by rfl, ?y4⟩) hS1.out ?_
    case y4 =>
      intro V hV
      dsimp only [o26_6]
      go_simp
    simp only [Act.put, List.setIfInBounds_toArray, List.set_cons_zero, List.set_cons_succ]
    refine wpAnyH_take (i := 7) (oi := o26_7) (v := .agg o.up.cells.toArray) rfl (by kernel_rfl) (by kernel_rfl) (by kernel_rfl) (fun _ _ _ h => h.elim) (yieldsIf_load_mid (by rfl) _ _ rfl _ _ rfl (o.up.cells) _ (fun V hV => rangeAt_same (HU.out) ((show Below A.heap.size A V from hV).block _ (HL.out.2))) Tryd.underlying42 rfl (info49 HV.out.1)) hS1.out ?_
    simp only [Act.put, List.setIfInBounds_toArray, List.set_cons_zero, List.set_cons_succ]
    refine wpAnyH_ready (rs := [8]) (by kernel_rfl) (by simp) (AllReadyH.cons (i := 8) (o := o26_8) rfl ?_ AllReadyH.nil)
    · intro K1 hK1
      dsimp only [o26_8]
      rw [if_pos (by rfl)]
      have HC2 := H51u.out V1 hS1.out
      go_wp2_with fail
      refine HC2.mono ?_
      rintro e V2 ⟨rfl, hb2⟩
      dsimp only
      clear HC2
      have hS2 : Hid (Below A.heap.size A V2) := hS1.out.trans (hb2.mono hS1.out.size)
      clear hb2
      refine hK1.out _ _ hS2.out ?_
      clear hK1
      intro _
      try simp only [Act.put, List.setIfInBounds_toArray, List.set_cons_zero, List.set_cons_succ]
      refine wpAnyH_take (i := 9) (oi := o26_9) (v := .bool false) rfl (by kernel_rfl) (by kernel_rfl) (by kernel_rfl) (fun _ _ _ h => h.elim) (Or.inl ⟨by rfl, ?y5⟩) hS2.out ?_
      case y5 =>
        intro V hV
        dsimp only [o26_9]
        go_simp
      simp only [Act.put, List.setIfInBounds_toArray, List.set_cons_zero, List.set_cons_succ]
      refine wpAnyH_take (i := 10) (oi := o26_10) (v := .bool false) rfl (by kernel_rfl) (by kernel_rfl) (by kernel_rfl) (fun _ _ _ h => h.elim) (Or.inl ⟨by rfl, ?y6⟩) hS2.out ?_
      case y6 =>
        intro V hV
        dsimp only [o26_10]
        go_simp
      simp only [Act.put, List.setIfInBounds_toArray, List.set_cons_zero, List.set_cons_succ]
      refine wpAnyH_take (i := 11) (oi := o26_11) (v := undef) rfl (by kernel_rfl) (by kernel_rfl) (by kernel_rfl) (fun _ _ _ h => h.elim) (Or.inr ⟨by rfl, rfl⟩) hS2.out ?_
      simp only [Act.put, List.setIfInBounds_toArray, List.set_cons_zero, List.set_cons_succ]
      refine wpAnyH_take (i := 12) (oi := o26_12) (v := undef) rfl (by kernel_rfl) (by kernel_rfl) (by kernel_rfl) (fun _ _ _ h => h.elim) (Or.inr ⟨by rfl, rfl⟩) hS2.out ?_
      simp only [Act.put, List.setIfInBounds_toArray, List.set_cons_zero, List.set_cons_succ]
      refine wpAnyH_take (i := 13) (oi := o26_13) (v := undef) rfl (by kernel_rfl) (by kernel_rfl) (by kernel_rfl) (fun _ _ _ h => h.elim) (Or.inr ⟨by rfl, rfl⟩) hS2.out ?_
      simp only [Act.put, List.setIfInBounds_toArray, List.set_cons_zero, List.set_cons_succ]
      refine wpAnyH_take (i := 14) (oi := o26_14) (v := undef) rfl (by kernel_rfl) (by kernel_rfl) (by kernel_rfl) (fun _ _ _ h => h.elim) (Or.inr ⟨by rfl, rfl⟩) hS2.out ?_
      simp only [Act.put, List.setIfInBounds_toArray, List.set_cons_zero, List.set_cons_succ]
      refine wpAnyH_take (i := 15) (oi := o26_15) (v := undef) rfl (by kernel_rfl) (by kernel_rfl) (by kernel_rfl) (fun _ _ _ h => h.elim) (Or.inr ⟨by rfl, rfl⟩) hS2.out ?_
      simp only [Act.put, List.setIfInBounds_toArray, List.set_cons_zero, List.set_cons_succ]
      refine wpAnyH_take (i := 16) (oi := o26_16) (v := undef) rfl (by kernel_rfl) (by kernel_rfl) (by kernel_rfl) (fun _ _ _ h => h.elim) (Or.inr ⟨by rfl, rfl⟩) hS2.out ?_
      simp only [Act.put, List.setIfInBounds_toArray, List.set_cons_zero, List.set_cons_succ]
      refine wpAnyH_take (i := 17) (oi := o26_17) (v := undef) rfl (by kernel_rfl) (by kernel_rfl) (by kernel_rfl) (fun _ _ _ h => h.elim) (Or.inr ⟨by rfl, rfl⟩) hS2.out ?_
      simp only [Act.put, List.setIfInBounds_toArray, List.set_cons_zero, List.set_cons_succ]
      refine wpAnyH_take (i := 18) (oi := o26_18) (v := undef) rfl (by kernel_rfl) (by kernel_rfl) (by kernel_rfl) (fun _ _ _ h => h.elim) (Or.inr ⟨by rfl, rfl⟩) hS2.out ?_
      simp only [Act.put, List.setIfInBounds_toArray, List.set_cons_zero, List.set_cons_succ]
      refine wpAnyH_take (i := 19) (oi := o26_19) (v := undef) rfl (by kernel_rfl) (by kernel_rfl) (by kernel_rfl) (fun _ _ _ h => h.elim) (Or.inr ⟨by rfl, rfl⟩) hS2.out ?_
      simp only [Act.put, List.setIfInBounds_toArray, List.set_cons_zero, List.set_cons_succ]
      refine wpAnyH_take (i := 20) (oi := o26_20) (v := undef) rfl (by kernel_rfl) (by kernel_rfl) (by kernel_rfl) (fun _ _ _ h => h.elim) (Or.inr ⟨by rfl, rfl⟩) hS2.out ?_
      simp only [Act.put, List.setIfInBounds_toArray, List.set_cons_zero, List.set_cons_succ]
      refine wpAnyH_take (i := 21) (oi := o26_21) (v := .bool false) rfl (by kernel_rfl) (by kernel_rfl) (by kernel_rfl) (fun _ _ _ h => h.elim) (Or.inl ⟨by rfl, ?y7⟩) hS2.out ?_
      case y7 =>
        intro V hV
        dsimp only [o26_21]
        go_simp
      simp only [Act.put, List.setIfInBounds_toArray, List.set_cons_zero, List.set_cons_succ]
      refine wpAnyH_take (i := 22) (oi := o26_22) (v := .bool false) rfl (by kernel_rfl) (by kernel_rfl) (by kernel_rfl) (fun _ _ _ h => h.elim) (Or.inl ⟨by rfl, ?y8⟩) hS2.out ?_
      case y8 =>
        intro V hV
        dsimp only [o26_22]
        go_simp
      simp only [Act.put, List.setIfInBounds_toArray, List.set_cons_zero, List.set_cons_succ]
      refine wpAnyH_done (by kernel_rfl) ?_ _
      exact hQ V2 hS2.out
end Go.Proofs.YtgdecjacbkicmaaDoor.Oct
