/-
  Layer 10 (patch): the reference: Below, own.
  Layer 10 (patch): the reference: an operation: its drawn region.
  Layer 10 (patch): the reference: an operation.
-/
import Derived.Test.YtgdecjacbkicmaaQkUlr
import Derived.Test.YtgdecjacbkicmaaRefSplit
/- Layer 10 (patch): the reference: Below, own. -/
namespace Go.Proofs.Ytgdecjacbkicmaa.Oct
open Go.RowKit
set_option maxRecDepth 100000
set_option linter.unusedSimpArgs false
set_option linter.unusedVariables false

theorem u8_tri (x y : UInt8) : x < y ∨ x = y ∨ y < x := by
  rcases Nat.lt_trichotomy x.toNat y.toNat with h | h | h
  · exact .inl h
  · exact .inr (.inl (UInt8.toNat_inj.1 h))
  · exact .inr (.inr h)
theorem u8_irr (x : UInt8) : ¬ x < x := Nat.lt_irrefl _
theorem u8_asym {x y : UInt8} (h : x < y) : ¬ y < x := fun k => absurd (show x.toNat < y.toNat from h) (Nat.lt_asymm k)
theorem less_iff : ∀ a b : Hs, Op.bytesLess a b = decide (Lib.compareBytes a b < 0)
  | [], [] => by simp [Op.bytesLess, Lib.compareBytes]
  | _ :: _, [] => by simp [Op.bytesLess, Lib.compareBytes]
  | [], _ :: _ => by simp [Op.bytesLess, Lib.compareBytes]
  | x :: a, y :: b => by
    have ih := less_iff a b
    unfold Op.bytesLess Lib.compareBytes
    rcases u8_tri x y with h | rfl | h
    · simp [h]
    · simp [u8_irr x, ih]
    · have e : (x == y) = false := by
        rw [beq_eq_false_iff_ne]
        intro e
        subst e
        exact u8_irr x h
      simp [u8_asym h, e, h]
theorem yl_ltH {o : Oper} {a : Act} (V : World) (p q : Operand) (x y : Hs) (B : Bool) (hB : Op.bytesLess x y = B) (hop : o.op = .binOp .lss 9 p q 9) (h1 : a.eval p = .string ⟨x.toArray⟩) (h2 : a.eval q = .string ⟨y.toArray⟩) : (execOp a.eval o).run Try.prog V = .ok (.value (.bool B)) V := by
  subst hB
  unfold execOp
  simp only [hop, h1, h2, Sem.run_bind, Sem.run_pure]
  first
  | (simp [eqGuard, go_sem, Try.underlying9, toList_d]; done)
  | (go_simp; done)
set_option maxRecDepth 100000 in
set_option maxHeartbeats 4000000 in
theorem bl1 {Q : Exit → Act → World → Prop} {x0 x1 x4 x5 x6 x7 x8 x9 : Value} {ds : List Deferred} {A : World} {d2 d3 : Nat} {x y : Hs} {B : Bool}
    (HI : Hid (In A (some ⟨d2, 0, none⟩) 32 32 x ∧ In A (some ⟨d3, 0, none⟩) 32 32 y)) (HB : Hid (Op.bytesLess x y = B))
    (hQ : ∀ V1, Below A.heap.size A V1 → Q .normal { tmps := #[x0, x1, .pointer (some ⟨d2, 0, none⟩), .pointer (some ⟨d3, 0, none⟩), .bool B, .slice (some ⟨d2, 0, none⟩) 32 32, .string ⟨x.toArray⟩, .slice (some ⟨d3, 0, none⟩) 32 32, .string ⟨y.toArray⟩, .bool B], defers := ds } V1) :
    (Code.region 1 #[{ dst := some 5, op := Op.slice 47 (Operand.tmp 2) none none none, type := 36, pos := "ref.go:29", after := #[], guard := none }, { dst := some 6, op := Op.convert 36 9 (Operand.tmp 5), type := 9, pos := "ref.go:29", after := #[{ on := 0, ground := Ground.data }], guard := none }, { dst := some 7, op := Op.slice 47 (Operand.tmp 3) none none none, type := 36, pos := "ref.go:29", after := #[], guard := none }, { dst := some 8, op := Op.convert 36 9 (Operand.tmp 7), type := 9, pos := "ref.go:29", after := #[{ on := 2, ground := Ground.data }], guard := none }, { dst := some 9, op := Op.binOp BinOp.lss 9 (Operand.tmp 6) (Operand.tmp 8) 9, type := 4, pos := "ref.go:29", after := #[{ on := 1, ground := Ground.data }, { on := 3, ground := Ground.data }], guard := none }, { dst := some 4, op := Op.assign (Operand.tmp 9), type := 4, pos := "ref.go:29", after := #[{ on := 4, ground := Ground.data }, { on := 0, ground := Ground.phase }, { on := 1, ground := Ground.phase }, { on := 2, ground := Ground.phase }, { on := 3, ground := Ground.phase }, { on := 4, ground := Ground.phase }], guard := none }] true).wp Try.prog Q { tmps := #[x0, x1, .pointer (some ⟨d2, 0, none⟩), .pointer (some ⟨d3, 0, none⟩), x4, x5, x6, x7, x8, x9], defers := ds } A := by
  refine Code.wp_mono (Q := fun x a' w' => match x with | .normal => Q .normal a' w' | _ => False) (by intro x a' w' h; cases x <;> first | exact h | exact h.elim) ?_
  refine wp_region_held (S := fun V => Below A.heap.size A V) (by kernel_rfl) ?_
  have hS0 : Hid (Below A.heap.size A A.drew) := below_drew0 A
  change wpAnyH Try.prog .any _ _ (fun V => Below A.heap.size A V) 6 (Array.replicate 6 false) _ A.drew
  obtain ⟨V0, hV0⟩ : ∃ V0, A.drew = V0 := ⟨_, rfl⟩
  rw [hV0]
  rw [hV0] at hS0
  clear hV0
  refine wpAnyH_take (i := 0) (oi := { dst := some 5, op := Op.slice 47 (Operand.tmp 2) none none none, type := 36, pos := "ref.go:29", after := #[], guard := none }) (v := .slice (some ⟨d2, 0, none⟩) 32 32) rfl (by kernel_rfl) (by kernel_rfl) (by kernel_rfl) (fun _ _ _ h => h.elim) (Or.inl ⟨by rfl, ?y1⟩) hS0.out ?_
  case y1 =>
    intro V hV
    go_simp
  simp only [Act.put, List.setIfInBounds_toArray, List.set_cons_zero, List.set_cons_succ]
  refine wpAnyH_take (i := 1) (oi := { dst := some 6, op := Op.convert 36 9 (Operand.tmp 5), type := 9, pos := "ref.go:29", after := #[{ on := 0, ground := Ground.data }], guard := none }) (v := .string ⟨x.toArray⟩) rfl (by kernel_rfl) (by kernel_rfl) (by kernel_rfl) (fun _ _ _ h => h.elim) (Or.inl ⟨by rfl, ?y2⟩) hS0.out ?_
  case y2 =>
    intro V hV
    exact yl_conv V _ (.slice (some ⟨d2, 0, none⟩) 32 32) _ (string_in Try.underlying36 Try.underlying5 Try.underlying9 (HI.out.1.below hV)) rfl rfl
  simp only [Act.put, List.setIfInBounds_toArray, List.set_cons_zero, List.set_cons_succ]
  refine wpAnyH_take (i := 2) (oi := { dst := some 7, op := Op.slice 47 (Operand.tmp 3) none none none, type := 36, pos := "ref.go:29", after := #[], guard := none }) (v := .slice (some ⟨d3, 0, none⟩) 32 32) rfl (by kernel_rfl) (by kernel_rfl) (by kernel_rfl) (fun _ _ _ h => h.elim) (Or.inl ⟨by rfl, ?y3⟩) hS0.out ?_
  case y3 =>
    intro V hV
    go_simp
  simp only [Act.put, List.setIfInBounds_toArray, List.set_cons_zero, List.set_cons_succ]
  refine wpAnyH_take (i := 3) (oi := { dst := some 8, op := Op.convert 36 9 (Operand.tmp 7), type := 9, pos := "ref.go:29", after := #[{ on := 2, ground := Ground.data }], guard := none }) (v := .string ⟨y.toArray⟩) rfl (by kernel_rfl) (by kernel_rfl) (by kernel_rfl) (fun _ _ _ h => h.elim) (Or.inl ⟨by rfl, ?y4⟩) hS0.out ?_
  case y4 =>
    intro V hV
    exact yl_conv V _ (.slice (some ⟨d3, 0, none⟩) 32 32) _ (string_in Try.underlying36 Try.underlying5 Try.underlying9 (HI.out.2.below hV)) rfl rfl
  simp only [Act.put, List.setIfInBounds_toArray, List.set_cons_zero, List.set_cons_succ]
  refine wpAnyH_take (i := 4) (oi := { dst := some 9, op := Op.binOp BinOp.lss 9 (Operand.tmp 6) (Operand.tmp 8) 9, type := 4, pos := "ref.go:29", after := #[{ on := 1, ground := Ground.data }, { on := 3, ground := Ground.data }], guard := none }) (v := .bool B) rfl (by kernel_rfl) (by kernel_rfl) (by kernel_rfl) (fun _ _ _ h => h.elim) (Or.inl ⟨by rfl, ?y5⟩) hS0.out ?_
  case y5 =>
    intro V hV
    exact yl_ltH V _ _ x y B HB.out rfl rfl rfl
  simp only [Act.put, List.setIfInBounds_toArray, List.set_cons_zero, List.set_cons_succ]
  refine wpAnyH_take (i := 5) (oi := { dst := some 4, op := Op.assign (Operand.tmp 9), type := 4, pos := "ref.go:29", after := #[{ on := 4, ground := Ground.data }, { on := 0, ground := Ground.phase }, { on := 1, ground := Ground.phase }, { on := 2, ground := Ground.phase }, { on := 3, ground := Ground.phase }, { on := 4, ground := Ground.phase }], guard := none }) (v := .bool B) rfl (by kernel_rfl) (by kernel_rfl) (by kernel_rfl) (fun _ _ _ h => h.elim) (Or.inl ⟨by rfl, ?y6⟩) hS0.out ?_
  case y6 =>
    intro V hV
    go_simp
  simp only [Act.put, List.setIfInBounds_toArray, List.set_cons_zero, List.set_cons_succ]
  refine wpAnyH_done (by kernel_rfl) ?_ _
  exact hQ V0 hS0.out
set_option maxHeartbeats 2000000 in
theorem rbelow_is (w : World) (x y : Hs) (hx : x.length = 32) (hy : y.length = 32) (B : Bool) (hB : decide (Lib.compareBytes x y < 0) = B) :
    Calls Try.prog 25 #[.agg (U x).toArray, .agg (U y).toArray] w fun e w' => e = .returned (.bool B) ∧ Below w.heap.size w w' := by
  obtain ⟨d2, hd2⟩ : ∃ d, w.heap.size = d := ⟨_, rfl⟩
  obtain ⟨W1, hW1⟩ : ∃ W, w.alloc (.cells (U x).toArray 47) = W := ⟨_, rfl⟩
  obtain ⟨d3, hd3⟩ : ∃ d, W1.heap.size = d := ⟨_, rfl⟩
  obtain ⟨W, hW⟩ : ∃ W, W1.alloc (.cells (U y).toArray 47) = W := ⟨_, rfl⟩
  have b1 : Below w.heap.size w W1 := by rw [← hW1]; exact below_al _ _
  have b2 : Below W1.heap.size W1 W := by rw [← hW]; exact below_al _ _
  have k2 : Blk W d2 47 (U x) := by have h : Blk W1 d2 47 (U x) := by rw [← hW1, ← hd2]; exact Blk.new w _ _
                                    exact h.below b2 h.lt
  have k3 : Blk W d3 47 (U y) := by rw [← hW, ← hd3]; exact Blk.new W1 _ _
  have HI : Hid (In W (some ⟨d2, 0, none⟩) 32 32 x ∧ In W (some ⟨d3, 0, none⟩) 32 32 y) := ⟨in47 k2 hx, in47 k3 hy⟩
  have HB : Hid (Op.bytesLess x y = B) := (less_iff x y).trans hB
  have HW : Hid (Below w.heap.size w W) := below_tr b1 b2
  clear b1 b2 k2 k3 hB
  have hu := Try.underlying47
  have hi1 := info47 x hx
  have hi2 := info47 y hy
  have h1 := U_one x
  have h2 := U_one y
  have hul : (U x).length = 32 := by rw [U_length, hx]
  have hul2 : (U y).length = 32 := by rw [U_length, hy]
  clear hx hy
  go_enter Try.func25, Try.ntmps25
  go_wp2_with fail
  refine bl1 HI HB ?_
  intro V1 hb1
  have HF : Hid (Below w.heap.size w V1) := below_tr HW.out hb1
  clear hb1 hd2 hW1 hd3 hW
  go_wp2
  go_ret
  exact ⟨rfl, HF.out⟩
set_option maxHeartbeats 2000000 in
theorem own_is (w : World) (p : PV) (h : PR w p) (hz : p.dn ≤ 100000) (v : Vx) (hv : v.ok) (B : Bool) (hB : lineOf p.D v = B) : Calls Try.prog 51 #[.agg p.cells.toArray, .agg v.cells.toArray] w fun e w' => e = .returned (.bool B) ∧ Below w.heap.size w w' := by
  obtain ⟨d2, hd2⟩ : ∃ d, w.heap.size = d := ⟨_, rfl⟩
  obtain ⟨W1, hW1⟩ : ∃ W, w.alloc (.cells p.cells.toArray 25) = W := ⟨_, rfl⟩
  obtain ⟨d3, hd3⟩ : ∃ d, W1.heap.size = d := ⟨_, rfl⟩
  obtain ⟨W, hW⟩ : ∃ W, W1.alloc (.cells v.cells.toArray 49) = W := ⟨_, rfl⟩
  have b1 : Below w.heap.size w W1 := by rw [← hW1]; exact below_al _ _
  have b2 : Below W1.heap.size W1 W := by rw [← hW]; exact below_al _ _
  have k2 : Blk W d2 25 p.cells := by have h : Blk W1 d2 25 p.cells := by rw [← hW1, ← hd2]; exact Blk.new w _ _
                                      exact h.below b2 h.lt
  have k3 : Blk W d3 49 v.cells := by rw [← hW, ← hd3]; exact Blk.new W1 _ _
  have c23 : W.cell? ⟨d2, 3, none⟩ = some (.slice p.da p.dn p.dc) := k2.cell rfl
  obtain ⟨M, hM⟩ : ∃ M, decide (v.h ∈ p.D) = M := ⟨_, rfl⟩
  obtain ⟨P, hP⟩ : ∃ P, placeOf v.h p.D = P := ⟨_, rfl⟩
  have hPM : decide (0 ≤ P) = M := by rw [← hP]; exact place_dec v.h p.D M hM
  obtain ⟨m, hm⟩ : ∃ m, v.n = m := ⟨_, rfl⟩
  unfold lineOf at hB
  rw [hM, hm] at hB
  have HP : Hid (HsR W p.da p.dn p.D ∧ p.dn ≤ 100000 ∧ v.ok ∧ Below w.heap.size w W ∧ W.rangeAt d3 0 (U v.h) ∧ placeOf v.h p.D = P ∧ Blk W d3 49 v.cells ∧ v.n = m) := ⟨h.deps.below (below_tr b1 b2), hz, hv, below_tr b1 b2, by have := k3.range 0 32; rw [List.drop_zero, Vx.hash hv] at this; exact this, hP, k3, hm⟩
  clear h hz hv b1 b2 k2 k3 hM hP hm
  go_enter Try.func51, Try.ntmps51
  go_wp2_with (with_reducible change wpList _ _ _ ({ dst := some 8, op := _, type := _, pos := _, after := _, guard := _ } :: _) _ _; refine Hid.out ?_)
  show wpList _ _ _ _ _ _
  refine wpList_load_mid rfl 47 (.tmp 7) rfl d3 0 rfl (U v.h) _ HP.out.2.2.2.2.1 Try.underlying47 rfl (info47 _ HP.out.2.2.1) ?_
  go_wp2_with fail
  refine (place_is W p.da p.dn p.dc p.D v.h HP.out.1 HP.out.2.2.1 HP.out.2.1).mono ?_
  rintro e V1 ⟨he, hb1⟩
  rw [HP.out.2.2.2.2.2.1] at he
  subst he
  have c1 : V1.cell? ⟨d3, 32, none⟩ = some (iv m) := by
    have := (HP.out.2.2.2.2.2.2.1.below hb1.out HP.out.2.2.2.2.2.2.1.lt).cell (Vx.line HP.out.2.2.1)
    rw [HP.out.2.2.2.2.2.2.2] at this
    exact this
  have HF : Hid (Below w.heap.size w V1) := below_tr HP.out.2.2.2.1 hb1.out
  clear hb1 hd2 hW1 hd3 hW c23 HP
  cases M with
  | false =>
    rw [Bool.and_false, Bool.and_false] at hB
    subst hB
    have q : P < 0 := by simpa using hPM
    go_wp2
    go_ret
    exact ⟨rfl, HF.out⟩
  | true =>
    have q : 0 ≤ P := by simpa using hPM
    rw [Bool.and_true] at hB
    by_cases h1 : 0 ≤ m
    · have g1 : decide (0 ≤ m) = true := decide_eq_true h1
      by_cases h2 : m < 64
      · have g2 : decide (m < 64) = true := decide_eq_true h2
        rw [g1, g2, Bool.true_and] at hB
        subst hB
        go_wp2
        go_ret
        exact ⟨rfl, HF.out⟩
      · have g2 : decide (m < 64) = false := decide_eq_false h2
        rw [g1, g2, Bool.true_and] at hB
        subst hB
        go_wp2
        go_ret
        exact ⟨rfl, HF.out⟩
    · have g1 : decide (0 ≤ m) = false := decide_eq_false h1
      rw [g1, Bool.false_and] at hB
      subst hB
      go_wp2
      go_ret
      exact ⟨rfl, HF.out⟩
end Go.Proofs.Ytgdecjacbkicmaa.Oct

/- Layer 10 (patch): the reference: an operation: its drawn region. -/
namespace Go.Proofs.Ytgdecjacbkicmaa.Oct
open Go.RowKit
set_option maxRecDepth 100000
set_option linter.unusedSimpArgs false
set_option linter.unusedVariables false

abbrev o26_0 : Oper := { dst := some 78, op := Op.fieldAddr 51 (Operand.tmp 3) 2, type := 0, pos := "ref.go:75", after := #[], guard := none }
abbrev o26_1 : Oper := { dst := some 79, op := Op.load 49 (Operand.tmp 78), type := 49, pos := "ref.go:75", after := #[{ on := 0, ground := Ground.data }], guard := none }
abbrev o26_2 : Oper := { dst := some 80, op := Op.call { callee := Callee.value (Operand.func 52), args := #[], argTypes := #[] }, type := 49, pos := "ref.go:75", after := #[], guard := none }
abbrev o26_3 : Oper := { dst := some 81, op := Op.binOp BinOp.eql 49 (Operand.tmp 79) (Operand.tmp 80) 49, type := 4, pos := "ref.go:75", after := #[{ on := 1, ground := Ground.data }, { on := 2, ground := Ground.data }], guard := none }
abbrev o26_4 : Oper := { dst := some 82, op := Op.move (Operand.tmp 81), type := 4, pos := "ref.go:75", after := #[{ on := 3, ground := Ground.data }, { on := 2, ground := Ground.chain }], guard := none }
abbrev o26_5 : Oper := { dst := some 83, op := Op.load 25 (Operand.tmp 2), type := 25, pos := "ref.go:75", after := #[{ on := 4, ground := Ground.guard }], guard := some (4, false) }
abbrev o26_6 : Oper := { dst := some 84, op := Op.fieldAddr 51 (Operand.tmp 3) 2, type := 0, pos := "ref.go:75", after := #[{ on := 4, ground := Ground.guard }], guard := some (4, false) }
abbrev o26_7 : Oper := { dst := some 85, op := Op.load 49 (Operand.tmp 84), type := 49, pos := "ref.go:75", after := #[{ on := 6, ground := Ground.data }, { on := 4, ground := Ground.guard }], guard := some (4, false) }
abbrev o26_8 : Oper := { dst := some 86, op := Op.call { callee := Callee.value (Operand.func 51), args := #[Operand.tmp 83, Operand.tmp 85], argTypes := #[25, 49] }, type := 4, pos := "ref.go:75", after := #[{ on := 5, ground := Ground.data }, { on := 7, ground := Ground.data }, { on := 4, ground := Ground.chain }, { on := 4, ground := Ground.guard }], guard := some (4, false) }
abbrev o26_9 : Oper := { dst := some 87, op := Op.pick (Operand.tmp 82) (Operand.const (Value.bool true)) (Operand.tmp 86), type := 4, pos := "ref.go:75", after := #[{ on := 4, ground := Ground.data }, { on := 8, ground := Ground.data }], guard := none }
abbrev o26_10 : Oper := { dst := some 88, op := Op.move (Operand.tmp 87), type := 4, pos := "ref.go:75", after := #[{ on := 9, ground := Ground.data }, { on := 8, ground := Ground.chain }], guard := none }
abbrev o26_11 : Oper := { dst := some 89, op := Op.fieldAddr 51 (Operand.tmp 3) 3, type := 0, pos := "ref.go:75", after := #[{ on := 10, ground := Ground.guard }], guard := some (10, true) }
abbrev o26_12 : Oper := { dst := some 90, op := Op.load 49 (Operand.tmp 89), type := 49, pos := "ref.go:75", after := #[{ on := 11, ground := Ground.data }, { on := 10, ground := Ground.guard }], guard := some (10, true) }
abbrev o26_13 : Oper := { dst := some 91, op := Op.call { callee := Callee.value (Operand.func 53), args := #[], argTypes := #[] }, type := 49, pos := "ref.go:75", after := #[{ on := 10, ground := Ground.chain }, { on := 10, ground := Ground.guard }], guard := some (10, true) }
abbrev o26_14 : Oper := { dst := some 92, op := Op.binOp BinOp.eql 49 (Operand.tmp 90) (Operand.tmp 91) 49, type := 4, pos := "ref.go:75", after := #[{ on := 12, ground := Ground.data }, { on := 13, ground := Ground.data }, { on := 10, ground := Ground.guard }], guard := some (10, true) }
abbrev o26_15 : Oper := { dst := some 93, op := Op.move (Operand.tmp 92), type := 4, pos := "ref.go:75", after := #[{ on := 14, ground := Ground.data }, { on := 13, ground := Ground.chain }, { on := 10, ground := Ground.guard }], guard := some (10, true) }
abbrev o26_16 : Oper := { dst := some 94, op := Op.load 25 (Operand.tmp 2), type := 25, pos := "ref.go:75", after := #[{ on := 15, ground := Ground.guard }], guard := some (15, false) }
abbrev o26_17 : Oper := { dst := some 95, op := Op.fieldAddr 51 (Operand.tmp 3) 3, type := 0, pos := "ref.go:75", after := #[{ on := 15, ground := Ground.guard }], guard := some (15, false) }
abbrev o26_18 : Oper := { dst := some 96, op := Op.load 49 (Operand.tmp 95), type := 49, pos := "ref.go:75", after := #[{ on := 17, ground := Ground.data }, { on := 15, ground := Ground.guard }], guard := some (15, false) }
abbrev o26_19 : Oper := { dst := some 97, op := Op.call { callee := Callee.value (Operand.func 51), args := #[Operand.tmp 94, Operand.tmp 96], argTypes := #[25, 49] }, type := 4, pos := "ref.go:75", after := #[{ on := 16, ground := Ground.data }, { on := 18, ground := Ground.data }, { on := 15, ground := Ground.chain }, { on := 15, ground := Ground.guard }], guard := some (15, false) }
abbrev o26_20 : Oper := { dst := some 98, op := Op.pick (Operand.tmp 93) (Operand.const (Value.bool true)) (Operand.tmp 97), type := 4, pos := "ref.go:75", after := #[{ on := 15, ground := Ground.data }, { on := 19, ground := Ground.data }, { on := 10, ground := Ground.guard }], guard := some (10, true) }
abbrev o26_21 : Oper := { dst := some 99, op := Op.pick (Operand.tmp 88) (Operand.tmp 98) (Operand.const (Value.bool false)), type := 4, pos := "ref.go:75", after := #[{ on := 10, ground := Ground.data }, { on := 20, ground := Ground.data }], guard := none }
abbrev o26_22 : Oper := { dst := some 4, op := Op.assign (Operand.tmp 99), type := 4, pos := "ref.go:75", after := #[{ on := 21, ground := Ground.data }, { on := 19, ground := Ground.chain }, { on := 0, ground := Ground.phase }, { on := 1, ground := Ground.phase }, { on := 2, ground := Ground.phase }, { on := 3, ground := Ground.phase }, { on := 4, ground := Ground.phase }, { on := 5, ground := Ground.phase }, { on := 6, ground := Ground.phase }, { on := 7, ground := Ground.phase }, { on := 8, ground := Ground.phase }, { on := 9, ground := Ground.phase }, { on := 10, ground := Ground.phase }, { on := 11, ground := Ground.phase }, { on := 12, ground := Ground.phase }, { on := 13, ground := Ground.phase }, { on := 14, ground := Ground.phase }, { on := 15, ground := Ground.phase }, { on := 16, ground := Ground.phase }, { on := 17, ground := Ground.phase }, { on := 18, ground := Ground.phase }, { on := 19, ground := Ground.phase }, { on := 20, ground := Ground.phase }, { on := 21, ground := Ground.phase }], guard := none }
set_option maxRecDepth 100000 in
set_option maxHeartbeats 4000000 in
theorem ro0 {Q : Exit → Act → World → Prop} {x0 x1 x4 x5 x6 x7 x8 x9 x10 x11 x12 x13 x14 x15 x16 x17 x18 x19 x20 x21 x22 x23 x24 x25 x26 x27 x28 x29 x30 x31 x32 x33 x34 x35 x36 x37 x38 x39 x40 x41 x42 x43 x44 x45 x46 x47 x48 x49 x50 x51 x52 x53 x54 x55 x56 x57 x58 x59 x60 x61 x62 x63 x64 x65 x66 x67 x68 x69 x70 x71 x72 x73 x74 x75 x76 x77 x78 x79 x80 x81 x82 x83 x84 x85 x86 x87 x88 x89 x90 x91 x92 x93 x94 x95 x96 x97 x98 x99 : Value} {ds : List Deferred} {A : World} {d2 d3 : Nat} {p : PV} {o : OpV} {UL DL : Bool}
    (HL : Hid (d2 < A.heap.size ∧ d3 < A.heap.size)) (HR : Hid (A.rangeAt d2 0 p.cells)) (HU : Hid (A.rangeAt d3 2 o.up.cells)) (HDn : Hid (A.rangeAt d3 35 o.dn.cells)) (HV : Hid (o.up.ok ∧ o.dn.ok)) (H52 : Hid (∀ V, Below A.heap.size A V → Calls Try.prog 52 #[] V fun e V2 => e = .returned (.agg vTop.cells.toArray) ∧ Below V.heap.size V V2)) (H53 : Hid (∀ V, Below A.heap.size A V → Calls Try.prog 53 #[] V fun e V2 => e = .returned (.agg vBot.cells.toArray) ∧ Below V.heap.size V V2)) (HUT : Hid (eqVx o.up vTop = true)) (H51u : Hid (∀ V, Below A.heap.size A V → Calls Try.prog 51 #[.agg p.cells.toArray, .agg o.up.cells.toArray] V fun e V2 => e = .returned (.bool UL) ∧ Below V.heap.size V V2)) (HDB : Hid (eqVx o.dn vBot = true)) (H51d : Hid (∀ V, Below A.heap.size A V → Calls Try.prog 51 #[.agg p.cells.toArray, .agg o.dn.cells.toArray] V fun e V2 => e = .returned (.bool DL) ∧ Below V.heap.size V V2))
    (hQ : ∀ V1, Below A.heap.size A V1 → Q .normal { tmps := #[x0, x1, .pointer (some ⟨d2, 0, none⟩), .pointer (some ⟨d3, 0, none⟩), .bool true, x5, x6, x7, x8, x9, x10, x11, x12, x13, x14, x15, x16, x17, x18, x19, x20, x21, x22, x23, x24, x25, x26, x27, x28, x29, x30, x31, x32, x33, x34, x35, x36, x37, x38, x39, x40, x41, x42, x43, x44, x45, x46, x47, x48, x49, x50, x51, x52, x53, x54, x55, x56, x57, x58, x59, x60, x61, x62, x63, x64, x65, x66, x67, x68, x69, x70, x71, x72, x73, x74, x75, x76, x77, .pointer (some ⟨d3, 2, none⟩), .agg o.up.cells.toArray, .agg vTop.cells.toArray, .bool true, .bool true, undef, undef, undef, undef, .bool true, .bool true, .pointer (some ⟨d3, 35, none⟩), .agg o.dn.cells.toArray, .agg vBot.cells.toArray, .bool true, .bool true, undef, undef, undef, undef, .bool true, .bool true], defers := ds } V1) :
    (Code.region 17 #[o26_0, o26_1, o26_2, o26_3, o26_4, o26_5, o26_6, o26_7, o26_8, o26_9, o26_10, o26_11, o26_12, o26_13, o26_14, o26_15, o26_16, o26_17, o26_18, o26_19, o26_20, o26_21, o26_22] true).wp Try.prog Q { tmps := #[x0, x1, .pointer (some ⟨d2, 0, none⟩), .pointer (some ⟨d3, 0, none⟩), x4, x5, x6, x7, x8, x9, x10, x11, x12, x13, x14, x15, x16, x17, x18, x19, x20, x21, x22, x23, x24, x25, x26, x27, x28, x29, x30, x31, x32, x33, x34, x35, x36, x37, x38, x39, x40, x41, x42, x43, x44, x45, x46, x47, x48, x49, x50, x51, x52, x53, x54, x55, x56, x57, x58, x59, x60, x61, x62, x63, x64, x65, x66, x67, x68, x69, x70, x71, x72, x73, x74, x75, x76, x77, x78, x79, x80, x81, x82, x83, x84, x85, x86, x87, x88, x89, x90, x91, x92, x93, x94, x95, x96, x97, x98, x99], defers := ds } A := by
  refine Code.wp_mono (Q := fun x a' w' => match x with | .normal => Q .normal a' w' | _ => False) (by intro x a' w' h; cases x <;> first | exact h | exact h.elim) ?_
  refine wp_region_held (S := fun V => Below A.heap.size A V) (by kernel_rfl) ?_
  have hS0 : Hid (Below A.heap.size A A.drew) := below_drew0 A
  change wpAnyH Try.prog .any _ _ (fun V => Below A.heap.size A V) 23 (Array.replicate 23 false) _ A.drew
  obtain ⟨V0, hV0⟩ : ∃ V0, A.drew = V0 := ⟨_, rfl⟩
  rw [hV0]
  rw [hV0] at hS0
  clear hV0
  refine wpAnyH_take (i := 0) (oi := o26_0) (v := .pointer (some ⟨d3, 2, none⟩)) rfl (by kernel_rfl) (by kernel_rfl) (by kernel_rfl) (fun _ _ _ h => h.elim) (Or.inl ⟨by rfl, ?y1⟩) hS0.out ?_
  case y1 =>
    intro V hV
    dsimp only [o26_0]
    go_simp
  simp only [Act.put, List.setIfInBounds_toArray, List.set_cons_zero, List.set_cons_succ]
  refine wpAnyH_take (i := 1) (oi := o26_1) (v := .agg o.up.cells.toArray) rfl (by kernel_rfl) (by kernel_rfl) (by kernel_rfl) (fun _ _ _ h => h.elim) (yieldsIf_load_mid (by rfl) _ _ rfl _ _ rfl (o.up.cells) _ (fun V hV => rangeAt_same (HU.out) ((show Below A.heap.size A V from hV).block _ (HL.out.2))) Try.underlying49 rfl (info49 HV.out.1)) hS0.out ?_
  simp only [Act.put, List.setIfInBounds_toArray, List.set_cons_zero, List.set_cons_succ]
  refine wpAnyH_ready (rs := [2]) (by kernel_rfl) (by simp) (AllReadyH.cons (i := 2) (o := o26_2) rfl ?_ AllReadyH.nil)
  · intro K1 hK1
    dsimp only [o26_2]
    rw [if_pos (by rfl)]
    have HC1 := H52.out V0 hS0.out
    go_wp2_with fail
    refine HC1.mono ?_
    rintro e V1 ⟨rfl, hb1⟩
    dsimp only
    clear HC1
    have hS1 : Hid (Below A.heap.size A V1) := hS0.out.trans (hb1.mono hS0.out.size)
    clear hb1
    refine hK1.out _ _ hS1.out ?_
    clear hK1
    intro _
    try simp only [Act.put, List.setIfInBounds_toArray, List.set_cons_zero, List.set_cons_succ]
    refine wpAnyH_take (i := 3) (oi := o26_3) (v := .bool true) rfl (by kernel_rfl) (by kernel_rfl) (by kernel_rfl) (fun _ _ _ h => h.elim) (Or.inl ⟨by rfl, ?y2⟩) hS1.out ?_
    case y2 =>
      intro V hV
      exact yl_eqV V _ _ o.up vTop HV.out.1 vTop_ok true HUT.out rfl rfl rfl
    simp only [Act.put, List.setIfInBounds_toArray, List.set_cons_zero, List.set_cons_succ]
    refine wpAnyH_take (i := 4) (oi := o26_4) (v := .bool true) rfl (by kernel_rfl) (by kernel_rfl) (by kernel_rfl) (fun _ _ _ h => h.elim) (Or.inl ⟨by rfl, ?y3⟩) hS1.out ?_
    case y3 =>
      intro V hV
      dsimp only [o26_4]
      go_simp
    simp only [Act.put, List.setIfInBounds_toArray, List.set_cons_zero, List.set_cons_succ]
    refine wpAnyH_take (i := 5) (oi := o26_5) (v := undef) rfl (by kernel_rfl) (by kernel_rfl) (by kernel_rfl) (fun _ _ _ h => h.elim) (Or.inr ⟨by rfl, rfl⟩) hS1.out ?_
    simp only [Act.put, List.setIfInBounds_toArray, List.set_cons_zero, List.set_cons_succ]
    refine wpAnyH_take (i := 6) (oi := o26_6) (v := undef) rfl (by kernel_rfl) (by kernel_rfl) (by kernel_rfl) (fun _ _ _ h => h.elim) (Or.inr ⟨by rfl, rfl⟩) hS1.out ?_
    simp only [Act.put, List.setIfInBounds_toArray, List.set_cons_zero, List.set_cons_succ]
    refine wpAnyH_take (i := 7) (oi := o26_7) (v := undef) rfl (by kernel_rfl) (by kernel_rfl) (by kernel_rfl) (fun _ _ _ h => h.elim) (Or.inr ⟨by rfl, rfl⟩) hS1.out ?_
    simp only [Act.put, List.setIfInBounds_toArray, List.set_cons_zero, List.set_cons_succ]
    refine wpAnyH_take (i := 8) (oi := o26_8) (v := undef) rfl (by kernel_rfl) (by kernel_rfl) (by kernel_rfl) (fun _ _ _ h => h.elim) (Or.inr ⟨by rfl, rfl⟩) hS1.out ?_
    simp only [Act.put, List.setIfInBounds_toArray, List.set_cons_zero, List.set_cons_succ]
    refine wpAnyH_take (i := 9) (oi := o26_9) (v := .bool true) rfl (by kernel_rfl) (by kernel_rfl) (by kernel_rfl) (fun _ _ _ h => h.elim) (Or.inl ⟨by rfl, ?y4⟩) hS1.out ?_
    case y4 =>
      intro V hV
      dsimp only [o26_9]
      go_simp
    simp only [Act.put, List.setIfInBounds_toArray, List.set_cons_zero, List.set_cons_succ]
    refine wpAnyH_take (i := 10) (oi := o26_10) (v := .bool true) rfl (by kernel_rfl) (by kernel_rfl) (by kernel_rfl) (fun _ _ _ h => h.elim) (Or.inl ⟨by rfl, ?y5⟩) hS1.out ?_
    case y5 =>
      intro V hV
      dsimp only [o26_10]
      go_simp
    simp only [Act.put, List.setIfInBounds_toArray, List.set_cons_zero, List.set_cons_succ]
    refine wpAnyH_take (i := 11) (oi := o26_11) (v := .pointer (some ⟨d3, 35, none⟩)) rfl (by kernel_rfl) (by kernel_rfl) (by kernel_rfl) (fun _ _ _ h => h.elim) (Or.inl ⟨by rfl, ?y6⟩) hS1.out ?_
    case y6 =>
      intro V hV
      dsimp only [o26_11]
      go_simp
    simp only [Act.put, List.setIfInBounds_toArray, List.set_cons_zero, List.set_cons_succ]
    refine wpAnyH_take (i := 12) (oi := o26_12) (v := .agg o.dn.cells.toArray) rfl (by kernel_rfl) (by kernel_rfl) (by kernel_rfl) (fun _ _ _ h => h.elim) (yieldsIf_load_mid (by rfl) _ _ rfl _ _ rfl (o.dn.cells) _ (fun V hV => rangeAt_same (HDn.out) ((show Below A.heap.size A V from hV).block _ (HL.out.2))) Try.underlying49 rfl (info49 HV.out.2)) hS1.out ?_
    simp only [Act.put, List.setIfInBounds_toArray, List.set_cons_zero, List.set_cons_succ]
    refine wpAnyH_ready (rs := [13]) (by kernel_rfl) (by simp) (AllReadyH.cons (i := 13) (o := o26_13) rfl ?_ AllReadyH.nil)
    · intro K1 hK1
      dsimp only [o26_13]
      rw [if_pos (by rfl)]
      have HC2 := H53.out V1 hS1.out
      go_wp2_with fail
      refine HC2.mono ?_
      rintro e V2 ⟨rfl, hb2⟩
      dsimp only
      clear HC2
      have hS2 : Hid (Below A.heap.size A V2) := hS1.out.trans (hb2.mono hS1.out.size)
      clear hb2
      refine hK1.out _ _ hS2.out ?_
      clear hK1
      intro _
      try simp only [Act.put, List.setIfInBounds_toArray, List.set_cons_zero, List.set_cons_succ]
      refine wpAnyH_take (i := 14) (oi := o26_14) (v := .bool true) rfl (by kernel_rfl) (by kernel_rfl) (by kernel_rfl) (fun _ _ _ h => h.elim) (Or.inl ⟨by rfl, ?y7⟩) hS2.out ?_
      case y7 =>
        intro V hV
        exact yl_eqV V _ _ o.dn vBot HV.out.2 vBot_ok true HDB.out rfl rfl rfl
      simp only [Act.put, List.setIfInBounds_toArray, List.set_cons_zero, List.set_cons_succ]
      refine wpAnyH_take (i := 15) (oi := o26_15) (v := .bool true) rfl (by kernel_rfl) (by kernel_rfl) (by kernel_rfl) (fun _ _ _ h => h.elim) (Or.inl ⟨by rfl, ?y8⟩) hS2.out ?_
      case y8 =>
        intro V hV
        dsimp only [o26_15]
        go_simp
      simp only [Act.put, List.setIfInBounds_toArray, List.set_cons_zero, List.set_cons_succ]
      refine wpAnyH_take (i := 16) (oi := o26_16) (v := undef) rfl (by kernel_rfl) (by kernel_rfl) (by kernel_rfl) (fun _ _ _ h => h.elim) (Or.inr ⟨by rfl, rfl⟩) hS2.out ?_
      simp only [Act.put, List.setIfInBounds_toArray, List.set_cons_zero, List.set_cons_succ]
      refine wpAnyH_take (i := 17) (oi := o26_17) (v := undef) rfl (by kernel_rfl) (by kernel_rfl) (by kernel_rfl) (fun _ _ _ h => h.elim) (Or.inr ⟨by rfl, rfl⟩) hS2.out ?_
      simp only [Act.put, List.setIfInBounds_toArray, List.set_cons_zero, List.set_cons_succ]
      refine wpAnyH_take (i := 18) (oi := o26_18) (v := undef) rfl (by kernel_rfl) (by kernel_rfl) (by kernel_rfl) (fun _ _ _ h => h.elim) (Or.inr ⟨by rfl, rfl⟩) hS2.out ?_
      simp only [Act.put, List.setIfInBounds_toArray, List.set_cons_zero, List.set_cons_succ]
      refine wpAnyH_take (i := 19) (oi := o26_19) (v := undef) rfl (by kernel_rfl) (by kernel_rfl) (by kernel_rfl) (fun _ _ _ h => h.elim) (Or.inr ⟨by rfl, rfl⟩) hS2.out ?_
      simp only [Act.put, List.setIfInBounds_toArray, List.set_cons_zero, List.set_cons_succ]
      refine wpAnyH_take (i := 20) (oi := o26_20) (v := .bool true) rfl (by kernel_rfl) (by kernel_rfl) (by kernel_rfl) (fun _ _ _ h => h.elim) (Or.inl ⟨by rfl, ?y9⟩) hS2.out ?_
      case y9 =>
        intro V hV
        dsimp only [o26_20]
        go_simp
      simp only [Act.put, List.setIfInBounds_toArray, List.set_cons_zero, List.set_cons_succ]
      refine wpAnyH_take (i := 21) (oi := o26_21) (v := .bool true) rfl (by kernel_rfl) (by kernel_rfl) (by kernel_rfl) (fun _ _ _ h => h.elim) (Or.inl ⟨by rfl, ?y10⟩) hS2.out ?_
      case y10 =>
        intro V hV
        dsimp only [o26_21]
        go_simp
      simp only [Act.put, List.setIfInBounds_toArray, List.set_cons_zero, List.set_cons_succ]
      refine wpAnyH_take (i := 22) (oi := o26_22) (v := .bool true) rfl (by kernel_rfl) (by kernel_rfl) (by kernel_rfl) (fun _ _ _ h => h.elim) (Or.inl ⟨by rfl, ?y11⟩) hS2.out ?_
      case y11 =>
        intro V hV
        dsimp only [o26_22]
        go_simp
      simp only [Act.put, List.setIfInBounds_toArray, List.set_cons_zero, List.set_cons_succ]
      refine wpAnyH_done (by kernel_rfl) ?_ _
      exact hQ V2 hS2.out
set_option maxRecDepth 100000 in
set_option maxHeartbeats 4000000 in
theorem ro1 {Q : Exit → Act → World → Prop} {x0 x1 x4 x5 x6 x7 x8 x9 x10 x11 x12 x13 x14 x15 x16 x17 x18 x19 x20 x21 x22 x23 x24 x25 x26 x27 x28 x29 x30 x31 x32 x33 x34 x35 x36 x37 x38 x39 x40 x41 x42 x43 x44 x45 x46 x47 x48 x49 x50 x51 x52 x53 x54 x55 x56 x57 x58 x59 x60 x61 x62 x63 x64 x65 x66 x67 x68 x69 x70 x71 x72 x73 x74 x75 x76 x77 x78 x79 x80 x81 x82 x83 x84 x85 x86 x87 x88 x89 x90 x91 x92 x93 x94 x95 x96 x97 x98 x99 : Value} {ds : List Deferred} {A : World} {d2 d3 : Nat} {p : PV} {o : OpV} {UL : Bool}
    (HL : Hid (d2 < A.heap.size ∧ d3 < A.heap.size)) (HR : Hid (A.rangeAt d2 0 p.cells)) (HU : Hid (A.rangeAt d3 2 o.up.cells)) (HDn : Hid (A.rangeAt d3 35 o.dn.cells)) (HV : Hid (o.up.ok ∧ o.dn.ok)) (H52 : Hid (∀ V, Below A.heap.size A V → Calls Try.prog 52 #[] V fun e V2 => e = .returned (.agg vTop.cells.toArray) ∧ Below V.heap.size V V2)) (H53 : Hid (∀ V, Below A.heap.size A V → Calls Try.prog 53 #[] V fun e V2 => e = .returned (.agg vBot.cells.toArray) ∧ Below V.heap.size V V2)) (HUT : Hid (eqVx o.up vTop = true)) (H51u : Hid (∀ V, Below A.heap.size A V → Calls Try.prog 51 #[.agg p.cells.toArray, .agg o.up.cells.toArray] V fun e V2 => e = .returned (.bool UL) ∧ Below V.heap.size V V2)) (HDB : Hid (eqVx o.dn vBot = false)) (H51d : Hid (∀ V, Below A.heap.size A V → Calls Try.prog 51 #[.agg p.cells.toArray, .agg o.dn.cells.toArray] V fun e V2 => e = .returned (.bool true) ∧ Below V.heap.size V V2))
    (hQ : ∀ V1, Below A.heap.size A V1 → Q .normal { tmps := #[x0, x1, .pointer (some ⟨d2, 0, none⟩), .pointer (some ⟨d3, 0, none⟩), .bool true, x5, x6, x7, x8, x9, x10, x11, x12, x13, x14, x15, x16, x17, x18, x19, x20, x21, x22, x23, x24, x25, x26, x27, x28, x29, x30, x31, x32, x33, x34, x35, x36, x37, x38, x39, x40, x41, x42, x43, x44, x45, x46, x47, x48, x49, x50, x51, x52, x53, x54, x55, x56, x57, x58, x59, x60, x61, x62, x63, x64, x65, x66, x67, x68, x69, x70, x71, x72, x73, x74, x75, x76, x77, .pointer (some ⟨d3, 2, none⟩), .agg o.up.cells.toArray, .agg vTop.cells.toArray, .bool true, .bool true, undef, undef, undef, undef, .bool true, .bool true, .pointer (some ⟨d3, 35, none⟩), .agg o.dn.cells.toArray, .agg vBot.cells.toArray, .bool false, .bool false, .agg p.cells.toArray, .pointer (some ⟨d3, 35, none⟩), .agg o.dn.cells.toArray, .bool true, .bool true, .bool true], defers := ds } V1) :
    (Code.region 17 #[o26_0, o26_1, o26_2, o26_3, o26_4, o26_5, o26_6, o26_7, o26_8, o26_9, o26_10, o26_11, o26_12, o26_13, o26_14, o26_15, o26_16, o26_17, o26_18, o26_19, o26_20, o26_21, o26_22] true).wp Try.prog Q { tmps := #[x0, x1, .pointer (some ⟨d2, 0, none⟩), .pointer (some ⟨d3, 0, none⟩), x4, x5, x6, x7, x8, x9, x10, x11, x12, x13, x14, x15, x16, x17, x18, x19, x20, x21, x22, x23, x24, x25, x26, x27, x28, x29, x30, x31, x32, x33, x34, x35, x36, x37, x38, x39, x40, x41, x42, x43, x44, x45, x46, x47, x48, x49, x50, x51, x52, x53, x54, x55, x56, x57, x58, x59, x60, x61, x62, x63, x64, x65, x66, x67, x68, x69, x70, x71, x72, x73, x74, x75, x76, x77, x78, x79, x80, x81, x82, x83, x84, x85, x86, x87, x88, x89, x90, x91, x92, x93, x94, x95, x96, x97, x98, x99], defers := ds } A := by
  refine Code.wp_mono (Q := fun x a' w' => match x with | .normal => Q .normal a' w' | _ => False) (by intro x a' w' h; cases x <;> first | exact h | exact h.elim) ?_
  refine wp_region_held (S := fun V => Below A.heap.size A V) (by kernel_rfl) ?_
  have hS0 : Hid (Below A.heap.size A A.drew) := below_drew0 A
  change wpAnyH Try.prog .any _ _ (fun V => Below A.heap.size A V) 23 (Array.replicate 23 false) _ A.drew
  obtain ⟨V0, hV0⟩ : ∃ V0, A.drew = V0 := ⟨_, rfl⟩
  rw [hV0]
  rw [hV0] at hS0
  clear hV0
  refine wpAnyH_take (i := 0) (oi := o26_0) (v := .pointer (some ⟨d3, 2, none⟩)) rfl (by kernel_rfl) (by kernel_rfl) (by kernel_rfl) (fun _ _ _ h => h.elim) (Or.inl ⟨by rfl, ?y1⟩) hS0.out ?_
  case y1 =>
    intro V hV
    dsimp only [o26_0]
    go_simp
  simp only [Act.put, List.setIfInBounds_toArray, List.set_cons_zero, List.set_cons_succ]
  refine wpAnyH_take (i := 1) (oi := o26_1) (v := .agg o.up.cells.toArray) rfl (by kernel_rfl) (by kernel_rfl) (by kernel_rfl) (fun _ _ _ h => h.elim) (yieldsIf_load_mid (by rfl) _ _ rfl _ _ rfl (o.up.cells) _ (fun V hV => rangeAt_same (HU.out) ((show Below A.heap.size A V from hV).block _ (HL.out.2))) Try.underlying49 rfl (info49 HV.out.1)) hS0.out ?_
  simp only [Act.put, List.setIfInBounds_toArray, List.set_cons_zero, List.set_cons_succ]
  refine wpAnyH_ready (rs := [2]) (by kernel_rfl) (by simp) (AllReadyH.cons (i := 2) (o := o26_2) rfl ?_ AllReadyH.nil)
  · intro K1 hK1
    dsimp only [o26_2]
    rw [if_pos (by rfl)]
    have HC1 := H52.out V0 hS0.out
    go_wp2_with fail
    refine HC1.mono ?_
    rintro e V1 ⟨rfl, hb1⟩
    dsimp only
    clear HC1
    have hS1 : Hid (Below A.heap.size A V1) := hS0.out.trans (hb1.mono hS0.out.size)
    clear hb1
    refine hK1.out _ _ hS1.out ?_
    clear hK1
    intro _
    try simp only [Act.put, List.setIfInBounds_toArray, List.set_cons_zero, List.set_cons_succ]
    refine wpAnyH_take (i := 3) (oi := o26_3) (v := .bool true) rfl (by kernel_rfl) (by kernel_rfl) (by kernel_rfl) (fun _ _ _ h => h.elim) (Or.inl ⟨by rfl, ?y2⟩) hS1.out ?_
    case y2 =>
      intro V hV
      exact yl_eqV V _ _ o.up vTop HV.out.1 vTop_ok true HUT.out rfl rfl rfl
    simp only [Act.put, List.setIfInBounds_toArray, List.set_cons_zero, List.set_cons_succ]
    refine wpAnyH_take (i := 4) (oi := o26_4) (v := .bool true) rfl (by kernel_rfl) (by kernel_rfl) (by kernel_rfl) (fun _ _ _ h => h.elim) (Or.inl ⟨by rfl, ?y3⟩) hS1.out ?_
    case y3 =>
      intro V hV
      dsimp only [o26_4]
      go_simp
    simp only [Act.put, List.setIfInBounds_toArray, List.set_cons_zero, List.set_cons_succ]
    refine wpAnyH_take (i := 5) (oi := o26_5) (v := undef) rfl (by kernel_rfl) (by kernel_rfl) (by kernel_rfl) (fun _ _ _ h => h.elim) (Or.inr ⟨by rfl, rfl⟩) hS1.out ?_
    simp only [Act.put, List.setIfInBounds_toArray, List.set_cons_zero, List.set_cons_succ]
    refine wpAnyH_take (i := 6) (oi := o26_6) (v := undef) rfl (by kernel_rfl) (by kernel_rfl) (by kernel_rfl) (fun _ _ _ h => h.elim) (Or.inr ⟨by rfl, rfl⟩) hS1.out ?_
    simp only [Act.put, List.setIfInBounds_toArray, List.set_cons_zero, List.set_cons_succ]
    refine wpAnyH_take (i := 7) (oi := o26_7) (v := undef) rfl (by kernel_rfl) (by kernel_rfl) (by kernel_rfl) (fun _ _ _ h => h.elim) (Or.inr ⟨by rfl, rfl⟩) hS1.out ?_
    simp only [Act.put, List.setIfInBounds_toArray, List.set_cons_zero, List.set_cons_succ]
    refine wpAnyH_take (i := 8) (oi := o26_8) (v := undef) rfl (by kernel_rfl) (by kernel_rfl) (by kernel_rfl) (fun _ _ _ h => h.elim) (Or.inr ⟨by rfl, rfl⟩) hS1.out ?_
    simp only [Act.put, List.setIfInBounds_toArray, List.set_cons_zero, List.set_cons_succ]
    refine wpAnyH_take (i := 9) (oi := o26_9) (v := .bool true) rfl (by kernel_rfl) (by kernel_rfl) (by kernel_rfl) (fun _ _ _ h => h.elim) (Or.inl ⟨by rfl, ?y4⟩) hS1.out ?_
    case y4 =>
      intro V hV
      dsimp only [o26_9]
      go_simp
    simp only [Act.put, List.setIfInBounds_toArray, List.set_cons_zero, List.set_cons_succ]
    refine wpAnyH_take (i := 10) (oi := o26_10) (v := .bool true) rfl (by kernel_rfl) (by kernel_rfl) (by kernel_rfl) (fun _ _ _ h => h.elim) (Or.inl ⟨by rfl, ?y5⟩) hS1.out ?_
    case y5 =>
      intro V hV
      dsimp only [o26_10]
      go_simp
    simp only [Act.put, List.setIfInBounds_toArray, List.set_cons_zero, List.set_cons_succ]
    refine wpAnyH_take (i := 11) (oi := o26_11) (v := .pointer (some ⟨d3, 35, none⟩)) rfl (by kernel_rfl) (by kernel_rfl) (by kernel_rfl) (fun _ _ _ h => h.elim) (Or.inl ⟨by rfl, ?y6⟩) hS1.out ?_
    case y6 =>
      intro V hV
      dsimp only [o26_11]
      go_simp
    simp only [Act.put, List.setIfInBounds_toArray, List.set_cons_zero, List.set_cons_succ]
    refine wpAnyH_take (i := 12) (oi := o26_12) (v := .agg o.dn.cells.toArray) rfl (by kernel_rfl) (by kernel_rfl) (by kernel_rfl) (fun _ _ _ h => h.elim) (yieldsIf_load_mid (by rfl) _ _ rfl _ _ rfl (o.dn.cells) _ (fun V hV => rangeAt_same (HDn.out) ((show Below A.heap.size A V from hV).block _ (HL.out.2))) Try.underlying49 rfl (info49 HV.out.2)) hS1.out ?_
    simp only [Act.put, List.setIfInBounds_toArray, List.set_cons_zero, List.set_cons_succ]
    refine wpAnyH_ready (rs := [13]) (by kernel_rfl) (by simp) (AllReadyH.cons (i := 13) (o := o26_13) rfl ?_ AllReadyH.nil)
    · intro K1 hK1
      dsimp only [o26_13]
      rw [if_pos (by rfl)]
      have HC2 := H53.out V1 hS1.out
      go_wp2_with fail
      refine HC2.mono ?_
      rintro e V2 ⟨rfl, hb2⟩
      dsimp only
      clear HC2
      have hS2 : Hid (Below A.heap.size A V2) := hS1.out.trans (hb2.mono hS1.out.size)
      clear hb2
      refine hK1.out _ _ hS2.out ?_
      clear hK1
      intro _
      try simp only [Act.put, List.setIfInBounds_toArray, List.set_cons_zero, List.set_cons_succ]
      refine wpAnyH_take (i := 14) (oi := o26_14) (v := .bool false) rfl (by kernel_rfl) (by kernel_rfl) (by kernel_rfl) (fun _ _ _ h => h.elim) (Or.inl ⟨by rfl, ?y7⟩) hS2.out ?_
      case y7 =>
        intro V hV
        exact yl_eqV V _ _ o.dn vBot HV.out.2 vBot_ok false HDB.out rfl rfl rfl
      simp only [Act.put, List.setIfInBounds_toArray, List.set_cons_zero, List.set_cons_succ]
      refine wpAnyH_take (i := 15) (oi := o26_15) (v := .bool false) rfl (by kernel_rfl) (by kernel_rfl) (by kernel_rfl) (fun _ _ _ h => h.elim) (Or.inl ⟨by rfl, ?y8⟩) hS2.out ?_
      case y8 =>
        intro V hV
        dsimp only [o26_15]
        go_simp
      simp only [Act.put, List.setIfInBounds_toArray, List.set_cons_zero, List.set_cons_succ]
      refine wpAnyH_take (i := 16) (oi := o26_16) (v := .agg p.cells.toArray) rfl (by kernel_rfl) (by kernel_rfl) (by kernel_rfl) (fun _ _ _ h => h.elim) (yieldsIf_load_mid (by rfl) _ _ rfl _ _ rfl (p.cells) _ (fun V hV => rangeAt_same (HR.out) ((show Below A.heap.size A V from hV).block _ (HL.out.1))) Try.underlying25 rfl (info25 p)) hS2.out ?_
      simp only [Act.put, List.setIfInBounds_toArray, List.set_cons_zero, List.set_cons_succ]
      refine wpAnyH_take (i := 17) (oi := o26_17) (v := .pointer (some ⟨d3, 35, none⟩)) rfl (by kernel_rfl) (by kernel_rfl) (by kernel_rfl) (fun _ _ _ h => h.elim) (Or.inl ⟨by rfl, ?y9⟩) hS2.out ?_
      case y9 =>
        intro V hV
        dsimp only [o26_17]
        go_simp
      simp only [Act.put, List.setIfInBounds_toArray, List.set_cons_zero, List.set_cons_succ]
      refine wpAnyH_take (i := 18) (oi := o26_18) (v := .agg o.dn.cells.toArray) rfl (by kernel_rfl) (by kernel_rfl) (by kernel_rfl) (fun _ _ _ h => h.elim) (yieldsIf_load_mid (by rfl) _ _ rfl _ _ rfl (o.dn.cells) _ (fun V hV => rangeAt_same (HDn.out) ((show Below A.heap.size A V from hV).block _ (HL.out.2))) Try.underlying49 rfl (info49 HV.out.2)) hS2.out ?_
      simp only [Act.put, List.setIfInBounds_toArray, List.set_cons_zero, List.set_cons_succ]
      refine wpAnyH_ready (rs := [19]) (by kernel_rfl) (by simp) (AllReadyH.cons (i := 19) (o := o26_19) rfl ?_ AllReadyH.nil)
      · intro K1 hK1
        dsimp only [o26_19]
        rw [if_pos (by rfl)]
        have HC3 := H51d.out V2 hS2.out
        go_wp2_with fail
        refine HC3.mono ?_
        rintro e V3 ⟨rfl, hb3⟩
        dsimp only
        clear HC3
        have hS3 : Hid (Below A.heap.size A V3) := hS2.out.trans (hb3.mono hS2.out.size)
        clear hb3
        refine hK1.out _ _ hS3.out ?_
        clear hK1
        intro _
        try simp only [Act.put, List.setIfInBounds_toArray, List.set_cons_zero, List.set_cons_succ]
        refine wpAnyH_take (i := 20) (oi := o26_20) (v := .bool true) rfl (by kernel_rfl) (by kernel_rfl) (by kernel_rfl) (fun _ _ _ h => h.elim) (Or.inl ⟨by rfl, ?y10⟩) hS3.out ?_
        case y10 =>
          intro V hV
          dsimp only [o26_20]
          go_simp
        simp only [Act.put, List.setIfInBounds_toArray, List.set_cons_zero, List.set_cons_succ]
        refine wpAnyH_take (i := 21) (oi := o26_21) (v := .bool true) rfl (by kernel_rfl) (by kernel_rfl) (by kernel_rfl) (fun _ _ _ h => h.elim) (Or.inl ⟨by rfl, ?y11⟩) hS3.out ?_
        case y11 =>
          intro V hV
          dsimp only [o26_21]
          go_simp
        simp only [Act.put, List.setIfInBounds_toArray, List.set_cons_zero, List.set_cons_succ]
        refine wpAnyH_take (i := 22) (oi := o26_22) (v := .bool true) rfl (by kernel_rfl) (by kernel_rfl) (by kernel_rfl) (fun _ _ _ h => h.elim) (Or.inl ⟨by rfl, ?y12⟩) hS3.out ?_
        case y12 =>
          intro V hV
          dsimp only [o26_22]
          go_simp
        simp only [Act.put, List.setIfInBounds_toArray, List.set_cons_zero, List.set_cons_succ]
        refine wpAnyH_done (by kernel_rfl) ?_ _
        exact hQ V3 hS3.out
set_option maxRecDepth 100000 in
set_option maxHeartbeats 4000000 in
theorem ro2 {Q : Exit → Act → World → Prop} {x0 x1 x4 x5 x6 x7 x8 x9 x10 x11 x12 x13 x14 x15 x16 x17 x18 x19 x20 x21 x22 x23 x24 x25 x26 x27 x28 x29 x30 x31 x32 x33 x34 x35 x36 x37 x38 x39 x40 x41 x42 x43 x44 x45 x46 x47 x48 x49 x50 x51 x52 x53 x54 x55 x56 x57 x58 x59 x60 x61 x62 x63 x64 x65 x66 x67 x68 x69 x70 x71 x72 x73 x74 x75 x76 x77 x78 x79 x80 x81 x82 x83 x84 x85 x86 x87 x88 x89 x90 x91 x92 x93 x94 x95 x96 x97 x98 x99 : Value} {ds : List Deferred} {A : World} {d2 d3 : Nat} {p : PV} {o : OpV} {UL : Bool}
    (HL : Hid (d2 < A.heap.size ∧ d3 < A.heap.size)) (HR : Hid (A.rangeAt d2 0 p.cells)) (HU : Hid (A.rangeAt d3 2 o.up.cells)) (HDn : Hid (A.rangeAt d3 35 o.dn.cells)) (HV : Hid (o.up.ok ∧ o.dn.ok)) (H52 : Hid (∀ V, Below A.heap.size A V → Calls Try.prog 52 #[] V fun e V2 => e = .returned (.agg vTop.cells.toArray) ∧ Below V.heap.size V V2)) (H53 : Hid (∀ V, Below A.heap.size A V → Calls Try.prog 53 #[] V fun e V2 => e = .returned (.agg vBot.cells.toArray) ∧ Below V.heap.size V V2)) (HUT : Hid (eqVx o.up vTop = true)) (H51u : Hid (∀ V, Below A.heap.size A V → Calls Try.prog 51 #[.agg p.cells.toArray, .agg o.up.cells.toArray] V fun e V2 => e = .returned (.bool UL) ∧ Below V.heap.size V V2)) (HDB : Hid (eqVx o.dn vBot = false)) (H51d : Hid (∀ V, Below A.heap.size A V → Calls Try.prog 51 #[.agg p.cells.toArray, .agg o.dn.cells.toArray] V fun e V2 => e = .returned (.bool false) ∧ Below V.heap.size V V2))
    (hQ : ∀ V1, Below A.heap.size A V1 → Q .normal { tmps := #[x0, x1, .pointer (some ⟨d2, 0, none⟩), .pointer (some ⟨d3, 0, none⟩), .bool false, x5, x6, x7, x8, x9, x10, x11, x12, x13, x14, x15, x16, x17, x18, x19, x20, x21, x22, x23, x24, x25, x26, x27, x28, x29, x30, x31, x32, x33, x34, x35, x36, x37, x38, x39, x40, x41, x42, x43, x44, x45, x46, x47, x48, x49, x50, x51, x52, x53, x54, x55, x56, x57, x58, x59, x60, x61, x62, x63, x64, x65, x66, x67, x68, x69, x70, x71, x72, x73, x74, x75, x76, x77, .pointer (some ⟨d3, 2, none⟩), .agg o.up.cells.toArray, .agg vTop.cells.toArray, .bool true, .bool true, undef, undef, undef, undef, .bool true, .bool true, .pointer (some ⟨d3, 35, none⟩), .agg o.dn.cells.toArray, .agg vBot.cells.toArray, .bool false, .bool false, .agg p.cells.toArray, .pointer (some ⟨d3, 35, none⟩), .agg o.dn.cells.toArray, .bool false, .bool false, .bool false], defers := ds } V1) :
    (Code.region 17 #[o26_0, o26_1, o26_2, o26_3, o26_4, o26_5, o26_6, o26_7, o26_8, o26_9, o26_10, o26_11, o26_12, o26_13, o26_14, o26_15, o26_16, o26_17, o26_18, o26_19, o26_20, o26_21, o26_22] true).wp Try.prog Q { tmps := #[x0, x1, .pointer (some ⟨d2, 0, none⟩), .pointer (some ⟨d3, 0, none⟩), x4, x5, x6, x7, x8, x9, x10, x11, x12, x13, x14, x15, x16, x17, x18, x19, x20, x21, x22, x23, x24, x25, x26, x27, x28, x29, x30, x31, x32, x33, x34, x35, x36, x37, x38, x39, x40, x41, x42, x43, x44, x45, x46, x47, x48, x49, x50, x51, x52, x53, x54, x55, x56, x57, x58, x59, x60, x61, x62, x63, x64, x65, x66, x67, x68, x69, x70, x71, x72, x73, x74, x75, x76, x77, x78, x79, x80, x81, x82, x83, x84, x85, x86, x87, x88, x89, x90, x91, x92, x93, x94, x95, x96, x97, x98, x99], defers := ds } A := by
  refine Code.wp_mono (Q := fun x a' w' => match x with | .normal => Q .normal a' w' | _ => False) (by intro x a' w' h; cases x <;> first | exact h | exact h.elim) ?_
  refine wp_region_held (S := fun V => Below A.heap.size A V) (by kernel_rfl) ?_
  have hS0 : Hid (Below A.heap.size A A.drew) := below_drew0 A
  change wpAnyH Try.prog .any _ _ (fun V => Below A.heap.size A V) 23 (Array.replicate 23 false) _ A.drew
  obtain ⟨V0, hV0⟩ : ∃ V0, A.drew = V0 := ⟨_, rfl⟩
  rw [hV0]
  rw [hV0] at hS0
  clear hV0
  refine wpAnyH_take (i := 0) (oi := o26_0) (v := .pointer (some ⟨d3, 2, none⟩)) rfl (by kernel_rfl) (by kernel_rfl) (by kernel_rfl) (fun _ _ _ h => h.elim) (Or.inl ⟨by rfl, ?y1⟩) hS0.out ?_
  case y1 =>
    intro V hV
    dsimp only [o26_0]
    go_simp
  simp only [Act.put, List.setIfInBounds_toArray, List.set_cons_zero, List.set_cons_succ]
  refine wpAnyH_take (i := 1) (oi := o26_1) (v := .agg o.up.cells.toArray) rfl (by kernel_rfl) (by kernel_rfl) (by kernel_rfl) (fun _ _ _ h => h.elim) (yieldsIf_load_mid (by rfl) _ _ rfl _ _ rfl (o.up.cells) _ (fun V hV => rangeAt_same (HU.out) ((show Below A.heap.size A V from hV).block _ (HL.out.2))) Try.underlying49 rfl (info49 HV.out.1)) hS0.out ?_
  simp only [Act.put, List.setIfInBounds_toArray, List.set_cons_zero, List.set_cons_succ]
  refine wpAnyH_ready (rs := [2]) (by kernel_rfl) (by simp) (AllReadyH.cons (i := 2) (o := o26_2) rfl ?_ AllReadyH.nil)
  · intro K1 hK1
    dsimp only [o26_2]
    rw [if_pos (by rfl)]
    have HC1 := H52.out V0 hS0.out
    go_wp2_with fail
    refine HC1.mono ?_
    rintro e V1 ⟨rfl, hb1⟩
    dsimp only
    clear HC1
    have hS1 : Hid (Below A.heap.size A V1) := hS0.out.trans (hb1.mono hS0.out.size)
    clear hb1
    refine hK1.out _ _ hS1.out ?_
    clear hK1
    intro _
    try simp only [Act.put, List.setIfInBounds_toArray, List.set_cons_zero, List.set_cons_succ]
    refine wpAnyH_take (i := 3) (oi := o26_3) (v := .bool true) rfl (by kernel_rfl) (by kernel_rfl) (by kernel_rfl) (fun _ _ _ h => h.elim) (Or.inl ⟨by rfl, ?y2⟩) hS1.out ?_
    case y2 =>
      intro V hV
      exact yl_eqV V _ _ o.up vTop HV.out.1 vTop_ok true HUT.out rfl rfl rfl
    simp only [Act.put, List.setIfInBounds_toArray, List.set_cons_zero, List.set_cons_succ]
    refine wpAnyH_take (i := 4) (oi := o26_4) (v := .bool true) rfl (by kernel_rfl) (by kernel_rfl) (by kernel_rfl) (fun _ _ _ h => h.elim) (Or.inl ⟨by rfl, ?y3⟩) hS1.out ?_
    case y3 =>
      intro V hV
      dsimp only [o26_4]
      go_simp
    simp only [Act.put, List.setIfInBounds_toArray, List.set_cons_zero, List.set_cons_succ]
    refine wpAnyH_take (i := 5) (oi := o26_5) (v := undef) rfl (by kernel_rfl) (by kernel_rfl) (by kernel_rfl) (fun _ _ _ h => h.elim) (Or.inr ⟨by rfl, rfl⟩) hS1.out ?_
    simp only [Act.put, List.setIfInBounds_toArray, List.set_cons_zero, List.set_cons_succ]
    refine wpAnyH_take (i := 6) (oi := o26_6) (v := undef) rfl (by kernel_rfl) (by kernel_rfl) (by kernel_rfl) (fun _ _ _ h => h.elim) (Or.inr ⟨by rfl, rfl⟩) hS1.out ?_
    simp only [Act.put, List.setIfInBounds_toArray, List.set_cons_zero, List.set_cons_succ]
    refine wpAnyH_take (i := 7) (oi := o26_7) (v := undef) rfl (by kernel_rfl) (by kernel_rfl) (by kernel_rfl) (fun _ _ _ h => h.elim) (Or.inr ⟨by rfl, rfl⟩) hS1.out ?_
    simp only [Act.put, List.setIfInBounds_toArray, List.set_cons_zero, List.set_cons_succ]
    refine wpAnyH_take (i := 8) (oi := o26_8) (v := undef) rfl (by kernel_rfl) (by kernel_rfl) (by kernel_rfl) (fun _ _ _ h => h.elim) (Or.inr ⟨by rfl, rfl⟩) hS1.out ?_
    simp only [Act.put, List.setIfInBounds_toArray, List.set_cons_zero, List.set_cons_succ]
    refine wpAnyH_take (i := 9) (oi := o26_9) (v := .bool true) rfl (by kernel_rfl) (by kernel_rfl) (by kernel_rfl) (fun _ _ _ h => h.elim) (Or.inl ⟨by rfl, ?y4⟩) hS1.out ?_
    case y4 =>
      intro V hV
      dsimp only [o26_9]
      go_simp
    simp only [Act.put, List.setIfInBounds_toArray, List.set_cons_zero, List.set_cons_succ]
    refine wpAnyH_take (i := 10) (oi := o26_10) (v := .bool true) rfl (by kernel_rfl) (by kernel_rfl) (by kernel_rfl) (fun _ _ _ h => h.elim) (Or.inl ⟨by rfl, ?y5⟩) hS1.out ?_
    case y5 =>
      intro V hV
      dsimp only [o26_10]
      go_simp
    simp only [Act.put, List.setIfInBounds_toArray, List.set_cons_zero, List.set_cons_succ]
    refine wpAnyH_take (i := 11) (oi := o26_11) (v := .pointer (some ⟨d3, 35, none⟩)) rfl (by kernel_rfl) (by kernel_rfl) (by kernel_rfl) (fun _ _ _ h => h.elim) (Or.inl ⟨by rfl, ?y6⟩) hS1.out ?_
    case y6 =>
      intro V hV
      dsimp only [o26_11]
      go_simp
    simp only [Act.put, List.setIfInBounds_toArray, List.set_cons_zero, List.set_cons_succ]
    refine wpAnyH_take (i := 12) (oi := o26_12) (v := .agg o.dn.cells.toArray) rfl (by kernel_rfl) (by kernel_rfl) (by kernel_rfl) (fun _ _ _ h => h.elim) (yieldsIf_load_mid (by rfl) _ _ rfl _ _ rfl (o.dn.cells) _ (fun V hV => rangeAt_same (HDn.out) ((show Below A.heap.size A V from hV).block _ (HL.out.2))) Try.underlying49 rfl (info49 HV.out.2)) hS1.out ?_
    simp only [Act.put, List.setIfInBounds_toArray, List.set_cons_zero, List.set_cons_succ]
    refine wpAnyH_ready (rs := [13]) (by kernel_rfl) (by simp) (AllReadyH.cons (i := 13) (o := o26_13) rfl ?_ AllReadyH.nil)
    · intro K1 hK1
      dsimp only [o26_13]
      rw [if_pos (by rfl)]
      have HC2 := H53.out V1 hS1.out
      go_wp2_with fail
      refine HC2.mono ?_
      rintro e V2 ⟨rfl, hb2⟩
      dsimp only
      clear HC2
      have hS2 : Hid (Below A.heap.size A V2) := hS1.out.trans (hb2.mono hS1.out.size)
      clear hb2
      refine hK1.out _ _ hS2.out ?_
      clear hK1
      intro _
      try simp only [Act.put, List.setIfInBounds_toArray, List.set_cons_zero, List.set_cons_succ]
      refine wpAnyH_take (i := 14) (oi := o26_14) (v := .bool false) rfl (by kernel_rfl) (by kernel_rfl) (by kernel_rfl) (fun _ _ _ h => h.elim) (Or.inl ⟨by rfl, ?y7⟩) hS2.out ?_
      case y7 =>
        intro V hV
        exact yl_eqV V _ _ o.dn vBot HV.out.2 vBot_ok false HDB.out rfl rfl rfl
      simp only [Act.put, List.setIfInBounds_toArray, List.set_cons_zero, List.set_cons_succ]
      refine wpAnyH_take (i := 15) (oi := o26_15) (v := .bool false) rfl (by kernel_rfl) (by kernel_rfl) (by kernel_rfl) (fun _ _ _ h => h.elim) (Or.inl ⟨by rfl, ?y8⟩) hS2.out ?_
      case y8 =>
        intro V hV
        dsimp only [o26_15]
        go_simp
      simp only [Act.put, List.setIfInBounds_toArray, List.set_cons_zero, List.set_cons_succ]
      refine wpAnyH_take (i := 16) (oi := o26_16) (v := .agg p.cells.toArray) rfl (by kernel_rfl) (by kernel_rfl) (by kernel_rfl) (fun _ _ _ h => h.elim) (yieldsIf_load_mid (by rfl) _ _ rfl _ _ rfl (p.cells) _ (fun V hV => rangeAt_same (HR.out) ((show Below A.heap.size A V from hV).block _ (HL.out.1))) Try.underlying25 rfl (info25 p)) hS2.out ?_
      simp only [Act.put, List.setIfInBounds_toArray, List.set_cons_zero, List.set_cons_succ]
      refine wpAnyH_take (i := 17) (oi := o26_17) (v := .pointer (some ⟨d3, 35, none⟩)) rfl (by kernel_rfl) (by kernel_rfl) (by kernel_rfl) (fun _ _ _ h => h.elim) (Or.inl ⟨by rfl, ?y9⟩) hS2.out ?_
      case y9 =>
        intro V hV
        dsimp only [o26_17]
        go_simp
      simp only [Act.put, List.setIfInBounds_toArray, List.set_cons_zero, List.set_cons_succ]
      refine wpAnyH_take (i := 18) (oi := o26_18) (v := .agg o.dn.cells.toArray) rfl (by kernel_rfl) (by kernel_rfl) (by kernel_rfl) (fun _ _ _ h => h.elim) (yieldsIf_load_mid (by rfl) _ _ rfl _ _ rfl (o.dn.cells) _ (fun V hV => rangeAt_same (HDn.out) ((show Below A.heap.size A V from hV).block _ (HL.out.2))) Try.underlying49 rfl (info49 HV.out.2)) hS2.out ?_
      simp only [Act.put, List.setIfInBounds_toArray, List.set_cons_zero, List.set_cons_succ]
      refine wpAnyH_ready (rs := [19]) (by kernel_rfl) (by simp) (AllReadyH.cons (i := 19) (o := o26_19) rfl ?_ AllReadyH.nil)
      · intro K1 hK1
        dsimp only [o26_19]
        rw [if_pos (by rfl)]
        have HC3 := H51d.out V2 hS2.out
        go_wp2_with fail
        refine HC3.mono ?_
        rintro e V3 ⟨rfl, hb3⟩
        dsimp only
        clear HC3
        have hS3 : Hid (Below A.heap.size A V3) := hS2.out.trans (hb3.mono hS2.out.size)
        clear hb3
        refine hK1.out _ _ hS3.out ?_
        clear hK1
        intro _
        try simp only [Act.put, List.setIfInBounds_toArray, List.set_cons_zero, List.set_cons_succ]
        refine wpAnyH_take (i := 20) (oi := o26_20) (v := .bool false) rfl (by kernel_rfl) (by kernel_rfl) (by kernel_rfl) (fun _ _ _ h => h.elim) (Or.inl ⟨by rfl, ?y10⟩) hS3.out ?_
        case y10 =>
          intro V hV
          dsimp only [o26_20]
          go_simp
        simp only [Act.put, List.setIfInBounds_toArray, List.set_cons_zero, List.set_cons_succ]
        refine wpAnyH_take (i := 21) (oi := o26_21) (v := .bool false) rfl (by kernel_rfl) (by kernel_rfl) (by kernel_rfl) (fun _ _ _ h => h.elim) (Or.inl ⟨by rfl, ?y11⟩) hS3.out ?_
        case y11 =>
          intro V hV
          dsimp only [o26_21]
          go_simp
        simp only [Act.put, List.setIfInBounds_toArray, List.set_cons_zero, List.set_cons_succ]
        refine wpAnyH_take (i := 22) (oi := o26_22) (v := .bool false) rfl (by kernel_rfl) (by kernel_rfl) (by kernel_rfl) (fun _ _ _ h => h.elim) (Or.inl ⟨by rfl, ?y12⟩) hS3.out ?_
        case y12 =>
          intro V hV
          dsimp only [o26_22]
          go_simp
        simp only [Act.put, List.setIfInBounds_toArray, List.set_cons_zero, List.set_cons_succ]
        refine wpAnyH_done (by kernel_rfl) ?_ _
        exact hQ V3 hS3.out
set_option maxRecDepth 100000 in
set_option maxHeartbeats 4000000 in
theorem ro3 {Q : Exit → Act → World → Prop} {x0 x1 x4 x5 x6 x7 x8 x9 x10 x11 x12 x13 x14 x15 x16 x17 x18 x19 x20 x21 x22 x23 x24 x25 x26 x27 x28 x29 x30 x31 x32 x33 x34 x35 x36 x37 x38 x39 x40 x41 x42 x43 x44 x45 x46 x47 x48 x49 x50 x51 x52 x53 x54 x55 x56 x57 x58 x59 x60 x61 x62 x63 x64 x65 x66 x67 x68 x69 x70 x71 x72 x73 x74 x75 x76 x77 x78 x79 x80 x81 x82 x83 x84 x85 x86 x87 x88 x89 x90 x91 x92 x93 x94 x95 x96 x97 x98 x99 : Value} {ds : List Deferred} {A : World} {d2 d3 : Nat} {p : PV} {o : OpV} {DL : Bool}
    (HL : Hid (d2 < A.heap.size ∧ d3 < A.heap.size)) (HR : Hid (A.rangeAt d2 0 p.cells)) (HU : Hid (A.rangeAt d3 2 o.up.cells)) (HDn : Hid (A.rangeAt d3 35 o.dn.cells)) (HV : Hid (o.up.ok ∧ o.dn.ok)) (H52 : Hid (∀ V, Below A.heap.size A V → Calls Try.prog 52 #[] V fun e V2 => e = .returned (.agg vTop.cells.toArray) ∧ Below V.heap.size V V2)) (H53 : Hid (∀ V, Below A.heap.size A V → Calls Try.prog 53 #[] V fun e V2 => e = .returned (.agg vBot.cells.toArray) ∧ Below V.heap.size V V2)) (HUT : Hid (eqVx o.up vTop = false)) (H51u : Hid (∀ V, Below A.heap.size A V → Calls Try.prog 51 #[.agg p.cells.toArray, .agg o.up.cells.toArray] V fun e V2 => e = .returned (.bool true) ∧ Below V.heap.size V V2)) (HDB : Hid (eqVx o.dn vBot = true)) (H51d : Hid (∀ V, Below A.heap.size A V → Calls Try.prog 51 #[.agg p.cells.toArray, .agg o.dn.cells.toArray] V fun e V2 => e = .returned (.bool DL) ∧ Below V.heap.size V V2))
    (hQ : ∀ V1, Below A.heap.size A V1 → Q .normal { tmps := #[x0, x1, .pointer (some ⟨d2, 0, none⟩), .pointer (some ⟨d3, 0, none⟩), .bool true, x5, x6, x7, x8, x9, x10, x11, x12, x13, x14, x15, x16, x17, x18, x19, x20, x21, x22, x23, x24, x25, x26, x27, x28, x29, x30, x31, x32, x33, x34, x35, x36, x37, x38, x39, x40, x41, x42, x43, x44, x45, x46, x47, x48, x49, x50, x51, x52, x53, x54, x55, x56, x57, x58, x59, x60, x61, x62, x63, x64, x65, x66, x67, x68, x69, x70, x71, x72, x73, x74, x75, x76, x77, .pointer (some ⟨d3, 2, none⟩), .agg o.up.cells.toArray, .agg vTop.cells.toArray, .bool false, .bool false, .agg p.cells.toArray, .pointer (some ⟨d3, 2, none⟩), .agg o.up.cells.toArray, .bool true, .bool true, .bool true, .pointer (some ⟨d3, 35, none⟩), .agg o.dn.cells.toArray, .agg vBot.cells.toArray, .bool true, .bool true, undef, undef, undef, undef, .bool true, .bool true], defers := ds } V1) :
    (Code.region 17 #[o26_0, o26_1, o26_2, o26_3, o26_4, o26_5, o26_6, o26_7, o26_8, o26_9, o26_10, o26_11, o26_12, o26_13, o26_14, o26_15, o26_16, o26_17, o26_18, o26_19, o26_20, o26_21, o26_22] true).wp Try.prog Q { tmps := #[x0, x1, .pointer (some ⟨d2, 0, none⟩), .pointer (some ⟨d3, 0, none⟩), x4, x5, x6, x7, x8, x9, x10, x11, x12, x13, x14, x15, x16, x17, x18, x19, x20, x21, x22, x23, x24, x25, x26, x27, x28, x29, x30, x31, x32, x33, x34, x35, x36, x37, x38, x39, x40, x41, x42, x43, x44, x45, x46, x47, x48, x49, x50, x51, x52, x53, x54, x55, x56, x57, x58, x59, x60, x61, x62, x63, x64, x65, x66, x67, x68, x69, x70, x71, x72, x73, x74, x75, x76, x77, x78, x79, x80, x81, x82, x83, x84, x85, x86, x87, x88, x89, x90, x91, x92, x93, x94, x95, x96, x97, x98, x99], defers := ds } A := by
  refine Code.wp_mono (Q := fun x a' w' => match x with | .normal => Q .normal a' w' | _ => False) (by intro x a' w' h; cases x <;> first | exact h | exact h.elim) ?_
  refine wp_region_held (S := fun V => Below A.heap.size A V) (by kernel_rfl) ?_
  have hS0 : Hid (Below A.heap.size A A.drew) := below_drew0 A
  change wpAnyH Try.prog .any _ _ (fun V => Below A.heap.size A V) 23 (Array.replicate 23 false) _ A.drew
  obtain ⟨V0, hV0⟩ : ∃ V0, A.drew = V0 := ⟨_, rfl⟩
  rw [hV0]
  rw [hV0] at hS0
  clear hV0
  refine wpAnyH_take (i := 0) (oi := o26_0) (v := .pointer (some ⟨d3, 2, none⟩)) rfl (by kernel_rfl) (by kernel_rfl) (by kernel_rfl) (fun _ _ _ h => h.elim) (Or.inl ⟨by rfl, ?y1⟩) hS0.out ?_
  case y1 =>
    intro V hV
    dsimp only [o26_0]
    go_simp
  simp only [Act.put, List.setIfInBounds_toArray, List.set_cons_zero, List.set_cons_succ]
  refine wpAnyH_take (i := 1) (oi := o26_1) (v := .agg o.up.cells.toArray) rfl (by kernel_rfl) (by kernel_rfl) (by kernel_rfl) (fun _ _ _ h => h.elim) (yieldsIf_load_mid (by rfl) _ _ rfl _ _ rfl (o.up.cells) _ (fun V hV => rangeAt_same (HU.out) ((show Below A.heap.size A V from hV).block _ (HL.out.2))) Try.underlying49 rfl (info49 HV.out.1)) hS0.out ?_
  simp only [Act.put, List.setIfInBounds_toArray, List.set_cons_zero, List.set_cons_succ]
  refine wpAnyH_ready (rs := [2]) (by kernel_rfl) (by simp) (AllReadyH.cons (i := 2) (o := o26_2) rfl ?_ AllReadyH.nil)
  · intro K1 hK1
    dsimp only [o26_2]
    rw [if_pos (by rfl)]
    have HC1 := H52.out V0 hS0.out
    go_wp2_with fail
    refine HC1.mono ?_
    rintro e V1 ⟨rfl, hb1⟩
    dsimp only
    clear HC1
    have hS1 : Hid (Below A.heap.size A V1) := hS0.out.trans (hb1.mono hS0.out.size)
    clear hb1
    refine hK1.out _ _ hS1.out ?_
    clear hK1
    intro _
    try simp only [Act.put, List.setIfInBounds_toArray, List.set_cons_zero, List.set_cons_succ]
    refine wpAnyH_take (i := 3) (oi := o26_3) (v := .bool false) rfl (by kernel_rfl) (by kernel_rfl) (by kernel_rfl) (fun _ _ _ h => h.elim) (Or.inl ⟨by rfl, ?y2⟩) hS1.out ?_
    case y2 =>
      intro V hV
      exact yl_eqV V _ _ o.up vTop HV.out.1 vTop_ok false HUT.out rfl rfl rfl
    simp only [Act.put, List.setIfInBounds_toArray, List.set_cons_zero, List.set_cons_succ]
    refine wpAnyH_take (i := 4) (oi := o26_4) (v := .bool false) rfl (by kernel_rfl) (by kernel_rfl) (by kernel_rfl) (fun _ _ _ h => h.elim) (Or.inl ⟨by rfl, ?y3⟩) hS1.out ?_
    case y3 =>
      intro V hV
      dsimp only [o26_4]
      go_simp
    simp only [Act.put, List.setIfInBounds_toArray, List.set_cons_zero, List.set_cons_succ]
    refine wpAnyH_take (i := 5) (oi := o26_5) (v := .agg p.cells.toArray) rfl (by kernel_rfl) (by kernel_rfl) (by kernel_rfl) (fun _ _ _ h => h.elim) (yieldsIf_load_mid (by rfl) _ _ rfl _ _ rfl (p.cells) _ (fun V hV => rangeAt_same (HR.out) ((show Below A.heap.size A V from hV).block _ (HL.out.1))) Try.underlying25 rfl (info25 p)) hS1.out ?_
    simp only [Act.put, List.setIfInBounds_toArray, List.set_cons_zero, List.set_cons_succ]
    refine wpAnyH_take (i := 6) (oi := o26_6) (v := .pointer (some ⟨d3, 2, none⟩)) rfl (by kernel_rfl) (by kernel_rfl) (by kernel_rfl) (fun _ _ _ h => h.elim) (Or.inl ⟨by rfl, ?y4⟩) hS1.out ?_
    case y4 =>
      intro V hV
      dsimp only [o26_6]
      go_simp
    simp only [Act.put, List.setIfInBounds_toArray, List.set_cons_zero, List.set_cons_succ]
    refine wpAnyH_take (i := 7) (oi := o26_7) (v := .agg o.up.cells.toArray) rfl (by kernel_rfl) (by kernel_rfl) (by kernel_rfl) (fun _ _ _ h => h.elim) (yieldsIf_load_mid (by rfl) _ _ rfl _ _ rfl (o.up.cells) _ (fun V hV => rangeAt_same (HU.out) ((show Below A.heap.size A V from hV).block _ (HL.out.2))) Try.underlying49 rfl (info49 HV.out.1)) hS1.out ?_
    simp only [Act.put, List.setIfInBounds_toArray, List.set_cons_zero, List.set_cons_succ]
    refine wpAnyH_ready (rs := [8]) (by kernel_rfl) (by simp) (AllReadyH.cons (i := 8) (o := o26_8) rfl ?_ AllReadyH.nil)
    · intro K1 hK1
      dsimp only [o26_8]
      rw [if_pos (by rfl)]
      have HC2 := H51u.out V1 hS1.out
      go_wp2_with fail
      refine HC2.mono ?_
      rintro e V2 ⟨rfl, hb2⟩
      dsimp only
      clear HC2
      have hS2 : Hid (Below A.heap.size A V2) := hS1.out.trans (hb2.mono hS1.out.size)
      clear hb2
      refine hK1.out _ _ hS2.out ?_
      clear hK1
      intro _
      try simp only [Act.put, List.setIfInBounds_toArray, List.set_cons_zero, List.set_cons_succ]
      refine wpAnyH_take (i := 9) (oi := o26_9) (v := .bool true) rfl (by kernel_rfl) (by kernel_rfl) (by kernel_rfl) (fun _ _ _ h => h.elim) (Or.inl ⟨by rfl, ?y5⟩) hS2.out ?_
      case y5 =>
        intro V hV
        dsimp only [o26_9]
        go_simp
      simp only [Act.put, List.setIfInBounds_toArray, List.set_cons_zero, List.set_cons_succ]
      refine wpAnyH_take (i := 10) (oi := o26_10) (v := .bool true) rfl (by kernel_rfl) (by kernel_rfl) (by kernel_rfl) (fun _ _ _ h => h.elim) (Or.inl ⟨by rfl, ?y6⟩) hS2.out ?_
      case y6 =>
        intro V hV
        dsimp only [o26_10]
        go_simp
      simp only [Act.put, List.setIfInBounds_toArray, List.set_cons_zero, List.set_cons_succ]
      refine wpAnyH_take (i := 11) (oi := o26_11) (v := .pointer (some ⟨d3, 35, none⟩)) rfl (by kernel_rfl) (by kernel_rfl) (by kernel_rfl) (fun _ _ _ h => h.elim) (Or.inl ⟨by rfl, ?y7⟩) hS2.out ?_
      case y7 =>
        intro V hV
        dsimp only [o26_11]
        go_simp
      simp only [Act.put, List.setIfInBounds_toArray, List.set_cons_zero, List.set_cons_succ]
      refine wpAnyH_take (i := 12) (oi := o26_12) (v := .agg o.dn.cells.toArray) rfl (by kernel_rfl) (by kernel_rfl) (by kernel_rfl) (fun _ _ _ h => h.elim) (yieldsIf_load_mid (by rfl) _ _ rfl _ _ rfl (o.dn.cells) _ (fun V hV => rangeAt_same (HDn.out) ((show Below A.heap.size A V from hV).block _ (HL.out.2))) Try.underlying49 rfl (info49 HV.out.2)) hS2.out ?_
      simp only [Act.put, List.setIfInBounds_toArray, List.set_cons_zero, List.set_cons_succ]
      refine wpAnyH_ready (rs := [13]) (by kernel_rfl) (by simp) (AllReadyH.cons (i := 13) (o := o26_13) rfl ?_ AllReadyH.nil)
      · intro K1 hK1
        dsimp only [o26_13]
        rw [if_pos (by rfl)]
        have HC3 := H53.out V2 hS2.out
        go_wp2_with fail
        refine HC3.mono ?_
        rintro e V3 ⟨rfl, hb3⟩
        dsimp only
        clear HC3
        have hS3 : Hid (Below A.heap.size A V3) := hS2.out.trans (hb3.mono hS2.out.size)
        clear hb3
        refine hK1.out _ _ hS3.out ?_
        clear hK1
        intro _
        try simp only [Act.put, List.setIfInBounds_toArray, List.set_cons_zero, List.set_cons_succ]
        refine wpAnyH_take (i := 14) (oi := o26_14) (v := .bool true) rfl (by kernel_rfl) (by kernel_rfl) (by kernel_rfl) (fun _ _ _ h => h.elim) (Or.inl ⟨by rfl, ?y8⟩) hS3.out ?_
        case y8 =>
          intro V hV
          exact yl_eqV V _ _ o.dn vBot HV.out.2 vBot_ok true HDB.out rfl rfl rfl
        simp only [Act.put, List.setIfInBounds_toArray, List.set_cons_zero, List.set_cons_succ]
        refine wpAnyH_take (i := 15) (oi := o26_15) (v := .bool true) rfl (by kernel_rfl) (by kernel_rfl) (by kernel_rfl) (fun _ _ _ h => h.elim) (Or.inl ⟨by rfl, ?y9⟩) hS3.out ?_
        case y9 =>
          intro V hV
          dsimp only [o26_15]
          go_simp
        simp only [Act.put, List.setIfInBounds_toArray, List.set_cons_zero, List.set_cons_succ]
        refine wpAnyH_take (i := 16) (oi := o26_16) (v := undef) rfl (by kernel_rfl) (by kernel_rfl) (by kernel_rfl) (fun _ _ _ h => h.elim) (Or.inr ⟨by rfl, rfl⟩) hS3.out ?_
        simp only [Act.put, List.setIfInBounds_toArray, List.set_cons_zero, List.set_cons_succ]
        refine wpAnyH_take (i := 17) (oi := o26_17) (v := undef) rfl (by kernel_rfl) (by kernel_rfl) (by kernel_rfl) (fun _ _ _ h => h.elim) (Or.inr ⟨by rfl, rfl⟩) hS3.out ?_
        simp only [Act.put, List.setIfInBounds_toArray, List.set_cons_zero, List.set_cons_succ]
        refine wpAnyH_take (i := 18) (oi := o26_18) (v := undef) rfl (by kernel_rfl) (by kernel_rfl) (by kernel_rfl) (fun _ _ _ h => h.elim) (Or.inr ⟨by rfl, rfl⟩) hS3.out ?_
        simp only [Act.put, List.setIfInBounds_toArray, List.set_cons_zero, List.set_cons_succ]
        refine wpAnyH_take (i := 19) (oi := o26_19) (v := undef) rfl (by kernel_rfl) (by kernel_rfl) (by kernel_rfl) (fun _ _ _ h => h.elim) (Or.inr ⟨by rfl, rfl⟩) hS3.out ?_
        simp only [Act.put, List.setIfInBounds_toArray, List.set_cons_zero, List.set_cons_succ]
        refine wpAnyH_take (i := 20) (oi := o26_20) (v := .bool true) rfl (by kernel_rfl) (by kernel_rfl) (by kernel_rfl) (fun _ _ _ h => h.elim) (Or.inl ⟨by rfl, ?y10⟩) hS3.out ?_
        case y10 =>
          intro V hV
          dsimp only [o26_20]
          go_simp
        simp only [Act.put, List.setIfInBounds_toArray, List.set_cons_zero, List.set_cons_succ]
        refine wpAnyH_take (i := 21) (oi := o26_21) (v := .bool true) rfl (by kernel_rfl) (by kernel_rfl) (by kernel_rfl) (fun _ _ _ h => h.elim) (Or.inl ⟨by rfl, ?y11⟩) hS3.out ?_
        case y11 =>
          intro V hV
          dsimp only [o26_21]
          go_simp
        simp only [Act.put, List.setIfInBounds_toArray, List.set_cons_zero, List.set_cons_succ]
        refine wpAnyH_take (i := 22) (oi := o26_22) (v := .bool true) rfl (by kernel_rfl) (by kernel_rfl) (by kernel_rfl) (fun _ _ _ h => h.elim) (Or.inl ⟨by rfl, ?y12⟩) hS3.out ?_
        case y12 =>
          intro V hV
          dsimp only [o26_22]
          go_simp
        simp only [Act.put, List.setIfInBounds_toArray, List.set_cons_zero, List.set_cons_succ]
        refine wpAnyH_done (by kernel_rfl) ?_ _
        exact hQ V3 hS3.out
set_option maxRecDepth 100000 in
set_option maxHeartbeats 4000000 in
theorem ro4 {Q : Exit → Act → World → Prop} {x0 x1 x4 x5 x6 x7 x8 x9 x10 x11 x12 x13 x14 x15 x16 x17 x18 x19 x20 x21 x22 x23 x24 x25 x26 x27 x28 x29 x30 x31 x32 x33 x34 x35 x36 x37 x38 x39 x40 x41 x42 x43 x44 x45 x46 x47 x48 x49 x50 x51 x52 x53 x54 x55 x56 x57 x58 x59 x60 x61 x62 x63 x64 x65 x66 x67 x68 x69 x70 x71 x72 x73 x74 x75 x76 x77 x78 x79 x80 x81 x82 x83 x84 x85 x86 x87 x88 x89 x90 x91 x92 x93 x94 x95 x96 x97 x98 x99 : Value} {ds : List Deferred} {A : World} {d2 d3 : Nat} {p : PV} {o : OpV}
    (HL : Hid (d2 < A.heap.size ∧ d3 < A.heap.size)) (HR : Hid (A.rangeAt d2 0 p.cells)) (HU : Hid (A.rangeAt d3 2 o.up.cells)) (HDn : Hid (A.rangeAt d3 35 o.dn.cells)) (HV : Hid (o.up.ok ∧ o.dn.ok)) (H52 : Hid (∀ V, Below A.heap.size A V → Calls Try.prog 52 #[] V fun e V2 => e = .returned (.agg vTop.cells.toArray) ∧ Below V.heap.size V V2)) (H53 : Hid (∀ V, Below A.heap.size A V → Calls Try.prog 53 #[] V fun e V2 => e = .returned (.agg vBot.cells.toArray) ∧ Below V.heap.size V V2)) (HUT : Hid (eqVx o.up vTop = false)) (H51u : Hid (∀ V, Below A.heap.size A V → Calls Try.prog 51 #[.agg p.cells.toArray, .agg o.up.cells.toArray] V fun e V2 => e = .returned (.bool true) ∧ Below V.heap.size V V2)) (HDB : Hid (eqVx o.dn vBot = false)) (H51d : Hid (∀ V, Below A.heap.size A V → Calls Try.prog 51 #[.agg p.cells.toArray, .agg o.dn.cells.toArray] V fun e V2 => e = .returned (.bool true) ∧ Below V.heap.size V V2))
    (hQ : ∀ V1, Below A.heap.size A V1 → Q .normal { tmps := #[x0, x1, .pointer (some ⟨d2, 0, none⟩), .pointer (some ⟨d3, 0, none⟩), .bool true, x5, x6, x7, x8, x9, x10, x11, x12, x13, x14, x15, x16, x17, x18, x19, x20, x21, x22, x23, x24, x25, x26, x27, x28, x29, x30, x31, x32, x33, x34, x35, x36, x37, x38, x39, x40, x41, x42, x43, x44, x45, x46, x47, x48, x49, x50, x51, x52, x53, x54, x55, x56, x57, x58, x59, x60, x61, x62, x63, x64, x65, x66, x67, x68, x69, x70, x71, x72, x73, x74, x75, x76, x77, .pointer (some ⟨d3, 2, none⟩), .agg o.up.cells.toArray, .agg vTop.cells.toArray, .bool false, .bool false, .agg p.cells.toArray, .pointer (some ⟨d3, 2, none⟩), .agg o.up.cells.toArray, .bool true, .bool true, .bool true, .pointer (some ⟨d3, 35, none⟩), .agg o.dn.cells.toArray, .agg vBot.cells.toArray, .bool false, .bool false, .agg p.cells.toArray, .pointer (some ⟨d3, 35, none⟩), .agg o.dn.cells.toArray, .bool true, .bool true, .bool true], defers := ds } V1) :
    (Code.region 17 #[o26_0, o26_1, o26_2, o26_3, o26_4, o26_5, o26_6, o26_7, o26_8, o26_9, o26_10, o26_11, o26_12, o26_13, o26_14, o26_15, o26_16, o26_17, o26_18, o26_19, o26_20, o26_21, o26_22] true).wp Try.prog Q { tmps := #[x0, x1, .pointer (some ⟨d2, 0, none⟩), .pointer (some ⟨d3, 0, none⟩), x4, x5, x6, x7, x8, x9, x10, x11, x12, x13, x14, x15, x16, x17, x18, x19, x20, x21, x22, x23, x24, x25, x26, x27, x28, x29, x30, x31, x32, x33, x34, x35, x36, x37, x38, x39, x40, x41, x42, x43, x44, x45, x46, x47, x48, x49, x50, x51, x52, x53, x54, x55, x56, x57, x58, x59, x60, x61, x62, x63, x64, x65, x66, x67, x68, x69, x70, x71, x72, x73, x74, x75, x76, x77, x78, x79, x80, x81, x82, x83, x84, x85, x86, x87, x88, x89, x90, x91, x92, x93, x94, x95, x96, x97, x98, x99], defers := ds } A := by
  refine Code.wp_mono (Q := fun x a' w' => match x with | .normal => Q .normal a' w' | _ => False) (by intro x a' w' h; cases x <;> first | exact h | exact h.elim) ?_
  refine wp_region_held (S := fun V => Below A.heap.size A V) (by kernel_rfl) ?_
  have hS0 : Hid (Below A.heap.size A A.drew) := below_drew0 A
  change wpAnyH Try.prog .any _ _ (fun V => Below A.heap.size A V) 23 (Array.replicate 23 false) _ A.drew
  obtain ⟨V0, hV0⟩ : ∃ V0, A.drew = V0 := ⟨_, rfl⟩
  rw [hV0]
  rw [hV0] at hS0
  clear hV0
  refine wpAnyH_take (i := 0) (oi := o26_0) (v := .pointer (some ⟨d3, 2, none⟩)) rfl (by kernel_rfl) (by kernel_rfl) (by kernel_rfl) (fun _ _ _ h => h.elim) (Or.inl ⟨by rfl, ?y1⟩) hS0.out ?_
  case y1 =>
    intro V hV
    dsimp only [o26_0]
    go_simp
  simp only [Act.put, List.setIfInBounds_toArray, List.set_cons_zero, List.set_cons_succ]
  refine wpAnyH_take (i := 1) (oi := o26_1) (v := .agg o.up.cells.toArray) rfl (by kernel_rfl) (by kernel_rfl) (by kernel_rfl) (fun _ _ _ h => h.elim) (yieldsIf_load_mid (by rfl) _ _ rfl _ _ rfl (o.up.cells) _ (fun V hV => rangeAt_same (HU.out) ((show Below A.heap.size A V from hV).block _ (HL.out.2))) Try.underlying49 rfl (info49 HV.out.1)) hS0.out ?_
  simp only [Act.put, List.setIfInBounds_toArray, List.set_cons_zero, List.set_cons_succ]
  refine wpAnyH_ready (rs := [2]) (by kernel_rfl) (by simp) (AllReadyH.cons (i := 2) (o := o26_2) rfl ?_ AllReadyH.nil)
  · intro K1 hK1
    dsimp only [o26_2]
    rw [if_pos (by rfl)]
    have HC1 := H52.out V0 hS0.out
    go_wp2_with fail
    refine HC1.mono ?_
    rintro e V1 ⟨rfl, hb1⟩
    dsimp only
    clear HC1
    have hS1 : Hid (Below A.heap.size A V1) := hS0.out.trans (hb1.mono hS0.out.size)
    clear hb1
    refine hK1.out _ _ hS1.out ?_
    clear hK1
    intro _
    try simp only [Act.put, List.setIfInBounds_toArray, List.set_cons_zero, List.set_cons_succ]
    refine wpAnyH_take (i := 3) (oi := o26_3) (v := .bool false) rfl (by kernel_rfl) (by kernel_rfl) (by kernel_rfl) (fun _ _ _ h => h.elim) (Or.inl ⟨by rfl, ?y2⟩) hS1.out ?_
    case y2 =>
      intro V hV
      exact yl_eqV V _ _ o.up vTop HV.out.1 vTop_ok false HUT.out rfl rfl rfl
    simp only [Act.put, List.setIfInBounds_toArray, List.set_cons_zero, List.set_cons_succ]
    refine wpAnyH_take (i := 4) (oi := o26_4) (v := .bool false) rfl (by kernel_rfl) (by kernel_rfl) (by kernel_rfl) (fun _ _ _ h => h.elim) (Or.inl ⟨by rfl, ?y3⟩) hS1.out ?_
    case y3 =>
      intro V hV
      dsimp only [o26_4]
      go_simp
    simp only [Act.put, List.setIfInBounds_toArray, List.set_cons_zero, List.set_cons_succ]
    refine wpAnyH_take (i := 5) (oi := o26_5) (v := .agg p.cells.toArray) rfl (by kernel_rfl) (by kernel_rfl) (by kernel_rfl) (fun _ _ _ h => h.elim) (yieldsIf_load_mid (by rfl) _ _ rfl _ _ rfl (p.cells) _ (fun V hV => rangeAt_same (HR.out) ((show Below A.heap.size A V from hV).block _ (HL.out.1))) Try.underlying25 rfl (info25 p)) hS1.out ?_
    simp only [Act.put, List.setIfInBounds_toArray, List.set_cons_zero, List.set_cons_succ]
    refine wpAnyH_take (i := 6) (oi := o26_6) (v := .pointer (some ⟨d3, 2, none⟩)) rfl (by kernel_rfl) (by kernel_rfl) (by kernel_rfl) (fun _ _ _ h => h.elim) (Or.inl ⟨by rfl, ?y4⟩) hS1.out ?_
    case y4 =>
      intro V hV
      dsimp only [o26_6]
      go_simp
    simp only [Act.put, List.setIfInBounds_toArray, List.set_cons_zero, List.set_cons_succ]
    refine wpAnyH_take (i := 7) (oi := o26_7) (v := .agg o.up.cells.toArray) rfl (by kernel_rfl) (by kernel_rfl) (by kernel_rfl) (fun _ _ _ h => h.elim) (yieldsIf_load_mid (by rfl) _ _ rfl _ _ rfl (o.up.cells) _ (fun V hV => rangeAt_same (HU.out) ((show Below A.heap.size A V from hV).block _ (HL.out.2))) Try.underlying49 rfl (info49 HV.out.1)) hS1.out ?_
    simp only [Act.put, List.setIfInBounds_toArray, List.set_cons_zero, List.set_cons_succ]
    refine wpAnyH_ready (rs := [8]) (by kernel_rfl) (by simp) (AllReadyH.cons (i := 8) (o := o26_8) rfl ?_ AllReadyH.nil)
    · intro K1 hK1
      dsimp only [o26_8]
      rw [if_pos (by rfl)]
      have HC2 := H51u.out V1 hS1.out
      go_wp2_with fail
      refine HC2.mono ?_
      rintro e V2 ⟨rfl, hb2⟩
      dsimp only
      clear HC2
      have hS2 : Hid (Below A.heap.size A V2) := hS1.out.trans (hb2.mono hS1.out.size)
      clear hb2
      refine hK1.out _ _ hS2.out ?_
      clear hK1
      intro _
      try simp only [Act.put, List.setIfInBounds_toArray, List.set_cons_zero, List.set_cons_succ]
      refine wpAnyH_take (i := 9) (oi := o26_9) (v := .bool true) rfl (by kernel_rfl) (by kernel_rfl) (by kernel_rfl) (fun _ _ _ h => h.elim) (Or.inl ⟨by rfl, ?y5⟩) hS2.out ?_
      case y5 =>
        intro V hV
        dsimp only [o26_9]
        go_simp
      simp only [Act.put, List.setIfInBounds_toArray, List.set_cons_zero, List.set_cons_succ]
      refine wpAnyH_take (i := 10) (oi := o26_10) (v := .bool true) rfl (by kernel_rfl) (by kernel_rfl) (by kernel_rfl) (fun _ _ _ h => h.elim) (Or.inl ⟨by rfl, ?y6⟩) hS2.out ?_
      case y6 =>
        intro V hV
        dsimp only [o26_10]
        go_simp
      simp only [Act.put, List.setIfInBounds_toArray, List.set_cons_zero, List.set_cons_succ]
      refine wpAnyH_take (i := 11) (oi := o26_11) (v := .pointer (some ⟨d3, 35, none⟩)) rfl (by kernel_rfl) (by kernel_rfl) (by kernel_rfl) (fun _ _ _ h => h.elim) (Or.inl ⟨by rfl, ?y7⟩) hS2.out ?_
      case y7 =>
        intro V hV
        dsimp only [o26_11]
        go_simp
      simp only [Act.put, List.setIfInBounds_toArray, List.set_cons_zero, List.set_cons_succ]
      refine wpAnyH_take (i := 12) (oi := o26_12) (v := .agg o.dn.cells.toArray) rfl (by kernel_rfl) (by kernel_rfl) (by kernel_rfl) (fun _ _ _ h => h.elim) (yieldsIf_load_mid (by rfl) _ _ rfl _ _ rfl (o.dn.cells) _ (fun V hV => rangeAt_same (HDn.out) ((show Below A.heap.size A V from hV).block _ (HL.out.2))) Try.underlying49 rfl (info49 HV.out.2)) hS2.out ?_
      simp only [Act.put, List.setIfInBounds_toArray, List.set_cons_zero, List.set_cons_succ]
      refine wpAnyH_ready (rs := [13]) (by kernel_rfl) (by simp) (AllReadyH.cons (i := 13) (o := o26_13) rfl ?_ AllReadyH.nil)
      · intro K1 hK1
        dsimp only [o26_13]
        rw [if_pos (by rfl)]
        have HC3 := H53.out V2 hS2.out
        go_wp2_with fail
        refine HC3.mono ?_
        rintro e V3 ⟨rfl, hb3⟩
        dsimp only
        clear HC3
        have hS3 : Hid (Below A.heap.size A V3) := hS2.out.trans (hb3.mono hS2.out.size)
        clear hb3
        refine hK1.out _ _ hS3.out ?_
        clear hK1
        intro _
        try simp only [Act.put, List.setIfInBounds_toArray, List.set_cons_zero, List.set_cons_succ]
        refine wpAnyH_take (i := 14) (oi := o26_14) (v := .bool false) rfl (by kernel_rfl) (by kernel_rfl) (by kernel_rfl) (fun _ _ _ h => h.elim) (Or.inl ⟨by rfl, ?y8⟩) hS3.out ?_
        case y8 =>
          intro V hV
          exact yl_eqV V _ _ o.dn vBot HV.out.2 vBot_ok false HDB.out rfl rfl rfl
        simp only [Act.put, List.setIfInBounds_toArray, List.set_cons_zero, List.set_cons_succ]
        refine wpAnyH_take (i := 15) (oi := o26_15) (v := .bool false) rfl (by kernel_rfl) (by kernel_rfl) (by kernel_rfl) (fun _ _ _ h => h.elim) (Or.inl ⟨by rfl, ?y9⟩) hS3.out ?_
        case y9 =>
          intro V hV
          dsimp only [o26_15]
          go_simp
        simp only [Act.put, List.setIfInBounds_toArray, List.set_cons_zero, List.set_cons_succ]
        refine wpAnyH_take (i := 16) (oi := o26_16) (v := .agg p.cells.toArray) rfl (by kernel_rfl) (by kernel_rfl) (by kernel_rfl) (fun _ _ _ h => h.elim) (yieldsIf_load_mid (by rfl) _ _ rfl _ _ rfl (p.cells) _ (fun V hV => rangeAt_same (HR.out) ((show Below A.heap.size A V from hV).block _ (HL.out.1))) Try.underlying25 rfl (info25 p)) hS3.out ?_
        simp only [Act.put, List.setIfInBounds_toArray, List.set_cons_zero, List.set_cons_succ]
        refine wpAnyH_take (i := 17) (oi := o26_17) (v := .pointer (some ⟨d3, 35, none⟩)) rfl (by kernel_rfl) (by kernel_rfl) (by kernel_rfl) (fun _ _ _ h => h.elim) (Or.inl ⟨by rfl, ?y10⟩) hS3.out ?_
        case y10 =>
          intro V hV
          dsimp only [o26_17]
          go_simp
        simp only [Act.put, List.setIfInBounds_toArray, List.set_cons_zero, List.set_cons_succ]
        refine wpAnyH_take (i := 18) (oi := o26_18) (v := .agg o.dn.cells.toArray) rfl (by kernel_rfl) (by kernel_rfl) (by kernel_rfl) (fun _ _ _ h => h.elim) (yieldsIf_load_mid (by rfl) _ _ rfl _ _ rfl (o.dn.cells) _ (fun V hV => rangeAt_same (HDn.out) ((show Below A.heap.size A V from hV).block _ (HL.out.2))) Try.underlying49 rfl (info49 HV.out.2)) hS3.out ?_
        simp only [Act.put, List.setIfInBounds_toArray, List.set_cons_zero, List.set_cons_succ]
        refine wpAnyH_ready (rs := [19]) (by kernel_rfl) (by simp) (AllReadyH.cons (i := 19) (o := o26_19) rfl ?_ AllReadyH.nil)
        · intro K1 hK1
          dsimp only [o26_19]
          rw [if_pos (by rfl)]
          have HC4 := H51d.out V3 hS3.out
          go_wp2_with fail
          refine HC4.mono ?_
          rintro e V4 ⟨rfl, hb4⟩
          dsimp only
          clear HC4
          have hS4 : Hid (Below A.heap.size A V4) := hS3.out.trans (hb4.mono hS3.out.size)
          clear hb4
          refine hK1.out _ _ hS4.out ?_
          clear hK1
          intro _
          try simp only [Act.put, List.setIfInBounds_toArray, List.set_cons_zero, List.set_cons_succ]
          refine wpAnyH_take (i := 20) (oi := o26_20) (v := .bool true) rfl (by kernel_rfl) (by kernel_rfl) (by kernel_rfl) (fun _ _ _ h => h.elim) (Or.inl ⟨by rfl, ?y11⟩) hS4.out ?_
          case y11 =>
            intro V hV
            dsimp only [o26_20]
            go_simp
          simp only [Act.put, List.setIfInBounds_toArray, List.set_cons_zero, List.set_cons_succ]
          refine wpAnyH_take (i := 21) (oi := o26_21) (v := .bool true) rfl (by kernel_rfl) (by kernel_rfl) (by kernel_rfl) (fun _ _ _ h => h.elim) (Or.inl ⟨by rfl, ?y12⟩) hS4.out ?_
          case y12 =>
            intro V hV
            dsimp only [o26_21]
            go_simp
          simp only [Act.put, List.setIfInBounds_toArray, List.set_cons_zero, List.set_cons_succ]
          refine wpAnyH_take (i := 22) (oi := o26_22) (v := .bool true) rfl (by kernel_rfl) (by kernel_rfl) (by kernel_rfl) (fun _ _ _ h => h.elim) (Or.inl ⟨by rfl, ?y13⟩) hS4.out ?_
          case y13 =>
            intro V hV
            dsimp only [o26_22]
            go_simp
          simp only [Act.put, List.setIfInBounds_toArray, List.set_cons_zero, List.set_cons_succ]
          refine wpAnyH_done (by kernel_rfl) ?_ _
          exact hQ V4 hS4.out
set_option maxRecDepth 100000 in
set_option maxHeartbeats 4000000 in
theorem ro5 {Q : Exit → Act → World → Prop} {x0 x1 x4 x5 x6 x7 x8 x9 x10 x11 x12 x13 x14 x15 x16 x17 x18 x19 x20 x21 x22 x23 x24 x25 x26 x27 x28 x29 x30 x31 x32 x33 x34 x35 x36 x37 x38 x39 x40 x41 x42 x43 x44 x45 x46 x47 x48 x49 x50 x51 x52 x53 x54 x55 x56 x57 x58 x59 x60 x61 x62 x63 x64 x65 x66 x67 x68 x69 x70 x71 x72 x73 x74 x75 x76 x77 x78 x79 x80 x81 x82 x83 x84 x85 x86 x87 x88 x89 x90 x91 x92 x93 x94 x95 x96 x97 x98 x99 : Value} {ds : List Deferred} {A : World} {d2 d3 : Nat} {p : PV} {o : OpV}
    (HL : Hid (d2 < A.heap.size ∧ d3 < A.heap.size)) (HR : Hid (A.rangeAt d2 0 p.cells)) (HU : Hid (A.rangeAt d3 2 o.up.cells)) (HDn : Hid (A.rangeAt d3 35 o.dn.cells)) (HV : Hid (o.up.ok ∧ o.dn.ok)) (H52 : Hid (∀ V, Below A.heap.size A V → Calls Try.prog 52 #[] V fun e V2 => e = .returned (.agg vTop.cells.toArray) ∧ Below V.heap.size V V2)) (H53 : Hid (∀ V, Below A.heap.size A V → Calls Try.prog 53 #[] V fun e V2 => e = .returned (.agg vBot.cells.toArray) ∧ Below V.heap.size V V2)) (HUT : Hid (eqVx o.up vTop = false)) (H51u : Hid (∀ V, Below A.heap.size A V → Calls Try.prog 51 #[.agg p.cells.toArray, .agg o.up.cells.toArray] V fun e V2 => e = .returned (.bool true) ∧ Below V.heap.size V V2)) (HDB : Hid (eqVx o.dn vBot = false)) (H51d : Hid (∀ V, Below A.heap.size A V → Calls Try.prog 51 #[.agg p.cells.toArray, .agg o.dn.cells.toArray] V fun e V2 => e = .returned (.bool false) ∧ Below V.heap.size V V2))
    (hQ : ∀ V1, Below A.heap.size A V1 → Q .normal { tmps := #[x0, x1, .pointer (some ⟨d2, 0, none⟩), .pointer (some ⟨d3, 0, none⟩), .bool false, x5, x6, x7, x8, x9, x10, x11, x12, x13, x14, x15, x16, x17, x18, x19, x20, x21, x22, x23, x24, x25, x26, x27, x28, x29, x30, x31, x32, x33, x34, x35, x36, x37, x38, x39, x40, x41, x42, x43, x44, x45, x46, x47, x48, x49, x50, x51, x52, x53, x54, x55, x56, x57, x58, x59, x60, x61, x62, x63, x64, x65, x66, x67, x68, x69, x70, x71, x72, x73, x74, x75, x76, x77, .pointer (some ⟨d3, 2, none⟩), .agg o.up.cells.toArray, .agg vTop.cells.toArray, .bool false, .bool false, .agg p.cells.toArray, .pointer (some ⟨d3, 2, none⟩), .agg o.up.cells.toArray, .bool true, .bool true, .bool true, .pointer (some ⟨d3, 35, none⟩), .agg o.dn.cells.toArray, .agg vBot.cells.toArray, .bool false, .bool false, .agg p.cells.toArray, .pointer (some ⟨d3, 35, none⟩), .agg o.dn.cells.toArray, .bool false, .bool false, .bool false], defers := ds } V1) :
    (Code.region 17 #[o26_0, o26_1, o26_2, o26_3, o26_4, o26_5, o26_6, o26_7, o26_8, o26_9, o26_10, o26_11, o26_12, o26_13, o26_14, o26_15, o26_16, o26_17, o26_18, o26_19, o26_20, o26_21, o26_22] true).wp Try.prog Q { tmps := #[x0, x1, .pointer (some ⟨d2, 0, none⟩), .pointer (some ⟨d3, 0, none⟩), x4, x5, x6, x7, x8, x9, x10, x11, x12, x13, x14, x15, x16, x17, x18, x19, x20, x21, x22, x23, x24, x25, x26, x27, x28, x29, x30, x31, x32, x33, x34, x35, x36, x37, x38, x39, x40, x41, x42, x43, x44, x45, x46, x47, x48, x49, x50, x51, x52, x53, x54, x55, x56, x57, x58, x59, x60, x61, x62, x63, x64, x65, x66, x67, x68, x69, x70, x71, x72, x73, x74, x75, x76, x77, x78, x79, x80, x81, x82, x83, x84, x85, x86, x87, x88, x89, x90, x91, x92, x93, x94, x95, x96, x97, x98, x99], defers := ds } A := by
  refine Code.wp_mono (Q := fun x a' w' => match x with | .normal => Q .normal a' w' | _ => False) (by intro x a' w' h; cases x <;> first | exact h | exact h.elim) ?_
  refine wp_region_held (S := fun V => Below A.heap.size A V) (by kernel_rfl) ?_
  have hS0 : Hid (Below A.heap.size A A.drew) := below_drew0 A
  change wpAnyH Try.prog .any _ _ (fun V => Below A.heap.size A V) 23 (Array.replicate 23 false) _ A.drew
  obtain ⟨V0, hV0⟩ : ∃ V0, A.drew = V0 := ⟨_, rfl⟩
  rw [hV0]
  rw [hV0] at hS0
  clear hV0
  refine wpAnyH_take (i := 0) (oi := o26_0) (v := .pointer (some ⟨d3, 2, none⟩)) rfl (by kernel_rfl) (by kernel_rfl) (by kernel_rfl) (fun _ _ _ h => h.elim) (Or.inl ⟨by rfl, ?y1⟩) hS0.out ?_
  case y1 =>
    intro V hV
    dsimp only [o26_0]
    go_simp
  simp only [Act.put, List.setIfInBounds_toArray, List.set_cons_zero, List.set_cons_succ]
  refine wpAnyH_take (i := 1) (oi := o26_1) (v := .agg o.up.cells.toArray) rfl (by kernel_rfl) (by kernel_rfl) (by kernel_rfl) (fun _ _ _ h => h.elim) (yieldsIf_load_mid (by rfl) _ _ rfl _ _ rfl (o.up.cells) _ (fun V hV => rangeAt_same (HU.out) ((show Below A.heap.size A V from hV).block _ (HL.out.2))) Try.underlying49 rfl (info49 HV.out.1)) hS0.out ?_
  simp only [Act.put, List.setIfInBounds_toArray, List.set_cons_zero, List.set_cons_succ]
  refine wpAnyH_ready (rs := [2]) (by kernel_rfl) (by simp) (AllReadyH.cons (i := 2) (o := o26_2) rfl ?_ AllReadyH.nil)
  · intro K1 hK1
    dsimp only [o26_2]
    rw [if_pos (by rfl)]
    have HC1 := H52.out V0 hS0.out
    go_wp2_with fail
    refine HC1.mono ?_
    rintro e V1 ⟨rfl, hb1⟩
    dsimp only
    clear HC1
    have hS1 : Hid (Below A.heap.size A V1) := hS0.out.trans (hb1.mono hS0.out.size)
    clear hb1
    refine hK1.out _ _ hS1.out ?_
    clear hK1
    intro _
    try simp only [Act.put, List.setIfInBounds_toArray, List.set_cons_zero, List.set_cons_succ]
    refine wpAnyH_take (i := 3) (oi := o26_3) (v := .bool false) rfl (by kernel_rfl) (by kernel_rfl) (by kernel_rfl) (fun _ _ _ h => h.elim) (Or.inl ⟨by rfl, ?y2⟩) hS1.out ?_
    case y2 =>
      intro V hV
      exact yl_eqV V _ _ o.up vTop HV.out.1 vTop_ok false HUT.out rfl rfl rfl
    simp only [Act.put, List.setIfInBounds_toArray, List.set_cons_zero, List.set_cons_succ]
    refine wpAnyH_take (i := 4) (oi := o26_4) (v := .bool false) rfl (by kernel_rfl) (by kernel_rfl) (by kernel_rfl) (fun _ _ _ h => h.elim) (Or.inl ⟨by rfl, ?y3⟩) hS1.out ?_
    case y3 =>
      intro V hV
      dsimp only [o26_4]
      go_simp
    simp only [Act.put, List.setIfInBounds_toArray, List.set_cons_zero, List.set_cons_succ]
    refine wpAnyH_take (i := 5) (oi := o26_5) (v := .agg p.cells.toArray) rfl (by kernel_rfl) (by kernel_rfl) (by kernel_rfl) (fun _ _ _ h => h.elim) (yieldsIf_load_mid (by rfl) _ _ rfl _ _ rfl (p.cells) _ (fun V hV => rangeAt_same (HR.out) ((show Below A.heap.size A V from hV).block _ (HL.out.1))) Try.underlying25 rfl (info25 p)) hS1.out ?_
    simp only [Act.put, List.setIfInBounds_toArray, List.set_cons_zero, List.set_cons_succ]
    refine wpAnyH_take (i := 6) (oi := o26_6) (v := .pointer (some ⟨d3, 2, none⟩)) rfl (by kernel_rfl) (by kernel_rfl) (by kernel_rfl) (fun _ _ _ h => h.elim) (Or.inl ⟨by rfl, ?y4⟩) hS1.out ?_
    case y4 =>
      intro V hV
      dsimp only [o26_6]
      go_simp
    simp only [Act.put, List.setIfInBounds_toArray, List.set_cons_zero, List.set_cons_succ]
    refine wpAnyH_take (i := 7) (oi := o26_7) (v := .agg o.up.cells.toArray) rfl (by kernel_rfl) (by kernel_rfl) (by kernel_rfl) (fun _ _ _ h => h.elim) (yieldsIf_load_mid (by rfl) _ _ rfl _ _ rfl (o.up.cells) _ (fun V hV => rangeAt_same (HU.out) ((show Below A.heap.size A V from hV).block _ (HL.out.2))) Try.underlying49 rfl (info49 HV.out.1)) hS1.out ?_
    simp only [Act.put, List.setIfInBounds_toArray, List.set_cons_zero, List.set_cons_succ]
    refine wpAnyH_ready (rs := [8]) (by kernel_rfl) (by simp) (AllReadyH.cons (i := 8) (o := o26_8) rfl ?_ AllReadyH.nil)
    · intro K1 hK1
      dsimp only [o26_8]
      rw [if_pos (by rfl)]
      have HC2 := H51u.out V1 hS1.out
      go_wp2_with fail
      refine HC2.mono ?_
      rintro e V2 ⟨rfl, hb2⟩
      dsimp only
      clear HC2
      have hS2 : Hid (Below A.heap.size A V2) := hS1.out.trans (hb2.mono hS1.out.size)
      clear hb2
      refine hK1.out _ _ hS2.out ?_
      clear hK1
      intro _
      try simp only [Act.put, List.setIfInBounds_toArray, List.set_cons_zero, List.set_cons_succ]
      refine wpAnyH_take (i := 9) (oi := o26_9) (v := .bool true) rfl (by kernel_rfl) (by kernel_rfl) (by kernel_rfl) (fun _ _ _ h => h.elim) (Or.inl ⟨by rfl, ?y5⟩) hS2.out ?_
      case y5 =>
        intro V hV
        dsimp only [o26_9]
        go_simp
      simp only [Act.put, List.setIfInBounds_toArray, List.set_cons_zero, List.set_cons_succ]
      refine wpAnyH_take (i := 10) (oi := o26_10) (v := .bool true) rfl (by kernel_rfl) (by kernel_rfl) (by kernel_rfl) (fun _ _ _ h => h.elim) (Or.inl ⟨by rfl, ?y6⟩) hS2.out ?_
      case y6 =>
        intro V hV
        dsimp only [o26_10]
        go_simp
      simp only [Act.put, List.setIfInBounds_toArray, List.set_cons_zero, List.set_cons_succ]
      refine wpAnyH_take (i := 11) (oi := o26_11) (v := .pointer (some ⟨d3, 35, none⟩)) rfl (by kernel_rfl) (by kernel_rfl) (by kernel_rfl) (fun _ _ _ h => h.elim) (Or.inl ⟨by rfl, ?y7⟩) hS2.out ?_
      case y7 =>
        intro V hV
        dsimp only [o26_11]
        go_simp
      simp only [Act.put, List.setIfInBounds_toArray, List.set_cons_zero, List.set_cons_succ]
      refine wpAnyH_take (i := 12) (oi := o26_12) (v := .agg o.dn.cells.toArray) rfl (by kernel_rfl) (by kernel_rfl) (by kernel_rfl) (fun _ _ _ h => h.elim) (yieldsIf_load_mid (by rfl) _ _ rfl _ _ rfl (o.dn.cells) _ (fun V hV => rangeAt_same (HDn.out) ((show Below A.heap.size A V from hV).block _ (HL.out.2))) Try.underlying49 rfl (info49 HV.out.2)) hS2.out ?_
      simp only [Act.put, List.setIfInBounds_toArray, List.set_cons_zero, List.set_cons_succ]
      refine wpAnyH_ready (rs := [13]) (by kernel_rfl) (by simp) (AllReadyH.cons (i := 13) (o := o26_13) rfl ?_ AllReadyH.nil)
      · intro K1 hK1
        dsimp only [o26_13]
        rw [if_pos (by rfl)]
        have HC3 := H53.out V2 hS2.out
        go_wp2_with fail
        refine HC3.mono ?_
        rintro e V3 ⟨rfl, hb3⟩
        dsimp only
        clear HC3
        have hS3 : Hid (Below A.heap.size A V3) := hS2.out.trans (hb3.mono hS2.out.size)
        clear hb3
        refine hK1.out _ _ hS3.out ?_
        clear hK1
        intro _
        try simp only [Act.put, List.setIfInBounds_toArray, List.set_cons_zero, List.set_cons_succ]
        refine wpAnyH_take (i := 14) (oi := o26_14) (v := .bool false) rfl (by kernel_rfl) (by kernel_rfl) (by kernel_rfl) (fun _ _ _ h => h.elim) (Or.inl ⟨by rfl, ?y8⟩) hS3.out ?_
        case y8 =>
          intro V hV
          exact yl_eqV V _ _ o.dn vBot HV.out.2 vBot_ok false HDB.out rfl rfl rfl
        simp only [Act.put, List.setIfInBounds_toArray, List.set_cons_zero, List.set_cons_succ]
        refine wpAnyH_take (i := 15) (oi := o26_15) (v := .bool false) rfl (by kernel_rfl) (by kernel_rfl) (by kernel_rfl) (fun _ _ _ h => h.elim) (Or.inl ⟨by rfl, ?y9⟩) hS3.out ?_
        case y9 =>
          intro V hV
          dsimp only [o26_15]
          go_simp
        simp only [Act.put, List.setIfInBounds_toArray, List.set_cons_zero, List.set_cons_succ]
        refine wpAnyH_take (i := 16) (oi := o26_16) (v := .agg p.cells.toArray) rfl (by kernel_rfl) (by kernel_rfl) (by kernel_rfl) (fun _ _ _ h => h.elim) (yieldsIf_load_mid (by rfl) _ _ rfl _ _ rfl (p.cells) _ (fun V hV => rangeAt_same (HR.out) ((show Below A.heap.size A V from hV).block _ (HL.out.1))) Try.underlying25 rfl (info25 p)) hS3.out ?_
        simp only [Act.put, List.setIfInBounds_toArray, List.set_cons_zero, List.set_cons_succ]
        refine wpAnyH_take (i := 17) (oi := o26_17) (v := .pointer (some ⟨d3, 35, none⟩)) rfl (by kernel_rfl) (by kernel_rfl) (by kernel_rfl) (fun _ _ _ h => h.elim) (Or.inl ⟨by rfl, ?y10⟩) hS3.out ?_
        case y10 =>
          intro V hV
          dsimp only [o26_17]
          go_simp
        simp only [Act.put, List.setIfInBounds_toArray, List.set_cons_zero, List.set_cons_succ]
        refine wpAnyH_take (i := 18) (oi := o26_18) (v := .agg o.dn.cells.toArray) rfl (by kernel_rfl) (by kernel_rfl) (by kernel_rfl) (fun _ _ _ h => h.elim) (yieldsIf_load_mid (by rfl) _ _ rfl _ _ rfl (o.dn.cells) _ (fun V hV => rangeAt_same (HDn.out) ((show Below A.heap.size A V from hV).block _ (HL.out.2))) Try.underlying49 rfl (info49 HV.out.2)) hS3.out ?_
        simp only [Act.put, List.setIfInBounds_toArray, List.set_cons_zero, List.set_cons_succ]
        refine wpAnyH_ready (rs := [19]) (by kernel_rfl) (by simp) (AllReadyH.cons (i := 19) (o := o26_19) rfl ?_ AllReadyH.nil)
        · intro K1 hK1
          dsimp only [o26_19]
          rw [if_pos (by rfl)]
          have HC4 := H51d.out V3 hS3.out
          go_wp2_with fail
          refine HC4.mono ?_
          rintro e V4 ⟨rfl, hb4⟩
          dsimp only
          clear HC4
          have hS4 : Hid (Below A.heap.size A V4) := hS3.out.trans (hb4.mono hS3.out.size)
          clear hb4
          refine hK1.out _ _ hS4.out ?_
          clear hK1
          intro _
          try simp only [Act.put, List.setIfInBounds_toArray, List.set_cons_zero, List.set_cons_succ]
          refine wpAnyH_take (i := 20) (oi := o26_20) (v := .bool false) rfl (by kernel_rfl) (by kernel_rfl) (by kernel_rfl) (fun _ _ _ h => h.elim) (Or.inl ⟨by rfl, ?y11⟩) hS4.out ?_
          case y11 =>
            intro V hV
            dsimp only [o26_20]
            go_simp
          simp only [Act.put, List.setIfInBounds_toArray, List.set_cons_zero, List.set_cons_succ]
          refine wpAnyH_take (i := 21) (oi := o26_21) (v := .bool false) rfl (by kernel_rfl) (by kernel_rfl) (by kernel_rfl) (fun _ _ _ h => h.elim) (Or.inl ⟨by rfl, ?y12⟩) hS4.out ?_
          case y12 =>
            intro V hV
            dsimp only [o26_21]
            go_simp
          simp only [Act.put, List.setIfInBounds_toArray, List.set_cons_zero, List.set_cons_succ]
          refine wpAnyH_take (i := 22) (oi := o26_22) (v := .bool false) rfl (by kernel_rfl) (by kernel_rfl) (by kernel_rfl) (fun _ _ _ h => h.elim) (Or.inl ⟨by rfl, ?y13⟩) hS4.out ?_
          case y13 =>
            intro V hV
            dsimp only [o26_22]
            go_simp
          simp only [Act.put, List.setIfInBounds_toArray, List.set_cons_zero, List.set_cons_succ]
          refine wpAnyH_done (by kernel_rfl) ?_ _
          exact hQ V4 hS4.out
set_option maxRecDepth 100000 in
set_option maxHeartbeats 4000000 in
theorem ro6 {Q : Exit → Act → World → Prop} {x0 x1 x4 x5 x6 x7 x8 x9 x10 x11 x12 x13 x14 x15 x16 x17 x18 x19 x20 x21 x22 x23 x24 x25 x26 x27 x28 x29 x30 x31 x32 x33 x34 x35 x36 x37 x38 x39 x40 x41 x42 x43 x44 x45 x46 x47 x48 x49 x50 x51 x52 x53 x54 x55 x56 x57 x58 x59 x60 x61 x62 x63 x64 x65 x66 x67 x68 x69 x70 x71 x72 x73 x74 x75 x76 x77 x78 x79 x80 x81 x82 x83 x84 x85 x86 x87 x88 x89 x90 x91 x92 x93 x94 x95 x96 x97 x98 x99 : Value} {ds : List Deferred} {A : World} {d2 d3 : Nat} {p : PV} {o : OpV} {dB DL : Bool}
    (HL : Hid (d2 < A.heap.size ∧ d3 < A.heap.size)) (HR : Hid (A.rangeAt d2 0 p.cells)) (HU : Hid (A.rangeAt d3 2 o.up.cells)) (HDn : Hid (A.rangeAt d3 35 o.dn.cells)) (HV : Hid (o.up.ok ∧ o.dn.ok)) (H52 : Hid (∀ V, Below A.heap.size A V → Calls Try.prog 52 #[] V fun e V2 => e = .returned (.agg vTop.cells.toArray) ∧ Below V.heap.size V V2)) (H53 : Hid (∀ V, Below A.heap.size A V → Calls Try.prog 53 #[] V fun e V2 => e = .returned (.agg vBot.cells.toArray) ∧ Below V.heap.size V V2)) (HUT : Hid (eqVx o.up vTop = false)) (H51u : Hid (∀ V, Below A.heap.size A V → Calls Try.prog 51 #[.agg p.cells.toArray, .agg o.up.cells.toArray] V fun e V2 => e = .returned (.bool false) ∧ Below V.heap.size V V2)) (HDB : Hid (eqVx o.dn vBot = dB)) (H51d : Hid (∀ V, Below A.heap.size A V → Calls Try.prog 51 #[.agg p.cells.toArray, .agg o.dn.cells.toArray] V fun e V2 => e = .returned (.bool DL) ∧ Below V.heap.size V V2))
    (hQ : ∀ V1, Below A.heap.size A V1 → Q .normal { tmps := #[x0, x1, .pointer (some ⟨d2, 0, none⟩), .pointer (some ⟨d3, 0, none⟩), .bool false, x5, x6, x7, x8, x9, x10, x11, x12, x13, x14, x15, x16, x17, x18, x19, x20, x21, x22, x23, x24, x25, x26, x27, x28, x29, x30, x31, x32, x33, x34, x35, x36, x37, x38, x39, x40, x41, x42, x43, x44, x45, x46, x47, x48, x49, x50, x51, x52, x53, x54, x55, x56, x57, x58, x59, x60, x61, x62, x63, x64, x65, x66, x67, x68, x69, x70, x71, x72, x73, x74, x75, x76, x77, .pointer (some ⟨d3, 2, none⟩), .agg o.up.cells.toArray, .agg vTop.cells.toArray, .bool false, .bool false, .agg p.cells.toArray, .pointer (some ⟨d3, 2, none⟩), .agg o.up.cells.toArray, .bool false, .bool false, .bool false, undef, undef, undef, undef, undef, undef, undef, undef, undef, undef, .bool false], defers := ds } V1) :
    (Code.region 17 #[o26_0, o26_1, o26_2, o26_3, o26_4, o26_5, o26_6, o26_7, o26_8, o26_9, o26_10, o26_11, o26_12, o26_13, o26_14, o26_15, o26_16, o26_17, o26_18, o26_19, o26_20, o26_21, o26_22] true).wp Try.prog Q { tmps := #[x0, x1, .pointer (some ⟨d2, 0, none⟩), .pointer (some ⟨d3, 0, none⟩), x4, x5, x6, x7, x8, x9, x10, x11, x12, x13, x14, x15, x16, x17, x18, x19, x20, x21, x22, x23, x24, x25, x26, x27, x28, x29, x30, x31, x32, x33, x34, x35, x36, x37, x38, x39, x40, x41, x42, x43, x44, x45, x46, x47, x48, x49, x50, x51, x52, x53, x54, x55, x56, x57, x58, x59, x60, x61, x62, x63, x64, x65, x66, x67, x68, x69, x70, x71, x72, x73, x74, x75, x76, x77, x78, x79, x80, x81, x82, x83, x84, x85, x86, x87, x88, x89, x90, x91, x92, x93, x94, x95, x96, x97, x98, x99], defers := ds } A := by
  refine Code.wp_mono (Q := fun x a' w' => match x with | .normal => Q .normal a' w' | _ => False) (by intro x a' w' h; cases x <;> first | exact h | exact h.elim) ?_
  refine wp_region_held (S := fun V => Below A.heap.size A V) (by kernel_rfl) ?_
  have hS0 : Hid (Below A.heap.size A A.drew) := below_drew0 A
  change wpAnyH Try.prog .any _ _ (fun V => Below A.heap.size A V) 23 (Array.replicate 23 false) _ A.drew
  obtain ⟨V0, hV0⟩ : ∃ V0, A.drew = V0 := ⟨_, rfl⟩
  rw [hV0]
  rw [hV0] at hS0
  clear hV0
  refine wpAnyH_take (i := 0) (oi := o26_0) (v := .pointer (some ⟨d3, 2, none⟩)) rfl (by kernel_rfl) (by kernel_rfl) (by kernel_rfl) (fun _ _ _ h => h.elim) (Or.inl ⟨by rfl, ?y1⟩) hS0.out ?_
  case y1 =>
    intro V hV
    dsimp only [o26_0]
    go_simp
  simp only [Act.put, List.setIfInBounds_toArray, List.set_cons_zero, List.set_cons_succ]
  refine wpAnyH_take (i := 1) (oi := o26_1) (v := .agg o.up.cells.toArray) rfl (by kernel_rfl) (by kernel_rfl) (by kernel_rfl) (fun _ _ _ h => h.elim) (yieldsIf_load_mid (by rfl) _ _ rfl _ _ rfl (o.up.cells) _ (fun V hV => rangeAt_same (HU.out) ((show Below A.heap.size A V from hV).block _ (HL.out.2))) Try.underlying49 rfl (info49 HV.out.1)) hS0.out ?_
  simp only [Act.put, List.setIfInBounds_toArray, List.set_cons_zero, List.set_cons_succ]
  refine wpAnyH_ready (rs := [2]) (by kernel_rfl) (by simp) (AllReadyH.cons (i := 2) (o := o26_2) rfl ?_ AllReadyH.nil)
  · intro K1 hK1
    dsimp only [o26_2]
    rw [if_pos (by rfl)]
    have HC1 := H52.out V0 hS0.out
    go_wp2_with fail
    refine HC1.mono ?_
    rintro e V1 ⟨rfl, hb1⟩
    dsimp only
    clear HC1
    have hS1 : Hid (Below A.heap.size A V1) := hS0.out.trans (hb1.mono hS0.out.size)
    clear hb1
    refine hK1.out _ _ hS1.out ?_
    clear hK1
    intro _
    try simp only [Act.put, List.setIfInBounds_toArray, List.set_cons_zero, List.set_cons_succ]
    refine wpAnyH_take (i := 3) (oi := o26_3) (v := .bool false) rfl (by kernel_rfl) (by kernel_rfl) (by kernel_rfl) (fun _ _ _ h => h.elim) (Or.inl ⟨by rfl, ?y2⟩) hS1.out ?_
    case y2 =>
      intro V hV
      exact yl_eqV V _ _ o.up vTop HV.out.1 vTop_ok false HUT.out rfl rfl rfl
    simp only [Act.put, List.setIfInBounds_toArray, List.set_cons_zero, List.set_cons_succ]
    refine wpAnyH_take (i := 4) (oi := o26_4) (v := .bool false) rfl (by kernel_rfl) (by kernel_rfl) (by kernel_rfl) (fun _ _ _ h => h.elim) (Or.inl ⟨by rfl, ?y3⟩) hS1.out ?_
    case y3 =>
      intro V hV
      dsimp only [o26_4]
      go_simp
    simp only [Act.put, List.setIfInBounds_toArray, List.set_cons_zero, List.set_cons_succ]
    refine wpAnyH_take (i := 5) (oi := o26_5) (v := .agg p.cells.toArray) rfl (by kernel_rfl) (by kernel_rfl) (by kernel_rfl) (fun _ _ _ h => h.elim) (yieldsIf_load_mid (by rfl) _ _ rfl _ _ rfl (p.cells) _ (fun V hV => rangeAt_same (HR.out) ((show Below A.heap.size A V from hV).block _ (HL.out.1))) Try.underlying25 rfl (info25 p)) hS1.out ?_
    simp only [Act.put, List.setIfInBounds_toArray, List.set_cons_zero, List.set_cons_succ]
    refine wpAnyH_take (i := 6) (oi := o26_6) (v := .pointer (some ⟨d3, 2, none⟩)) rfl (by kernel_rfl) (by kernel_rfl) (by kernel_rfl) (fun _ _ _ h => h.elim) (Or.inl ⟨by rfl, ?y4⟩) hS1.out ?_
    case y4 =>
      intro V hV
      dsimp only [o26_6]
      go_simp
    simp only [Act.put, List.setIfInBounds_toArray, List.set_cons_zero, List.set_cons_succ]
    refine wpAnyH_take (i := 7) (oi := o26_7) (v := .agg o.up.cells.toArray) rfl (by kernel_rfl) (by kernel_rfl) (by kernel_rfl) (fun _ _ _ h => h.elim) (yieldsIf_load_mid (by rfl) _ _ rfl _ _ rfl (o.up.cells) _ (fun V hV => rangeAt_same (HU.out) ((show Below A.heap.size A V from hV).block _ (HL.out.2))) Try.underlying49 rfl (info49 HV.out.1)) hS1.out ?_
    simp only [Act.put, List.setIfInBounds_toArray, List.set_cons_zero, List.set_cons_succ]
    refine wpAnyH_ready (rs := [8]) (by kernel_rfl) (by simp) (AllReadyH.cons (i := 8) (o := o26_8) rfl ?_ AllReadyH.nil)
    · intro K1 hK1
      dsimp only [o26_8]
      rw [if_pos (by rfl)]
      have HC2 := H51u.out V1 hS1.out
      go_wp2_with fail
      refine HC2.mono ?_
      rintro e V2 ⟨rfl, hb2⟩
      dsimp only
      clear HC2
      have hS2 : Hid (Below A.heap.size A V2) := hS1.out.trans (hb2.mono hS1.out.size)
      clear hb2
      refine hK1.out _ _ hS2.out ?_
      clear hK1
      intro _
      try simp only [Act.put, List.setIfInBounds_toArray, List.set_cons_zero, List.set_cons_succ]
      refine wpAnyH_take (i := 9) (oi := o26_9) (v := .bool false) rfl (by kernel_rfl) (by kernel_rfl) (by kernel_rfl) (fun _ _ _ h => h.elim) (Or.inl ⟨by rfl, ?y5⟩) hS2.out ?_
      case y5 =>
        intro V hV
        dsimp only [o26_9]
        go_simp
      simp only [Act.put, List.setIfInBounds_toArray, List.set_cons_zero, List.set_cons_succ]
      refine wpAnyH_take (i := 10) (oi := o26_10) (v := .bool false) rfl (by kernel_rfl) (by kernel_rfl) (by kernel_rfl) (fun _ _ _ h => h.elim) (Or.inl ⟨by rfl, ?y6⟩) hS2.out ?_
      case y6 =>
        intro V hV
        dsimp only [o26_10]
        go_simp
      simp only [Act.put, List.setIfInBounds_toArray, List.set_cons_zero, List.set_cons_succ]
      refine wpAnyH_take (i := 11) (oi := o26_11) (v := undef) rfl (by kernel_rfl) (by kernel_rfl) (by kernel_rfl) (fun _ _ _ h => h.elim) (Or.inr ⟨by rfl, rfl⟩) hS2.out ?_
      simp only [Act.put, List.setIfInBounds_toArray, List.set_cons_zero, List.set_cons_succ]
      refine wpAnyH_take (i := 12) (oi := o26_12) (v := undef) rfl (by kernel_rfl) (by kernel_rfl) (by kernel_rfl) (fun _ _ _ h => h.elim) (Or.inr ⟨by rfl, rfl⟩) hS2.out ?_
      simp only [Act.put, List.setIfInBounds_toArray, List.set_cons_zero, List.set_cons_succ]
      refine wpAnyH_take (i := 13) (oi := o26_13) (v := undef) rfl (by kernel_rfl) (by kernel_rfl) (by kernel_rfl) (fun _ _ _ h => h.elim) (Or.inr ⟨by rfl, rfl⟩) hS2.out ?_
      simp only [Act.put, List.setIfInBounds_toArray, List.set_cons_zero, List.set_cons_succ]
      refine wpAnyH_take (i := 14) (oi := o26_14) (v := undef) rfl (by kernel_rfl) (by kernel_rfl) (by kernel_rfl) (fun _ _ _ h => h.elim) (Or.inr ⟨by rfl, rfl⟩) hS2.out ?_
      simp only [Act.put, List.setIfInBounds_toArray, List.set_cons_zero, List.set_cons_succ]
      refine wpAnyH_take (i := 15) (oi := o26_15) (v := undef) rfl (by kernel_rfl) (by kernel_rfl) (by kernel_rfl) (fun _ _ _ h => h.elim) (Or.inr ⟨by rfl, rfl⟩) hS2.out ?_
      simp only [Act.put, List.setIfInBounds_toArray, List.set_cons_zero, List.set_cons_succ]
      refine wpAnyH_take (i := 16) (oi := o26_16) (v := undef) rfl (by kernel_rfl) (by kernel_rfl) (by kernel_rfl) (fun _ _ _ h => h.elim) (Or.inr ⟨by rfl, rfl⟩) hS2.out ?_
      simp only [Act.put, List.setIfInBounds_toArray, List.set_cons_zero, List.set_cons_succ]
      refine wpAnyH_take (i := 17) (oi := o26_17) (v := undef) rfl (by kernel_rfl) (by kernel_rfl) (by kernel_rfl) (fun _ _ _ h => h.elim) (Or.inr ⟨by rfl, rfl⟩) hS2.out ?_
      simp only [Act.put, List.setIfInBounds_toArray, List.set_cons_zero, List.set_cons_succ]
      refine wpAnyH_take (i := 18) (oi := o26_18) (v := undef) rfl (by kernel_rfl) (by kernel_rfl) (by kernel_rfl) (fun _ _ _ h => h.elim) (Or.inr ⟨by rfl, rfl⟩) hS2.out ?_
      simp only [Act.put, List.setIfInBounds_toArray, List.set_cons_zero, List.set_cons_succ]
      refine wpAnyH_take (i := 19) (oi := o26_19) (v := undef) rfl (by kernel_rfl) (by kernel_rfl) (by kernel_rfl) (fun _ _ _ h => h.elim) (Or.inr ⟨by rfl, rfl⟩) hS2.out ?_
      simp only [Act.put, List.setIfInBounds_toArray, List.set_cons_zero, List.set_cons_succ]
      refine wpAnyH_take (i := 20) (oi := o26_20) (v := undef) rfl (by kernel_rfl) (by kernel_rfl) (by kernel_rfl) (fun _ _ _ h => h.elim) (Or.inr ⟨by rfl, rfl⟩) hS2.out ?_
      simp only [Act.put, List.setIfInBounds_toArray, List.set_cons_zero, List.set_cons_succ]
      refine wpAnyH_take (i := 21) (oi := o26_21) (v := .bool false) rfl (by kernel_rfl) (by kernel_rfl) (by kernel_rfl) (fun _ _ _ h => h.elim) (Or.inl ⟨by rfl, ?y7⟩) hS2.out ?_
      case y7 =>
        intro V hV
        dsimp only [o26_21]
        go_simp
      simp only [Act.put, List.setIfInBounds_toArray, List.set_cons_zero, List.set_cons_succ]
      refine wpAnyH_take (i := 22) (oi := o26_22) (v := .bool false) rfl (by kernel_rfl) (by kernel_rfl) (by kernel_rfl) (fun _ _ _ h => h.elim) (Or.inl ⟨by rfl, ?y8⟩) hS2.out ?_
      case y8 =>
        intro V hV
        dsimp only [o26_22]
        go_simp
      simp only [Act.put, List.setIfInBounds_toArray, List.set_cons_zero, List.set_cons_succ]
      refine wpAnyH_done (by kernel_rfl) ?_ _
      exact hQ V2 hS2.out
end Go.Proofs.Ytgdecjacbkicmaa.Oct

/- Layer 10 (patch): the reference: an operation. -/
namespace Go.Proofs.Ytgdecjacbkicmaa.Oct
open Go.RowKit
set_option maxRecDepth 100000
set_option linter.unusedSimpArgs false
set_option linter.unusedVariables false

theorem run_idx (s : BA) (i : Nat) (c : UInt8) (h : s.data.toList[i]? = some c) (W : World) : (Instr.index 9 (.string s) (iv (i : Int))).run Try.prog W = .ok (bv (c.toNat : Int)) W := by
  have hs : s[i]? = some c := by
    have hi := (List.getElem?_eq_some_iff.1 h).1
    have hi' : i < s.size := hi
    rw [getElem?_pos s i hi']
    have := (List.getElem?_eq_some_iff.1 h).2
    rw [← this]
    rfl
  simp [Instr.index, run_underlying Try.underlying9, asIntOf, hs, go_sem]
theorem wpList_idx {ops : Array Oper} {rest : List Oper} {o : Oper} {a : Act} {w : World} {Q : Exit → Act → World → Prop} (hgd : o.guard = none) (x y : Operand) (hop : o.op = .index 9 x y) (s : BA) (i : Nat) (c : UInt8) (hx : a.eval x = .string s) (hy : a.eval y = iv (i : Int)) (h : s.data.toList[i]? = some c)
    (hk : wpList Try.prog ops Q rest (a.put o.dst (bv (c.toNat : Int))) w) : wpList Try.prog ops Q (o :: rest) a w := by
  refine wpList_plain hgd fun K hK => ?_
  have h1 := run_idx s i c h w
  unfold Oper.wp execOp
  simp only [hop, Sem.run_bind, Sem.run_pure, Result.andThen_ok, hx, hy, h1]
  exact hK _ _ hk
theorem opB_two {D : List Hs} {o : OpV} (hp : isPath o.path.data.toList = true) (h : o.kind = 2) : opB D o = (lineOf D o.up && (eqVx o.dn vTop && decide (o.ln = 0))) := by
  unfold opB addB killB
  rw [hp, h]
  simp
theorem opB_one {D : List Hs} {o : OpV} (hp : isPath o.path.data.toList = true) (h : o.kind = 1) : opB D o = (decide (0 < (o.ln : Int)) && (!o.ts.any bad && ((eqVx o.up vTop || lineOf D o.up) && ((eqVx o.dn vBot || lineOf D o.dn) && !eqVx o.up o.dn)))) := by
  unfold opB addB killB
  rw [hp, h]
  simp
theorem opB_no {D : List Hs} {o : OpV} (h1 : o.kind ≠ 1) (h2 : o.kind ≠ 2) : opB D o = false := by
  unfold opB addB killB
  simp [h1, h2]
set_option maxHeartbeats 8000000 in
theorem rop_is (w : World) (p : PV) (o : OpV) (hp : PR w p) (hz : p.dn ≤ 100000) (ho : o.ok) (hs : Strs w o.la o.ln o.ts) (B : Bool) (hB : opB p.D o = B) : Calls Try.prog 26 #[.agg p.cells.toArray, .agg o.cells.toArray] w fun e w' => e = .returned (.bool B) ∧ Below w.heap.size w w' := by
  obtain ⟨d2, hd2⟩ : ∃ d, w.heap.size = d := ⟨_, rfl⟩
  obtain ⟨W1, hW1⟩ : ∃ W, w.alloc (.cells p.cells.toArray 25) = W := ⟨_, rfl⟩
  obtain ⟨d3, hd3⟩ : ∃ d, W1.heap.size = d := ⟨_, rfl⟩
  obtain ⟨W, hW⟩ : ∃ W, W1.alloc (.cells o.cells.toArray 51) = W := ⟨_, rfl⟩
  have b1 : Below w.heap.size w W1 := by rw [← hW1]; exact below_al _ _
  have b2 : Below W1.heap.size W1 W := by rw [← hW]; exact below_al _ _
  have k2 : Blk W d2 25 p.cells := by have h : Blk W1 d2 25 p.cells := by rw [← hW1, ← hd2]; exact Blk.new w _ _
                                      exact h.below b2 h.lt
  have k3 : OpB W d3 o := ⟨by rw [← hW, ← hd3]; exact Blk.new W1 _ _, ho⟩
  have c1 := k3.path
  have qps : (o.path.size : Int) ≤ 140737488355328 := by have := ho.2.2.2.2.1; omega
  have HP : Hid (PR W p ∧ p.dn ≤ 100000 ∧ o.ok ∧ Strs W o.la o.ln o.ts ∧ Below w.heap.size w W ∧ Blk W d2 25 p.cells ∧ OpB W d3 o) := ⟨hp.below (below_tr b1 b2), hz, ho, hs.below (below_tr b1 b2), below_tr b1 b2, k2, k3⟩
  have HB : Hid (opB p.D o = B) := hB
  obtain ⟨PB, hPB⟩ : ∃ b, isPath o.path.data.toList = b := ⟨_, rfl⟩
  clear hp hz ho hs b1 b2 k2 k3 hB
  go_enter Try.func26, Try.ntmps26
  go_wp2_with fail
  refine (refPath_b o.path PB hPB W (by omega)).mono ?_
  rintro e V1 ⟨rfl, hb1⟩
  have HX : Hid (PR V1 p ∧ p.dn ≤ 100000 ∧ o.ok ∧ Strs V1 o.la o.ln o.ts ∧ Below w.heap.size w V1 ∧ Blk V1 d2 25 p.cells ∧ OpB V1 d3 o) := ⟨HP.out.1.below hb1, HP.out.2.1, HP.out.2.2.1, HP.out.2.2.2.1.below hb1, below_tr HP.out.2.2.2.2.1 hb1, HP.out.2.2.2.2.2.1.below hb1 HP.out.2.2.2.2.2.1.lt, HP.out.2.2.2.2.2.2.below hb1⟩
  clear hb1 HP c1 hd2 hW1 hd3 hW qps
  cases PB with
  | false =>
    have hBf : B = false := by
      rw [← HB.out]
      unfold opB
      rw [hPB, Bool.false_and]
    subst hBf
    clear hPB
    go_wp2
    go_ret
    exact ⟨rfl, HX.out.2.2.2.2.1⟩
  | true =>
  have c0 := HX.out.2.2.2.2.2.2.kind
  have c68 := HX.out.2.2.2.2.2.2.lines
  obtain ⟨kd, hkd⟩ : ∃ m, o.kind = m := ⟨_, rfl⟩
  rw [hkd] at c0
  by_cases h2 : kd = 2
  · subst h2
    have hB2 := HB.out
    rw [opB_two hPB hkd] at hB2
    clear HB hPB hkd
    obtain ⟨UL, hUL⟩ : ∃ b, lineOf p.D o.up = b := ⟨_, rfl⟩
    obtain ⟨E, hE⟩ : ∃ b, eqVx o.dn vTop = b := ⟨_, rfl⟩
    have HE : Hid (lineOf p.D o.up = UL ∧ eqVx o.dn vTop = E) := ⟨hUL, hE⟩
    rw [hUL, hE] at hB2
    clear hUL hE c68
    have HBL := built49
    go_wp2_with (with_reducible change wpList _ _ _ ({ dst := some 14, op := _, type := _, pos := _, after := _, guard := _ } :: _) _ _; refine Hid.out ?_)
    show wpList _ _ _ _ _ _
    refine wpList_load_mid rfl 25 (.tmp 2) rfl d2 0 rfl p.cells _ HX.out.2.2.2.2.2.1.range0 Try.underlying25 rfl (info25 p) ?_
    go_wp2_with (with_reducible change wpList _ _ _ ({ dst := some 16, op := _, type := _, pos := _, after := _, guard := _ } :: _) _ _; refine Hid.out ?_)
    show wpList _ _ _ _ _ _
    refine wpList_load_mid rfl 49 (.tmp 15) rfl d3 2 rfl o.up.cells _ HX.out.2.2.2.2.2.2.up Try.underlying49 rfl (info49 HX.out.2.2.1.1) ?_
    go_wp2_with fail
    refine (own_is V1 p HX.out.1 HX.out.2.1 o.up HX.out.2.2.1.1 UL HE.out.1).mono ?_
    rintro e V2 ⟨rfl, hb2⟩
    have H2 : Hid (Below w.heap.size w V2 ∧ OpB V2 d3 o ∧ o.ok) := ⟨below_tr HX.out.2.2.2.2.1 hb2, HX.out.2.2.2.2.2.2.below hb2, HX.out.2.2.1⟩
    have c68 := H2.out.2.1.lines
    have qln : (o.ln : Int) ≤ 140737488355328 := by have := H2.out.2.2.2.2.2.1; omega
    clear hb2 HX c0
    cases UL with
    | false =>
      rw [Bool.false_and] at hB2
      subst hB2
      go_wp2
      go_ret
      exact ⟨rfl, H2.out.1⟩
    | true =>
      rw [Bool.true_and] at hB2
      go_wp2_with (with_reducible change wpList _ _ _ ({ dst := some 20, op := _, type := _, pos := _, after := _, guard := _ } :: _) _ _; refine Hid.out ?_)
      show wpList _ _ _ _ _ _
      refine wpList_load_want (by kernel_rfl) 49 (.tmp 19) rfl d3 35 rfl o.dn.cells _ H2.out.2.1.dn Try.underlying49 rfl (info49 H2.out.2.2.2.1) ?_
      go_wp2_with (with_reducible change wpList _ _ _ ({ dst := some 21, op := _, type := _, pos := _, after := _, guard := _ } :: _) _ _; refine Hid.out ?_)
      show wpList _ _ _ _ _ _
      refine wpList_built_want (by kernel_rfl) 49 _ rfl vTop.cells.toArray (by rw [← HBL]; simp) ?_
      go_wp2_with (with_reducible change wpList _ _ _ ({ dst := some 22, op := _, type := _, pos := _, after := _, guard := _ } :: _) _ _; refine Hid.out ?_)
      show wpList _ _ _ _ _ _
      refine wpList_eqV (by kernel_rfl) (.tmp 20) (.tmp 21) rfl o.dn vTop H2.out.2.2.2.1 vTop_ok E HE.out.2 rfl rfl ?_
      cases E with
      | false =>
        rw [Bool.false_and] at hB2
        subst hB2
        go_wp2
        go_ret
        exact ⟨rfl, H2.out.1⟩
      | true =>
        rw [Bool.true_and] at hB2
        have hB' : ((o.ln : Int) == 0) = B := by
          rw [← hB2, Bool.eq_iff_iff]
          simp
        clear hB2
        cases B with
        | true =>
          go_wp2
          go_ret
          exact ⟨rfl, H2.out.1⟩
        | false =>
          go_wp2
          go_ret
          exact ⟨rfl, H2.out.1⟩
  · have e2 : (kd == 2) = false := by simpa using h2
    by_cases h1 : kd = 1
    · subst h1
      clear h2 e2
      have hB1 := HB.out
      rw [opB_one hPB hkd] at hB1
      clear HB hPB hkd
      obtain ⟨n, hn⟩ : ∃ n, o.ln = n := ⟨_, rfl⟩
      have qn : (n : Int) ≤ 140737488355328 := by have := HX.out.2.2.1.2.2.2.1; omega
      obtain ⟨E, hE⟩ : ∃ b, eqVx o.up o.dn = b := ⟨_, rfl⟩
      have HE : Hid (eqVx o.up o.dn = E ∧ o.ln = n) := ⟨hE, hn⟩
      rw [hE, hn] at hB1
      rw [hn] at c68
      clear hE hn
      by_cases hn0 : n = 0
      · subst hn0
        have hBf : B = false := by rw [← hB1]; simp
        subst hBf
        clear hB1
        go_wp2
        go_ret
        exact ⟨rfl, HX.out.2.2.2.2.1⟩
      · have en : ((n : Int) == 0) = false := by rw [beq_eq_false_iff_ne]; omega
        have en2 : decide (0 < (n : Int)) = true := decide_eq_true (by omega)
        rw [en2, Bool.true_and] at hB1
        clear en2
        go_wp2_with (with_reducible change wpList _ _ _ ({ dst := some 41, op := _, type := _, pos := _, after := _, guard := _ } :: _) _ _; refine Hid.out ?_)
        show wpList _ _ _ _ _ _
        refine wpList_load_want (by kernel_rfl) 49 (.tmp 40) rfl d3 2 rfl o.up.cells _ HX.out.2.2.2.2.2.2.up Try.underlying49 rfl (info49 HX.out.2.2.1.1) ?_
        go_wp2_with (with_reducible change wpList _ _ _ ({ dst := some 43, op := _, type := _, pos := _, after := _, guard := _ } :: _) _ _; refine Hid.out ?_)
        show wpList _ _ _ _ _ _
        refine wpList_load_want (by kernel_rfl) 49 (.tmp 42) rfl d3 35 rfl o.dn.cells _ HX.out.2.2.2.2.2.2.dn Try.underlying49 rfl (info49 HX.out.2.2.1.2.1) ?_
        go_wp2_with (with_reducible change wpList _ _ _ ({ dst := some 44, op := _, type := _, pos := _, after := _, guard := _ } :: _) _ _; refine Hid.out ?_)
        show wpList _ _ _ _ _ _
        refine wpList_eqV (by kernel_rfl) (.tmp 41) (.tmp 43) rfl o.up o.dn HX.out.2.2.1.1 HX.out.2.2.1.2.1 E HE.out.1 rfl rfl ?_
        cases E with
        | true =>
          have hBf : B = false := by rw [← hB1]; simp
          subst hBf
          clear hB1
          go_wp2
          go_ret
          exact ⟨rfl, HX.out.2.2.2.2.1⟩
        | false =>
          obtain ⟨uT, huT⟩ : ∃ b, eqVx o.up vTop = b := ⟨_, rfl⟩
          obtain ⟨UL, hUL⟩ : ∃ b, lineOf p.D o.up = b := ⟨_, rfl⟩
          obtain ⟨dB, hdB⟩ : ∃ b, eqVx o.dn vBot = b := ⟨_, rfl⟩
          obtain ⟨DL, hDL⟩ : ∃ b, lineOf p.D o.dn = b := ⟨_, rfl⟩
          rw [huT, hUL, hdB, hDL, Bool.not_false, Bool.and_true] at hB1
          have HBf : Hid (∀ t, t ∈ o.ts → bad t = true → B = false) := fun t ht hb => by
            have : o.ts.any bad = true := List.any_eq_true.2 ⟨t, ht, hb⟩
            rw [← hB1, this]
            rfl
          have HBt : Hid ((∀ t ∈ o.ts, bad t = false) → ((uT || UL) && (dB || DL)) = B) := fun h => by
            have : o.ts.any bad = false := List.any_eq_false.2 (fun t ht => by rw [h t ht]; decide)
            rw [← hB1, this]
            rfl
          have HV : Hid (o.up.ok ∧ o.dn.ok) := ⟨HX.out.2.2.1.1, HX.out.2.2.1.2.1⟩
          have HC : Hid (eqVx o.up vTop = uT ∧ lineOf p.D o.up = UL ∧ eqVx o.dn vBot = dB ∧ lineOf p.D o.dn = DL) := ⟨huT, hUL, hdB, hDL⟩
          obtain ⟨b, o2, hla, hbl, hse⟩ := HX.out.2.2.2.1.2 (by rw [HE.out.2]; omega)
          rw [hla] at c68
          have HS : Hid (o.ts.length = n ∧ (∀ i x, o.ts[i]? = some x → V1.cell? ⟨b, o2 + i, none⟩ = some (.string x)) ∧ ∀ t ∈ o.ts, t.size ≤ 140737488355328) := ⟨by rw [HX.out.2.2.1.2.2.1, HE.out.2], hse, HX.out.2.2.1.2.2.2.2.2.1⟩
          clear huT hUL hdB hDL hB1 hla hbl hse c0 en HE hn0
          go_wp2_with fail
          go_loopw [5] (fun u wr => ∃ i : Nat, u = iv (i : Int) ∧ (i : Int) ≤ (n : Int) ∧ Hid ((∀ j t, j < i → o.ts[j]? = some t → bad t = false) ∧ V1 = wr)) (fun u _ => n - (intOf u).toNat)
          case atStart => exact ⟨0, rfl, by omega, (fun j t hj => absurd hj (by omega)), rfl⟩
          case round =>
            obtain ⟨i, rfl, qi, HI⟩ := hrel
            obtain ⟨hI, hw⟩ := HI.out
            subst hw
            clear HI
            by_cases hi : i < n
            · have q1 : (i : Int) < (n : Int) := by omega
              have g1 : decide ((i : Int) < (n : Int)) = true := decide_eq_true q1
              obtain ⟨t, ht⟩ : ∃ t, o.ts[i]? = some t := ⟨_, List.getElem?_eq_getElem (by rw [HS.out.1]; exact hi)⟩
              have kt := HS.out.2.1 i t ht
              obtain ⟨z, hzt⟩ : ∃ z, t.size = z := ⟨_, rfl⟩
              have qz : (t.size : Int) = (z : Int) := by omega
              have qz2 : (z : Int) ≤ 140737488355328 := by have := HS.out.2.2 t (List.mem_of_getElem? ht); omega
              have HT : Hid (t ∈ o.ts ∧ t.data.toList.length = z ∧ o.ts[i]? = some t ∧ i < n ∧ (∀ j t, j < i → o.ts[j]? = some t → bad t = false)) := ⟨List.mem_of_getElem? ht, hzt, ht, hi, hI⟩
              clear ht hzt hI hi
              by_cases hz : 200 < z
              · have hBf : B = false := HBf.out t HT.out.1 (by unfold bad; rw [decide_eq_true (show 200 < t.size by omega), Bool.true_or])
                subst hBf
                have q3 : (200 : Int) < (z : Int) := by omega
                have g3 : decide ((200 : Int) < (z : Int)) = true := decide_eq_true q3
                clear hz
                go_wp2
                go_ret
                exact ⟨rfl, HX.out.2.2.2.2.1⟩
              · have q3 : (z : Int) ≤ 200 := by omega
                have g3 : decide ((200 : Int) < (z : Int)) = false := decide_eq_false (by omega)
                clear hz
                go_wp2_with fail
                go_loopw [6] (fun u wr => ∃ k : Nat, u = iv (k : Int) ∧ (k : Int) ≤ (z : Int) ∧ Hid ((10 : UInt8) ∉ t.data.toList.take k ∧ V1 = wr)) (fun u _ => z - (intOf u).toNat)
                case atStart => exact ⟨0, rfl, by omega, by simp, rfl⟩
                case round =>
                  obtain ⟨k, rfl, qk, HI⟩ := hrel
                  obtain ⟨hI, hw⟩ := HI.out
                  subst hw
                  clear HI
                  by_cases hk : k < z
                  · have q4 : (k : Int) < (z : Int) := by omega
                    have g4 : decide ((k : Int) < (z : Int)) = true := decide_eq_true q4
                    obtain ⟨x, hx⟩ : ∃ x, t.data.toList[k]? = some x := ⟨_, List.getElem?_eq_getElem (by rw [HT.out.2.1]; exact hk)⟩
                    have HXX : Hid (t.data.toList[k]? = some x) := hx
                    by_cases hxc : x = 10
                    · subst hxc
                      have hBf : B = false := HBf.out t HT.out.1 (by unfold bad; rw [decide_eq_true (List.mem_of_getElem? hx), Bool.or_true])
                      subst hBf
                      clear hx hI hk
                      go_wp2_with (with_reducible change wpList _ _ _ ({ dst := some 76, op := _, type := _, pos := _, after := _, guard := _ } :: _) _ _; refine Hid.out ?_)
                      show wpList _ _ _ _ _ _
                      refine wpList_idx rfl (.tmp 74) (.tmp 75) rfl t k 10 rfl rfl HXX.out ?_
                      go_wp2
                      go_ret
                      exact ⟨rfl, HX.out.2.2.2.2.1⟩
                    · have hne : ((x.toNat : Int) == 10) = false := by rw [beq_eq_false_iff_ne]; exact fun h => hxc (UInt8.toNat_inj.1 (by show x.toNat = 10; omega))
                      have HF : Hid ((10 : UInt8) ∉ t.data.toList.take (k + 1) ∧ k < z) := ⟨by
                        rw [List.take_add_one, hx]
                        simp only [Option.toList_some, List.mem_append, List.mem_singleton, not_or]
                        exact ⟨hI, fun h => hxc h.symm⟩, hk⟩
                      clear hx hI hk hxc
                      go_wp2_with (with_reducible change wpList _ _ _ ({ dst := some 76, op := _, type := _, pos := _, after := _, guard := _ } :: _) _ _; refine Hid.out ?_)
                      show wpList _ _ _ _ _ _
                      refine wpList_idx rfl (.tmp 74) (.tmp 75) rfl t k x rfl rfl HXX.out ?_
                      go_wp2
                      go_roundw
                      case rel => exact ⟨k + 1, by simp, by have := HF.out.2; omega, HF.out.1, by first | exact rfl | exact trivial⟩
                      case measure => have := HF.out.2; simp only [intOf]; omega
                  · have g4 : decide ((k : Int) < (z : Int)) = false := decide_eq_false (by omega)
                    have HF : Hid (∀ j u, j < i + 1 → o.ts[j]? = some u → bad u = false) := fun j u hj hu => by
                      by_cases hji : j = i
                      · subst hji
                        rw [HT.out.2.2.1] at hu
                        cases hu
                        unfold bad
                        rw [decide_eq_false (show ¬ 200 < t.size by omega), Bool.false_or, decide_eq_false_iff_not]
                        rw [List.take_of_length_le (by rw [HT.out.2.1]; omega)] at hI
                        exact hI
                      · exact HT.out.2.2.2.2 j u (by omega) hu
                    have q5 : (z : Int) ≤ (k : Int) := by omega
                    clear hI hk
                    go_wp2
                    go_roundw
                    case rel => exact ⟨i + 1, by simp, by have := HT.out.2.2.2.1; omega, HF.out, by first | exact rfl | exact trivial⟩
                    case measure => have := HT.out.2.2.2.1; simp only [intOf]; omega
            · have g1 : decide ((i : Int) < (n : Int)) = false := decide_eq_false (by omega)
              have hBt : ((uT || UL) && (dB || DL)) = B := HBt.out (fun t ht => by
                obtain ⟨j, hj, e⟩ := List.getElem_of_mem ht
                exact hI j t (by have := HS.out.1; omega) (by rw [List.getElem?_eq_getElem hj, e]))
              have q5 : (n : Int) ≤ (i : Int) := by omega
              have HL : Hid (d2 < V1.heap.size ∧ d3 < V1.heap.size) := ⟨HX.out.2.2.2.2.2.1.lt, HX.out.2.2.2.2.2.2.blk.lt⟩
              have HR : Hid (V1.rangeAt d2 0 p.cells) := HX.out.2.2.2.2.2.1.range0
              have HU : Hid (V1.rangeAt d3 2 o.up.cells) := HX.out.2.2.2.2.2.2.up
              have HDn : Hid (V1.rangeAt d3 35 o.dn.cells) := HX.out.2.2.2.2.2.2.dn
              have H52 : Hid (∀ V, Below V1.heap.size V1 V → Calls Try.prog 52 #[] V fun e V2 => e = .returned (.agg vTop.cells.toArray) ∧ Below V.heap.size V V2) := fun V _ => rtop_is V _ rfl
              have H53 : Hid (∀ V, Below V1.heap.size V1 V → Calls Try.prog 53 #[] V fun e V2 => e = .returned (.agg vBot.cells.toArray) ∧ Below V.heap.size V V2) := fun V _ => rbot_is V _ rfl
              have H51u : Hid (∀ V, Below V1.heap.size V1 V → Calls Try.prog 51 #[.agg p.cells.toArray, .agg o.up.cells.toArray] V fun e V2 => e = .returned (.bool UL) ∧ Below V.heap.size V V2) := fun V hV => own_is V p (HX.out.1.below hV) HX.out.2.1 o.up HV.out.1 UL HC.out.2.1
              have H51d : Hid (∀ V, Below V1.heap.size V1 V → Calls Try.prog 51 #[.agg p.cells.toArray, .agg o.dn.cells.toArray] V fun e V2 => e = .returned (.bool DL) ∧ Below V.heap.size V V2) := fun V hV => own_is V p (HX.out.1.below hV) HX.out.2.1 o.dn HV.out.2 DL HC.out.2.2.2
              have HUT : Hid (eqVx o.up vTop = uT) := HC.out.1
              have HDB : Hid (eqVx o.dn vBot = dB) := HC.out.2.2.1
              clear hI hi HBf HBt HC HS
              cases uT with
              | true =>
                cases dB with
                | true =>
                  simp only [Bool.true_and, Bool.false_and, Bool.and_false, Bool.and_true, Bool.true_or, Bool.or_true, Bool.or_false, Bool.false_or] at hBt
                  subst hBt
                  go_wp2_with fail
                  refine ro0 HL HR HU HDn HV H52 H53 HUT H51u HDB H51d ?_
                  intro V3 hb3
                  have HF : Hid (Below w.heap.size w V3) := below_tr HX.out.2.2.2.2.1 hb3
                  clear hb3
                  go_wp2
                  go_ret
                  exact ⟨rfl, HF.out⟩
                | false =>
                  cases DL with
                  | true =>
                    simp only [Bool.true_and, Bool.false_and, Bool.and_false, Bool.and_true, Bool.true_or, Bool.or_true, Bool.or_false, Bool.false_or] at hBt
                    subst hBt
                    go_wp2_with fail
                    refine ro1 HL HR HU HDn HV H52 H53 HUT H51u HDB H51d ?_
                    intro V3 hb3
                    have HF : Hid (Below w.heap.size w V3) := below_tr HX.out.2.2.2.2.1 hb3
                    clear hb3
                    go_wp2
                    go_ret
                    exact ⟨rfl, HF.out⟩
                  | false =>
                    simp only [Bool.true_and, Bool.false_and, Bool.and_false, Bool.and_true, Bool.true_or, Bool.or_true, Bool.or_false, Bool.false_or] at hBt
                    subst hBt
                    go_wp2_with fail
                    refine ro2 HL HR HU HDn HV H52 H53 HUT H51u HDB H51d ?_
                    intro V3 hb3
                    have HF : Hid (Below w.heap.size w V3) := below_tr HX.out.2.2.2.2.1 hb3
                    clear hb3
                    go_wp2
                    go_ret
                    exact ⟨rfl, HF.out⟩
              | false =>
                cases UL with
                | true =>
                  cases dB with
                  | true =>
                    simp only [Bool.true_and, Bool.false_and, Bool.and_false, Bool.and_true, Bool.true_or, Bool.or_true, Bool.or_false, Bool.false_or] at hBt
                    subst hBt
                    go_wp2_with fail
                    refine ro3 HL HR HU HDn HV H52 H53 HUT H51u HDB H51d ?_
                    intro V3 hb3
                    have HF : Hid (Below w.heap.size w V3) := below_tr HX.out.2.2.2.2.1 hb3
                    clear hb3
                    go_wp2
                    go_ret
                    exact ⟨rfl, HF.out⟩
                  | false =>
                    cases DL with
                    | true =>
                      simp only [Bool.true_and, Bool.false_and, Bool.and_false, Bool.and_true, Bool.true_or, Bool.or_true, Bool.or_false, Bool.false_or] at hBt
                      subst hBt
                      go_wp2_with fail
                      refine ro4 HL HR HU HDn HV H52 H53 HUT H51u HDB H51d ?_
                      intro V3 hb3
                      have HF : Hid (Below w.heap.size w V3) := below_tr HX.out.2.2.2.2.1 hb3
                      clear hb3
                      go_wp2
                      go_ret
                      exact ⟨rfl, HF.out⟩
                    | false =>
                      simp only [Bool.true_and, Bool.false_and, Bool.and_false, Bool.and_true, Bool.true_or, Bool.or_true, Bool.or_false, Bool.false_or] at hBt
                      subst hBt
                      go_wp2_with fail
                      refine ro5 HL HR HU HDn HV H52 H53 HUT H51u HDB H51d ?_
                      intro V3 hb3
                      have HF : Hid (Below w.heap.size w V3) := below_tr HX.out.2.2.2.2.1 hb3
                      clear hb3
                      go_wp2
                      go_ret
                      exact ⟨rfl, HF.out⟩
                | false =>
                  simp only [Bool.true_and, Bool.false_and, Bool.and_false, Bool.and_true, Bool.true_or, Bool.or_true, Bool.or_false, Bool.false_or] at hBt
                  subst hBt
                  go_wp2_with fail
                  refine ro6 HL HR HU HDn HV H52 H53 HUT H51u HDB H51d ?_
                  intro V3 hb3
                  have HF : Hid (Below w.heap.size w V3) := below_tr HX.out.2.2.2.2.1 hb3
                  clear hb3
                  go_wp2
                  go_ret
                  exact ⟨rfl, HF.out⟩
    · have e1 : (kd != 1) = true := by simpa using h1
      have hBf : B = false := by rw [← HB.out]; exact opB_no (by rw [hkd]; exact h1) (by rw [hkd]; exact h2)
      subst hBf
      clear h1 h2 HB hPB hkd c68
      go_wp2
      go_ret
      exact ⟨rfl, HX.out.2.2.2.2.1⟩
end Go.Proofs.Ytgdecjacbkicmaa.Oct
