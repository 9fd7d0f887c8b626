/-
  Layer 10 (patch): the reference: Below, own.
  Layer 10 (patch): the reference's Check: its drawn regions.
-/
import Derived.Test.YtgdecjacbkicmaaGreatDoorQkUlr
/- Layer 10 (patch): the reference: Below, own. -/
namespace Go.Proofs.YtgdecjacbkicmaaGreatDoor.Oct
open Go.RowKit
set_option maxRecDepth 100000
set_option linter.unusedSimpArgs false
set_option linter.unusedVariables false

theorem u8_tri (x y : UInt8) : x < y ∨ x = y ∨ y < x := by
  rcases Nat.lt_trichotomy x.toNat y.toNat with h | h | h
  · exact .inl h
  · exact .inr (.inl (UInt8.toNat_inj.1 h))
  · exact .inr (.inr h)
theorem u8_irr (x : UInt8) : ¬ x < x := Nat.lt_irrefl _
theorem u8_asym {x y : UInt8} (h : x < y) : ¬ y < x := fun k => absurd (show x.toNat < y.toNat from h) (Nat.lt_asymm k)
theorem less_iff : ∀ a b : Hs, Op.bytesLess a b = decide (Lib.compareBytes a b < 0)
  | [], [] => by simp [Op.bytesLess, Lib.compareBytes]
  | _ :: _, [] => by simp [Op.bytesLess, Lib.compareBytes]
  | [], _ :: _ => by simp [Op.bytesLess, Lib.compareBytes]
  | x :: a, y :: b => by
    have ih := less_iff a b
    unfold Op.bytesLess Lib.compareBytes
    rcases u8_tri x y with h | rfl | h
    · simp [h]
    · simp [u8_irr x, ih]
    · have e : (x == y) = false := by
        rw [beq_eq_false_iff_ne]
        intro e
        subst e
        exact u8_irr x h
      simp [u8_asym h, e, h]
theorem yl_ltH {o : Oper} {a : Act} (V : World) (p q : Operand) (x y : Hs) (B : Bool) (hB : Op.bytesLess x y = B) (hop : o.op = .binOp .lss 9 p q 9) (h1 : a.eval p = .string ⟨x.toArray⟩) (h2 : a.eval q = .string ⟨y.toArray⟩) : (execOp a.eval o).run Tryz.prog V = .ok (.value (.bool B)) V := by
  subst hB
  unfold execOp
  simp only [hop, h1, h2, Sem.run_bind, Sem.run_pure]
  first
  | (simp [eqGuard, go_sem, Tryz.underlying9, toList_d]; done)
  | (go_simp; done)
set_option maxRecDepth 100000 in
set_option maxHeartbeats 4000000 in
theorem bl1 {Q : Exit → Act → World → Prop} {x0 x1 x4 x5 x6 x7 x8 x9 : Value} {ds : List Deferred} {A : World} {d2 d3 : Nat} {x y : Hs} {B : Bool}
    (HI : Hid (In A (some ⟨d2, 0, none⟩) 32 32 x ∧ In A (some ⟨d3, 0, none⟩) 32 32 y)) (HB : Hid (Op.bytesLess x y = B))
    (hQ : ∀ V1, Below A.heap.size A V1 → Q .normal { tmps := #[x0, x1, .pointer (some ⟨d2, 0, none⟩), .pointer (some ⟨d3, 0, none⟩), .bool B, .slice (some ⟨d2, 0, none⟩) 32 32, .string ⟨x.toArray⟩, .slice (some ⟨d3, 0, none⟩) 32 32, .string ⟨y.toArray⟩, .bool B], defers := ds } V1) :
    (Code.region 1 #[{ dst := some 5, op := Op.slice 37 (Operand.tmp 2) none none none, type := 26, pos := "ref.go:29", after := #[], guard := none }, { dst := some 6, op := Op.convert 26 9 (Operand.tmp 5), type := 9, pos := "ref.go:29", after := #[{ on := 0, ground := Ground.data }], guard := none }, { dst := some 7, op := Op.slice 37 (Operand.tmp 3) none none none, type := 26, pos := "ref.go:29", after := #[], guard := none }, { dst := some 8, op := Op.convert 26 9 (Operand.tmp 7), type := 9, pos := "ref.go:29", after := #[{ on := 2, ground := Ground.data }], guard := none }, { dst := some 9, op := Op.binOp BinOp.lss 9 (Operand.tmp 6) (Operand.tmp 8) 9, type := 4, pos := "ref.go:29", after := #[{ on := 1, ground := Ground.data }, { on := 3, ground := Ground.data }], guard := none }, { dst := some 4, op := Op.assign (Operand.tmp 9), type := 4, pos := "ref.go:29", after := #[{ on := 4, ground := Ground.data }, { on := 0, ground := Ground.phase }, { on := 1, ground := Ground.phase }, { on := 2, ground := Ground.phase }, { on := 3, ground := Ground.phase }, { on := 4, ground := Ground.phase }], guard := none }] true).wp Tryz.prog Q { tmps := #[x0, x1, .pointer (some ⟨d2, 0, none⟩), .pointer (some ⟨d3, 0, none⟩), x4, x5, x6, x7, x8, x9], defers := ds } A := by
  refine Code.wp_mono (Q := fun x a' w' => match x with | .normal => Q .normal a' w' | _ => False) (by intro x a' w' h; cases x <;> first | exact h | exact h.elim) ?_
  refine wp_region_held (S := fun V => Below A.heap.size A V) (by kernel_rfl) ?_
  have hS0 : Hid (Below A.heap.size A A.drew) := below_drew0 A
  change wpAnyH Tryz.prog .any _ _ (fun V => Below A.heap.size A V) 6 (Array.replicate 6 false) _ A.drew
  obtain ⟨V0, hV0⟩ : ∃ V0, A.drew = V0 := ⟨_, rfl⟩
  rw [hV0]
  rw [hV0] at hS0
  clear hV0
  refine wpAnyH_take (i := 0) (oi := { dst := some 5, op := Op.slice 37 (Operand.tmp 2) none none none, type := 26, pos := "ref.go:29", after := #[], guard := none }) (v := .slice (some ⟨d2, 0, none⟩) 32 32) rfl (by kernel_rfl) (by kernel_rfl) (by kernel_rfl) (fun _ _ _ h => h.elim) (Or.inl ⟨by rfl, ?y1⟩) hS0.out ?_
  case y1 =>
    intro V hV
    go_simp
  simp only [Act.put, List.setIfInBounds_toArray, List.set_cons_zero, List.set_cons_succ]
  refine wpAnyH_take (i := 1) (oi := { dst := some 6, op := Op.convert 26 9 (Operand.tmp 5), type := 9, pos := "ref.go:29", after := #[{ on := 0, ground := Ground.data }], guard := none }) (v := .string ⟨x.toArray⟩) rfl (by kernel_rfl) (by kernel_rfl) (by kernel_rfl) (fun _ _ _ h => h.elim) (Or.inl ⟨by rfl, ?y2⟩) hS0.out ?_
  case y2 =>
    intro V hV
    exact yl_conv V _ (.slice (some ⟨d2, 0, none⟩) 32 32) _ (string_in Tryz.underlying26 Tryz.underlying5 Tryz.underlying9 (HI.out.1.below hV)) rfl rfl
  simp only [Act.put, List.setIfInBounds_toArray, List.set_cons_zero, List.set_cons_succ]
  refine wpAnyH_take (i := 2) (oi := { dst := some 7, op := Op.slice 37 (Operand.tmp 3) none none none, type := 26, pos := "ref.go:29", after := #[], guard := none }) (v := .slice (some ⟨d3, 0, none⟩) 32 32) rfl (by kernel_rfl) (by kernel_rfl) (by kernel_rfl) (fun _ _ _ h => h.elim) (Or.inl ⟨by rfl, ?y3⟩) hS0.out ?_
  case y3 =>
    intro V hV
    go_simp
  simp only [Act.put, List.setIfInBounds_toArray, List.set_cons_zero, List.set_cons_succ]
  refine wpAnyH_take (i := 3) (oi := { dst := some 8, op := Op.convert 26 9 (Operand.tmp 7), type := 9, pos := "ref.go:29", after := #[{ on := 2, ground := Ground.data }], guard := none }) (v := .string ⟨y.toArray⟩) rfl (by kernel_rfl) (by kernel_rfl) (by kernel_rfl) (fun _ _ _ h => h.elim) (Or.inl ⟨by rfl, ?y4⟩) hS0.out ?_
  case y4 =>
    intro V hV
    exact yl_conv V _ (.slice (some ⟨d3, 0, none⟩) 32 32) _ (string_in Tryz.underlying26 Tryz.underlying5 Tryz.underlying9 (HI.out.2.below hV)) rfl rfl
  simp only [Act.put, List.setIfInBounds_toArray, List.set_cons_zero, List.set_cons_succ]
  refine wpAnyH_take (i := 4) (oi := { dst := some 9, op := Op.binOp BinOp.lss 9 (Operand.tmp 6) (Operand.tmp 8) 9, type := 4, pos := "ref.go:29", after := #[{ on := 1, ground := Ground.data }, { on := 3, ground := Ground.data }], guard := none }) (v := .bool B) rfl (by kernel_rfl) (by kernel_rfl) (by kernel_rfl) (fun _ _ _ h => h.elim) (Or.inl ⟨by rfl, ?y5⟩) hS0.out ?_
  case y5 =>
    intro V hV
    exact yl_ltH V _ _ x y B HB.out rfl rfl rfl
  simp only [Act.put, List.setIfInBounds_toArray, List.set_cons_zero, List.set_cons_succ]
  refine wpAnyH_take (i := 5) (oi := { dst := some 4, op := Op.assign (Operand.tmp 9), type := 4, pos := "ref.go:29", after := #[{ on := 4, ground := Ground.data }, { on := 0, ground := Ground.phase }, { on := 1, ground := Ground.phase }, { on := 2, ground := Ground.phase }, { on := 3, ground := Ground.phase }, { on := 4, ground := Ground.phase }], guard := none }) (v := .bool B) rfl (by kernel_rfl) (by kernel_rfl) (by kernel_rfl) (fun _ _ _ h => h.elim) (Or.inl ⟨by rfl, ?y6⟩) hS0.out ?_
  case y6 =>
    intro V hV
    go_simp
  simp only [Act.put, List.setIfInBounds_toArray, List.set_cons_zero, List.set_cons_succ]
  refine wpAnyH_done (by kernel_rfl) ?_ _
  exact hQ V0 hS0.out
end Go.Proofs.YtgdecjacbkicmaaGreatDoor.Oct

/- Layer 10 (patch): the reference's Check: its drawn regions. -/
namespace Go.Proofs.YtgdecjacbkicmaaGreatDoor.Oct
open Go.RowKit
set_option maxRecDepth 100000
set_option linter.unusedSimpArgs false
set_option linter.unusedVariables false

theorem yl_built {o : Oper} {a : Act} (V : World) (t : TypeId) (cells : Array Value) (hop : o.op = .build t #[]) (hb : Tryz.prog.built t [] = some cells) : (execOp a.eval o).run Tryz.prog V = .ok (.value (.agg cells)) V := by
  unfold execOp
  simp only [hop, Sem.run_bind, run_build V t (#[].map fun (i, x) => (i, a.eval x)) cells (by simpa using hb), Result.andThen_ok]
  try rfl
theorem yl_subI {o : Oper} {a : Act} (V : World) (p q : Operand) (x y r : Int) (hr : IntKind.i64.wrap (x - y) = r) (hop : o.op = .binOp .sub 3 p q 3) (h1 : a.eval p = iv x) (h2 : a.eval q = iv y) : (execOp a.eval o).run Tryz.prog V = .ok (.value (iv r)) V := by
  subst hr
  unfold execOp
  simp only [hop, h1, h2, Sem.run_bind, Sem.run_pure]
  first
  | (simp [eqGuard, go_sem, Tryz.underlying3]; done)
  | (go_simp; done)
/-- noughts are below all else -/
theorem cmp_zero : ∀ (n : Nat) (d : List UInt8), d.length = n → (Lib.compareBytes (List.replicate n 0) d < 0 ↔ d ≠ List.replicate n 0)
  | 0, d, h => by
    obtain rfl := List.length_eq_zero_iff.1 h
    simp [Lib.compareBytes]
  | n + 1, [], h => by simp at h
  | n + 1, c :: d, h => by
    have ih := cmp_zero n d (by simpa using h)
    rw [List.replicate_succ]
    unfold Lib.compareBytes
    rcases u8_tri 0 c with h1 | h1 | h1
    · rw [if_pos h1]
      have hc : c ≠ 0 := fun e => by subst e; exact u8_irr _ h1
      simp [hc]
    · subst h1
      rw [if_neg (u8_irr _), if_neg (u8_irr _), ih]
      simp
    · exact absurd h1 (by show ¬ c.toNat < (0 : UInt8).toNat; simp)
theorem cmp_no : ∀ (n : Nat) (d : List UInt8), d.length = n → ¬ Lib.compareBytes d (List.replicate n 0) < 0
  | 0, d, h => by
    obtain rfl := List.length_eq_zero_iff.1 h
    simp [Lib.compareBytes]
  | n + 1, [], h => by simp at h
  | n + 1, c :: d, h => by
    have ih := cmp_no n d (by simpa using h)
    rw [List.replicate_succ]
    unfold Lib.compareBytes
    rcases u8_tri c 0 with h1 | h1 | h1
    · exact absurd h1 (by show ¬ c.toNat < (0 : UInt8).toNat; simp)
    · subst h1
      rw [if_neg (u8_irr _), if_neg (u8_irr _)]
      exact ih
    · rw [if_neg (u8_asym h1), if_pos h1]
      omega
theorem rises_iff : ∀ (l : Hs) (D : List Hs), rises l D = true ↔ ∀ (i : Nat) (x y : Hs), (l :: D)[i]? = some x → D[i]? = some y → Lib.compareBytes x y < 0
  | l, [] => by simp [rises]
  | l, d :: r => by
    have ih := rises_iff d r
    unfold rises
    rw [Bool.and_eq_true, decide_eq_true_eq, ih]
    constructor
    · intro h i x y hx hy
      cases i with
      | zero =>
        simp only [List.getElem?_cons_zero, Option.some.injEq] at hx hy
        subst hx; subst hy
        exact h.1
      | succ i =>
        simp only [List.getElem?_cons_succ] at hx hy
        exact h.2 i x y hx hy
    · intro h
      exact ⟨h 0 l d rfl rfl, fun i x y hx hy => h (i + 1) x y (by simpa using hx) (by simpa using hy)⟩
end Go.Proofs.YtgdecjacbkicmaaGreatDoor.Oct
