/-
  Layer 10 (patch): the law Unlike: its drawn regions.
-/
import Derived.Test.YtgdecjacbkicmaaGreatDoorQkInj
import Derived.Deep.MidRow
/- Layer 10 (patch): the law Unlike: its drawn regions. -/
namespace Go.Proofs.YtgdecjacbkicmaaGreatDoor.Oct
open Go.RowKit
set_option maxRecDepth 100000
set_option linter.unusedSimpArgs false
set_option linter.unusedVariables false

theorem yl_conv {o : Oper} {a : Act} (V : World) (x : Operand) (v r : Value) (hr : (convert 26 9 v).run Tryz.prog V = .ok r V) (hop : o.op = .convert 26 9 x) (h1 : a.eval x = v) : (execOp a.eval o).run Tryz.prog V = .ok (.value r) V := by
  unfold execOp
  simp only [hop, h1, Sem.run_bind, Sem.run_pure, hr, Result.andThen_ok]
theorem yl_eqS {o : Oper} {a : Act} (V : World) (p q : Operand) (x y : BA) (B : Bool) (hB : (x.toList == y.toList) = B) (hop : o.op = .binOp .eql 9 p q 9) (h1 : a.eval p = .string x) (h2 : a.eval q = .string y) : (execOp a.eval o).run Tryz.prog V = .ok (.value (.bool B)) V := by
  subst hB
  unfold execOp
  simp only [hop, h1, h2, Sem.run_bind, Sem.run_pure]
  first
  | (simp [eqGuard, go_sem, Tryz.underlying9]; done)
  | (go_simp; done)
theorem yl_eqB {o : Oper} {a : Act} (V : World) (p q : Operand) (x y : Bool) (B : Bool) (hB : (x == y) = B) (hop : o.op = .binOp .eql 4 p q 4) (h1 : a.eval p = .bool x) (h2 : a.eval q = .bool y) : (execOp a.eval o).run Tryz.prog V = .ok (.value (.bool B)) V := by
  subst hB
  unfold execOp
  simp only [hop, h1, h2, Sem.run_bind, Sem.run_pure]
  first
  | (simp [eqGuard, go_sem, Tryz.underlying4]; done)
  | (go_simp; done)
theorem yl_neB {o : Oper} {a : Act} (V : World) (p q : Operand) (x y : Bool) (B : Bool) (hB : (x != y) = B) (hop : o.op = .binOp .neq 4 p q 4) (h1 : a.eval p = .bool x) (h2 : a.eval q = .bool y) : (execOp a.eval o).run Tryz.prog V = .ok (.value (.bool B)) V := by
  subst hB
  unfold execOp
  simp only [hop, h1, h2, Sem.run_bind, Sem.run_pure]
  first
  | (simp [eqGuard, go_sem, Tryz.underlying4, bne]; done)
  | (go_simp; done)
theorem ptB_len {w : World} {p : PV} (h : PR w p) (hc : chk p = 0) : (ptB p).length ≤ 1000000 := by
  obtain ⟨hh, hdd, hoo⟩ := chk_of hc
  obtain ⟨s1, s2, s3, s4, _⟩ := head_of hh
  obtain ⟨s5, _⟩ := deps_of hdd
  obtain ⟨s6, s7, s8, s9⟩ := ops_of hoo
  have dl := h.deps.1
  have ol := h.ops.1
  have a1 := encT_len p.au (by omega)
  have a2 := enc_ten p.tm.toNat (by omega)
  have a3 := encT_len p.nt (by omega)
  have a4 := enc_ten p.dn (by omega)
  have a5 := enc_ten p.on (by omega)
  have a6 := flat_len id 32 p.D (fun x hx => Nat.le_of_eq (h.deps.2.1 x hx))
  have a7 := flat_len (encO p.D) 14000 p.O (fun x hx => encO_len p.D x (by omega) (s9 x hx) (h.ops.2.1 x hx).1.2.2.1 (by have := many_mem hx; omega))
  unfold ptB
  simp only [List.length_cons, List.length_append]
  omega
/-- what Encode answers, in one form -/
theorem encode_any (w : World) (p : PV) (h : PR w p) (E : Int) (hE : chk p = E) : Calls Tryz.prog 6 #[.agg p.cells.toArray] w fun e w' => ∃ (va : Option Addr) (n c : Nat), e = .returned (.tuple #[.slice va n c, iv E]) ∧ Hid (E = 0 → In w' va n c (ptB p)) ∧ Below w.heap.size w w' := by
  refine (encode_is w p h).mono ?_
  rintro e w' ⟨h1, hb⟩
  rcases h1 with ⟨hc, rfl⟩ | ⟨hc, va, n, c, rfl, ho, hn⟩
  · exact ⟨none, 0, 0, by rw [hE], fun h0 => absurd (hE.trans h0) hc, hb⟩
  · refine ⟨va, n, c, by rw [← hE, hc], fun _ => ?_, hb⟩
    obtain ⟨a, cp, e1, hin, _⟩ := own_in ho.out (by have := ptB_len h hc; omega)
    cases e1
    rw [hn]
    exact hin
set_option maxRecDepth 100000 in
set_option maxHeartbeats 4000000 in
theorem ul9t {Q : Exit → Act → World → Prop} {x0 x1 x4 x6 x8 x9 x10 x11 x12 x13 x14 x15 x16 x17 x18 x19 x20 x21 x22 x23 x24 x25 x26 x27 x28 x29 x30 x31 x32 x33 x34 x35 x36 x37 x38 x39 x40 x41 x42 x43 x44 x45 x46 x47 x48 x49 x50 x51 x52 x53 x54 x55 x56 x57 x58 x59 x60 : Value} {ds : List Deferred} {A : World} {d2 d3 na ca nb cb : Nat} {va vb : Option Addr} {X Y : List UInt8} {p q : PV}
    (HL : Hid (d2 < A.heap.size ∧ d3 < A.heap.size)) (HR : Hid (A.rangeAt d2 0 p.cells ∧ A.rangeAt d3 0 q.cells)) (HA : Hid (In A va na ca X ∧ In A vb nb cb Y)) (HXY : Hid (((⟨X.toArray⟩ : BA).toList == (⟨Y.toArray⟩ : BA).toList) = true)) (HS : Hid (∀ V, Below A.heap.size A V → Calls Tryz.prog 9 #[.agg p.cells.toArray, .agg q.cells.toArray] V fun e V2 => e = .returned (.bool true) ∧ Below V.heap.size V V2)) (H8 : Hid (∀ V, Below A.heap.size A V → Calls Tryz.prog 5 #[] V fun e V2 => e = .returned (.bool true) ∧ Below V.heap.size V V2))
    (hQ : ∀ V1, Below A.heap.size A V1 → Q .normal { tmps := #[x0, x1, .pointer (some ⟨d2, 0, none⟩), .pointer (some ⟨d3, 0, none⟩), .bool true, .slice va na ca, x6, .slice vb nb cb, x8, x9, x10, x11, x12, x13, x14, x15, x16, x17, x18, x19, x20, x21, x22, x23, x24, x25, x26, x27, x28, x29, x30, x31, x32, x33, x34, x35, x36, x37, x38, x39, x40, x41, x42, x43, x44, x45, x46, x47, x48, .slice va na ca, .string ⟨X.toArray⟩, .slice vb nb cb, .string ⟨Y.toArray⟩, .bool true, .agg p.cells.toArray, .agg q.cells.toArray, .bool true, .bool true, .bool true, .bool true, .bool true], defers := ds } V1) :
    (Code.region 9 #[{ dst := some 49, op := Op.move (Operand.tmp 5), type := 26, pos := "law.go:99", after := #[], guard := none }, { dst := some 50, op := Op.convert 26 9 (Operand.tmp 49), type := 9, pos := "law.go:99", after := #[{ on := 0, ground := Ground.data }], guard := none }, { dst := some 51, op := Op.move (Operand.tmp 7), type := 26, pos := "law.go:99", after := #[], guard := none }, { dst := some 52, op := Op.convert 26 9 (Operand.tmp 51), type := 9, pos := "law.go:99", after := #[{ on := 2, ground := Ground.data }], guard := none }, { dst := some 53, op := Op.binOp BinOp.eql 9 (Operand.tmp 50) (Operand.tmp 52) 9, type := 4, pos := "law.go:99", after := #[{ on := 1, ground := Ground.data }, { on := 3, ground := Ground.data }], guard := none }, { dst := some 54, op := Op.load 25 (Operand.tmp 2), type := 25, pos := "law.go:99", after := #[], guard := none }, { dst := some 55, op := Op.load 25 (Operand.tmp 3), type := 25, pos := "law.go:99", after := #[], guard := none }, { dst := some 56, op := Op.call { callee := Callee.value (Operand.func 9), args := #[Operand.tmp 54, Operand.tmp 55], argTypes := #[25, 25] }, type := 4, pos := "law.go:99", after := #[{ on := 5, ground := Ground.data }, { on := 6, ground := Ground.data }], guard := none }, { dst := some 57, op := Op.binOp BinOp.eql 4 (Operand.tmp 53) (Operand.tmp 56) 4, type := 4, pos := "law.go:99", after := #[{ on := 4, ground := Ground.data }, { on := 7, ground := Ground.data }], guard := none }, { dst := some 58, op := Op.move (Operand.tmp 57), type := 4, pos := "law.go:99", after := #[{ on := 8, ground := Ground.data }, { on := 7, ground := Ground.chain }], guard := none }, { dst := some 59, op := Op.call { callee := Callee.value (Operand.func 5), args := #[], argTypes := #[] }, type := 4, pos := "law.go:99", after := #[{ on := 9, ground := Ground.chain }, { on := 9, ground := Ground.guard }], guard := some (9, true) }, { dst := some 60, op := Op.pick (Operand.tmp 58) (Operand.tmp 59) (Operand.const (Value.bool false)), type := 4, pos := "law.go:99", after := #[{ on := 9, ground := Ground.data }, { on := 10, ground := Ground.data }], guard := none }, { dst := some 4, op := Op.assign (Operand.tmp 60), type := 4, pos := "law.go:99", after := #[{ on := 11, ground := Ground.data }, { on := 10, ground := Ground.chain }, { on := 0, ground := Ground.phase }, { on := 1, ground := Ground.phase }, { on := 2, ground := Ground.phase }, { on := 3, ground := Ground.phase }, { on := 4, ground := Ground.phase }, { on := 5, ground := Ground.phase }, { on := 6, ground := Ground.phase }, { on := 7, ground := Ground.phase }, { on := 8, ground := Ground.phase }, { on := 9, ground := Ground.phase }, { on := 10, ground := Ground.phase }, { on := 11, ground := Ground.phase }], guard := none }] true).wp Tryz.prog Q { tmps := #[x0, x1, .pointer (some ⟨d2, 0, none⟩), .pointer (some ⟨d3, 0, none⟩), x4, .slice va na ca, x6, .slice vb nb cb, x8, x9, x10, x11, x12, x13, x14, x15, x16, x17, x18, x19, x20, x21, x22, x23, x24, x25, x26, x27, x28, x29, x30, x31, x32, x33, x34, x35, x36, x37, x38, x39, x40, x41, x42, x43, x44, x45, x46, x47, x48, x49, x50, x51, x52, x53, x54, x55, x56, x57, x58, x59, x60], defers := ds } A := by
  refine Code.wp_mono (Q := fun x a' w' => match x with | .normal => Q .normal a' w' | _ => False) (by intro x a' w' h; cases x <;> first | exact h | exact h.elim) ?_
  refine wp_region_held (S := fun V => Below A.heap.size A V) (by kernel_rfl) ?_
  have hS0 : Hid (Below A.heap.size A A.drew) := below_drew0 A
  change wpAnyH Tryz.prog .any _ _ (fun V => Below A.heap.size A V) 13 (Array.replicate 13 false) _ A.drew
  obtain ⟨V0, hV0⟩ : ∃ V0, A.drew = V0 := ⟨_, rfl⟩
  rw [hV0]
  rw [hV0] at hS0
  clear hV0
  refine wpAnyH_take (i := 0) (oi := { dst := some 49, op := Op.move (Operand.tmp 5), type := 26, pos := "law.go:99", after := #[], guard := none }) (v := .slice va na ca) rfl (by kernel_rfl) (by kernel_rfl) (by kernel_rfl) (fun _ _ _ h => h.elim) (Or.inl ⟨by rfl, ?y1⟩) hS0.out ?_
  case y1 =>
    intro V hV
    go_simp
  simp only [Act.put, List.setIfInBounds_toArray, List.set_cons_zero, List.set_cons_succ]
  refine wpAnyH_take (i := 1) (oi := { dst := some 50, op := Op.convert 26 9 (Operand.tmp 49), type := 9, pos := "law.go:99", after := #[{ on := 0, ground := Ground.data }], guard := none }) (v := .string ⟨X.toArray⟩) rfl (by kernel_rfl) (by kernel_rfl) (by kernel_rfl) (fun _ _ _ h => h.elim) (Or.inl ⟨by rfl, ?y2⟩) hS0.out ?_
  case y2 =>
    intro V hV
    exact yl_conv V _ (.slice va na ca) _ (string_in Tryz.underlying26 Tryz.underlying5 Tryz.underlying9 (HA.out.1.below hV)) rfl rfl
  simp only [Act.put, List.setIfInBounds_toArray, List.set_cons_zero, List.set_cons_succ]
  refine wpAnyH_take (i := 2) (oi := { dst := some 51, op := Op.move (Operand.tmp 7), type := 26, pos := "law.go:99", after := #[], guard := none }) (v := .slice vb nb cb) rfl (by kernel_rfl) (by kernel_rfl) (by kernel_rfl) (fun _ _ _ h => h.elim) (Or.inl ⟨by rfl, ?y3⟩) hS0.out ?_
  case y3 =>
    intro V hV
    go_simp
  simp only [Act.put, List.setIfInBounds_toArray, List.set_cons_zero, List.set_cons_succ]
  refine wpAnyH_take (i := 3) (oi := { dst := some 52, op := Op.convert 26 9 (Operand.tmp 51), type := 9, pos := "law.go:99", after := #[{ on := 2, ground := Ground.data }], guard := none }) (v := .string ⟨Y.toArray⟩) rfl (by kernel_rfl) (by kernel_rfl) (by kernel_rfl) (fun _ _ _ h => h.elim) (Or.inl ⟨by rfl, ?y4⟩) hS0.out ?_
  case y4 =>
    intro V hV
    exact yl_conv V _ (.slice vb nb cb) _ (string_in Tryz.underlying26 Tryz.underlying5 Tryz.underlying9 (HA.out.2.below hV)) rfl rfl
  simp only [Act.put, List.setIfInBounds_toArray, List.set_cons_zero, List.set_cons_succ]
  refine wpAnyH_take (i := 4) (oi := { dst := some 53, op := Op.binOp BinOp.eql 9 (Operand.tmp 50) (Operand.tmp 52) 9, type := 4, pos := "law.go:99", after := #[{ on := 1, ground := Ground.data }, { on := 3, ground := Ground.data }], guard := none }) (v := .bool true) rfl (by kernel_rfl) (by kernel_rfl) (by kernel_rfl) (fun _ _ _ h => h.elim) (Or.inl ⟨by rfl, ?y5⟩) hS0.out ?_
  case y5 =>
    intro V hV
    exact yl_eqS V _ _ ⟨X.toArray⟩ ⟨Y.toArray⟩ true HXY.out rfl rfl rfl
  simp only [Act.put, List.setIfInBounds_toArray, List.set_cons_zero, List.set_cons_succ]
  refine wpAnyH_take (i := 5) (oi := { dst := some 54, op := Op.load 25 (Operand.tmp 2), type := 25, pos := "law.go:99", after := #[], guard := none }) (v := .agg p.cells.toArray) rfl (by kernel_rfl) (by kernel_rfl) (by kernel_rfl) (fun _ _ _ h => h.elim) (yieldsIf_load_mid (by rfl) _ _ rfl _ _ rfl (p.cells) _ (fun V hV => rangeAt_same (HR.out.1) ((show Below A.heap.size A V from hV).block _ (HL.out.1))) Tryz.underlying25 rfl (info25 p)) hS0.out ?_
  simp only [Act.put, List.setIfInBounds_toArray, List.set_cons_zero, List.set_cons_succ]
  refine wpAnyH_take (i := 6) (oi := { dst := some 55, op := Op.load 25 (Operand.tmp 3), type := 25, pos := "law.go:99", after := #[], guard := none }) (v := .agg q.cells.toArray) rfl (by kernel_rfl) (by kernel_rfl) (by kernel_rfl) (fun _ _ _ h => h.elim) (yieldsIf_load_mid (by rfl) _ _ rfl _ _ rfl (q.cells) _ (fun V hV => rangeAt_same (HR.out.2) ((show Below A.heap.size A V from hV).block _ (HL.out.2))) Tryz.underlying25 rfl (info25 q)) hS0.out ?_
  simp only [Act.put, List.setIfInBounds_toArray, List.set_cons_zero, List.set_cons_succ]
  refine wpAnyH_ready (rs := [7]) (by kernel_rfl) (by simp) (AllReadyH.cons (i := 7) (o := { dst := some 56, op := Op.call { callee := Callee.value (Operand.func 9), args := #[Operand.tmp 54, Operand.tmp 55], argTypes := #[25, 25] }, type := 4, pos := "law.go:99", after := #[{ on := 5, ground := Ground.data }, { on := 6, ground := Ground.data }], guard := none }) rfl ?_ AllReadyH.nil)
  · intro K1 hK1
    rw [if_pos (by rfl)]
    have HC1 := HS.out V0 hS0.out
    go_wp2_with fail
    refine HC1.mono ?_
    rintro e V1 ⟨rfl, hb1⟩
    dsimp only
    clear HC1
    have hS1 : Hid (Below A.heap.size A V1) := hS0.out.trans (hb1.mono hS0.out.size)
    clear hb1
    refine hK1.out _ _ hS1.out ?_
    clear hK1
    intro _
    try simp only [Act.put, List.setIfInBounds_toArray, List.set_cons_zero, List.set_cons_succ]
    refine wpAnyH_take (i := 8) (oi := { dst := some 57, op := Op.binOp BinOp.eql 4 (Operand.tmp 53) (Operand.tmp 56) 4, type := 4, pos := "law.go:99", after := #[{ on := 4, ground := Ground.data }, { on := 7, ground := Ground.data }], guard := none }) (v := .bool true) rfl (by kernel_rfl) (by kernel_rfl) (by kernel_rfl) (fun _ _ _ h => h.elim) (Or.inl ⟨by rfl, ?y6⟩) hS1.out ?_
    case y6 =>
      intro V hV
      exact yl_eqB V _ _ true true true rfl rfl rfl rfl
    simp only [Act.put, List.setIfInBounds_toArray, List.set_cons_zero, List.set_cons_succ]
    refine wpAnyH_take (i := 9) (oi := { dst := some 58, op := Op.move (Operand.tmp 57), type := 4, pos := "law.go:99", after := #[{ on := 8, ground := Ground.data }, { on := 7, ground := Ground.chain }], guard := none }) (v := .bool true) rfl (by kernel_rfl) (by kernel_rfl) (by kernel_rfl) (fun _ _ _ h => h.elim) (Or.inl ⟨by rfl, ?y7⟩) hS1.out ?_
    case y7 =>
      intro V hV
      go_simp
    simp only [Act.put, List.setIfInBounds_toArray, List.set_cons_zero, List.set_cons_succ]
    refine wpAnyH_ready (rs := [10]) (by kernel_rfl) (by simp) (AllReadyH.cons (i := 10) (o := { dst := some 59, op := Op.call { callee := Callee.value (Operand.func 5), args := #[], argTypes := #[] }, type := 4, pos := "law.go:99", after := #[{ on := 9, ground := Ground.chain }, { on := 9, ground := Ground.guard }], guard := some (9, true) }) rfl ?_ AllReadyH.nil)
    · intro K1 hK1
      rw [if_pos (by rfl)]
      have HC2 := H8.out V1 hS1.out
      go_wp2_with fail
      refine HC2.mono ?_
      rintro e V2 ⟨rfl, hb2⟩
      dsimp only
      clear HC2
      have hS2 : Hid (Below A.heap.size A V2) := hS1.out.trans (hb2.mono hS1.out.size)
      clear hb2
      refine hK1.out _ _ hS2.out ?_
      clear hK1
      intro _
      try simp only [Act.put, List.setIfInBounds_toArray, List.set_cons_zero, List.set_cons_succ]
      refine wpAnyH_take (i := 11) (oi := { dst := some 60, op := Op.pick (Operand.tmp 58) (Operand.tmp 59) (Operand.const (Value.bool false)), type := 4, pos := "law.go:99", after := #[{ on := 9, ground := Ground.data }, { on := 10, ground := Ground.data }], guard := none }) (v := .bool true) rfl (by kernel_rfl) (by kernel_rfl) (by kernel_rfl) (fun _ _ _ h => h.elim) (Or.inl ⟨by rfl, ?y8⟩) hS2.out ?_
      case y8 =>
        intro V hV
        go_simp
      simp only [Act.put, List.setIfInBounds_toArray, List.set_cons_zero, List.set_cons_succ]
      refine wpAnyH_take (i := 12) (oi := { dst := some 4, op := Op.assign (Operand.tmp 60), type := 4, pos := "law.go:99", after := #[{ on := 11, ground := Ground.data }, { on := 10, ground := Ground.chain }, { on := 0, ground := Ground.phase }, { on := 1, ground := Ground.phase }, { on := 2, ground := Ground.phase }, { on := 3, ground := Ground.phase }, { on := 4, ground := Ground.phase }, { on := 5, ground := Ground.phase }, { on := 6, ground := Ground.phase }, { on := 7, ground := Ground.phase }, { on := 8, ground := Ground.phase }, { on := 9, ground := Ground.phase }, { on := 10, ground := Ground.phase }, { on := 11, ground := Ground.phase }], guard := none }) (v := .bool true) rfl (by kernel_rfl) (by kernel_rfl) (by kernel_rfl) (fun _ _ _ h => h.elim) (Or.inl ⟨by rfl, ?y9⟩) hS2.out ?_
      case y9 =>
        intro V hV
        go_simp
      simp only [Act.put, List.setIfInBounds_toArray, List.set_cons_zero, List.set_cons_succ]
      refine wpAnyH_done (by kernel_rfl) ?_ _
      exact hQ V2 hS2.out
set_option maxRecDepth 100000 in
set_option maxHeartbeats 4000000 in
theorem ul9f {Q : Exit → Act → World → Prop} {x0 x1 x4 x6 x8 x9 x10 x11 x12 x13 x14 x15 x16 x17 x18 x19 x20 x21 x22 x23 x24 x25 x26 x27 x28 x29 x30 x31 x32 x33 x34 x35 x36 x37 x38 x39 x40 x41 x42 x43 x44 x45 x46 x47 x48 x49 x50 x51 x52 x53 x54 x55 x56 x57 x58 x59 x60 : Value} {ds : List Deferred} {A : World} {d2 d3 na ca nb cb : Nat} {va vb : Option Addr} {X Y : List UInt8} {p q : PV}
    (HL : Hid (d2 < A.heap.size ∧ d3 < A.heap.size)) (HR : Hid (A.rangeAt d2 0 p.cells ∧ A.rangeAt d3 0 q.cells)) (HA : Hid (In A va na ca X ∧ In A vb nb cb Y)) (HXY : Hid (((⟨X.toArray⟩ : BA).toList == (⟨Y.toArray⟩ : BA).toList) = false)) (HS : Hid (∀ V, Below A.heap.size A V → Calls Tryz.prog 9 #[.agg p.cells.toArray, .agg q.cells.toArray] V fun e V2 => e = .returned (.bool false) ∧ Below V.heap.size V V2)) (H8 : Hid (∀ V, Below A.heap.size A V → Calls Tryz.prog 5 #[] V fun e V2 => e = .returned (.bool true) ∧ Below V.heap.size V V2))
    (hQ : ∀ V1, Below A.heap.size A V1 → Q .normal { tmps := #[x0, x1, .pointer (some ⟨d2, 0, none⟩), .pointer (some ⟨d3, 0, none⟩), .bool true, .slice va na ca, x6, .slice vb nb cb, x8, x9, x10, x11, x12, x13, x14, x15, x16, x17, x18, x19, x20, x21, x22, x23, x24, x25, x26, x27, x28, x29, x30, x31, x32, x33, x34, x35, x36, x37, x38, x39, x40, x41, x42, x43, x44, x45, x46, x47, x48, .slice va na ca, .string ⟨X.toArray⟩, .slice vb nb cb, .string ⟨Y.toArray⟩, .bool false, .agg p.cells.toArray, .agg q.cells.toArray, .bool false, .bool true, .bool true, .bool true, .bool true], defers := ds } V1) :
    (Code.region 9 #[{ dst := some 49, op := Op.move (Operand.tmp 5), type := 26, pos := "law.go:99", after := #[], guard := none }, { dst := some 50, op := Op.convert 26 9 (Operand.tmp 49), type := 9, pos := "law.go:99", after := #[{ on := 0, ground := Ground.data }], guard := none }, { dst := some 51, op := Op.move (Operand.tmp 7), type := 26, pos := "law.go:99", after := #[], guard := none }, { dst := some 52, op := Op.convert 26 9 (Operand.tmp 51), type := 9, pos := "law.go:99", after := #[{ on := 2, ground := Ground.data }], guard := none }, { dst := some 53, op := Op.binOp BinOp.eql 9 (Operand.tmp 50) (Operand.tmp 52) 9, type := 4, pos := "law.go:99", after := #[{ on := 1, ground := Ground.data }, { on := 3, ground := Ground.data }], guard := none }, { dst := some 54, op := Op.load 25 (Operand.tmp 2), type := 25, pos := "law.go:99", after := #[], guard := none }, { dst := some 55, op := Op.load 25 (Operand.tmp 3), type := 25, pos := "law.go:99", after := #[], guard := none }, { dst := some 56, op := Op.call { callee := Callee.value (Operand.func 9), args := #[Operand.tmp 54, Operand.tmp 55], argTypes := #[25, 25] }, type := 4, pos := "law.go:99", after := #[{ on := 5, ground := Ground.data }, { on := 6, ground := Ground.data }], guard := none }, { dst := some 57, op := Op.binOp BinOp.eql 4 (Operand.tmp 53) (Operand.tmp 56) 4, type := 4, pos := "law.go:99", after := #[{ on := 4, ground := Ground.data }, { on := 7, ground := Ground.data }], guard := none }, { dst := some 58, op := Op.move (Operand.tmp 57), type := 4, pos := "law.go:99", after := #[{ on := 8, ground := Ground.data }, { on := 7, ground := Ground.chain }], guard := none }, { dst := some 59, op := Op.call { callee := Callee.value (Operand.func 5), args := #[], argTypes := #[] }, type := 4, pos := "law.go:99", after := #[{ on := 9, ground := Ground.chain }, { on := 9, ground := Ground.guard }], guard := some (9, true) }, { dst := some 60, op := Op.pick (Operand.tmp 58) (Operand.tmp 59) (Operand.const (Value.bool false)), type := 4, pos := "law.go:99", after := #[{ on := 9, ground := Ground.data }, { on := 10, ground := Ground.data }], guard := none }, { dst := some 4, op := Op.assign (Operand.tmp 60), type := 4, pos := "law.go:99", after := #[{ on := 11, ground := Ground.data }, { on := 10, ground := Ground.chain }, { on := 0, ground := Ground.phase }, { on := 1, ground := Ground.phase }, { on := 2, ground := Ground.phase }, { on := 3, ground := Ground.phase }, { on := 4, ground := Ground.phase }, { on := 5, ground := Ground.phase }, { on := 6, ground := Ground.phase }, { on := 7, ground := Ground.phase }, { on := 8, ground := Ground.phase }, { on := 9, ground := Ground.phase }, { on := 10, ground := Ground.phase }, { on := 11, ground := Ground.phase }], guard := none }] true).wp Tryz.prog Q { tmps := #[x0, x1, .pointer (some ⟨d2, 0, none⟩), .pointer (some ⟨d3, 0, none⟩), x4, .slice va na ca, x6, .slice vb nb cb, x8, x9, x10, x11, x12, x13, x14, x15, x16, x17, x18, x19, x20, x21, x22, x23, x24, x25, x26, x27, x28, x29, x30, x31, x32, x33, x34, x35, x36, x37, x38, x39, x40, x41, x42, x43, x44, x45, x46, x47, x48, x49, x50, x51, x52, x53, x54, x55, x56, x57, x58, x59, x60], defers := ds } A := by
  refine Code.wp_mono (Q := fun x a' w' => match x with | .normal => Q .normal a' w' | _ => False) (by intro x a' w' h; cases x <;> first | exact h | exact h.elim) ?_
  refine wp_region_held (S := fun V => Below A.heap.size A V) (by kernel_rfl) ?_
  have hS0 : Hid (Below A.heap.size A A.drew) := below_drew0 A
  change wpAnyH Tryz.prog .any _ _ (fun V => Below A.heap.size A V) 13 (Array.replicate 13 false) _ A.drew
  obtain ⟨V0, hV0⟩ : ∃ V0, A.drew = V0 := ⟨_, rfl⟩
  rw [hV0]
  rw [hV0] at hS0
  clear hV0
  refine wpAnyH_take (i := 0) (oi := { dst := some 49, op := Op.move (Operand.tmp 5), type := 26, pos := "law.go:99", after := #[], guard := none }) (v := .slice va na ca) rfl (by kernel_rfl) (by kernel_rfl) (by kernel_rfl) (fun _ _ _ h => h.elim) (Or.inl ⟨by rfl, ?y1⟩) hS0.out ?_
  case y1 =>
    intro V hV
    go_simp
  simp only [Act.put, List.setIfInBounds_toArray, List.set_cons_zero, List.set_cons_succ]
  refine wpAnyH_take (i := 1) (oi := { dst := some 50, op := Op.convert 26 9 (Operand.tmp 49), type := 9, pos := "law.go:99", after := #[{ on := 0, ground := Ground.data }], guard := none }) (v := .string ⟨X.toArray⟩) rfl (by kernel_rfl) (by kernel_rfl) (by kernel_rfl) (fun _ _ _ h => h.elim) (Or.inl ⟨by rfl, ?y2⟩) hS0.out ?_
  case y2 =>
    intro V hV
    exact yl_conv V _ (.slice va na ca) _ (string_in Tryz.underlying26 Tryz.underlying5 Tryz.underlying9 (HA.out.1.below hV)) rfl rfl
  simp only [Act.put, List.setIfInBounds_toArray, List.set_cons_zero, List.set_cons_succ]
  refine wpAnyH_take (i := 2) (oi := { dst := some 51, op := Op.move (Operand.tmp 7), type := 26, pos := "law.go:99", after := #[], guard := none }) (v := .slice vb nb cb) rfl (by kernel_rfl) (by kernel_rfl) (by kernel_rfl) (fun _ _ _ h => h.elim) (Or.inl ⟨by rfl, ?y3⟩) hS0.out ?_
  case y3 =>
    intro V hV
    go_simp
  simp only [Act.put, List.setIfInBounds_toArray, List.set_cons_zero, List.set_cons_succ]
  refine wpAnyH_take (i := 3) (oi := { dst := some 52, op := Op.convert 26 9 (Operand.tmp 51), type := 9, pos := "law.go:99", after := #[{ on := 2, ground := Ground.data }], guard := none }) (v := .string ⟨Y.toArray⟩) rfl (by kernel_rfl) (by kernel_rfl) (by kernel_rfl) (fun _ _ _ h => h.elim) (Or.inl ⟨by rfl, ?y4⟩) hS0.out ?_
  case y4 =>
    intro V hV
    exact yl_conv V _ (.slice vb nb cb) _ (string_in Tryz.underlying26 Tryz.underlying5 Tryz.underlying9 (HA.out.2.below hV)) rfl rfl
  simp only [Act.put, List.setIfInBounds_toArray, List.set_cons_zero, List.set_cons_succ]
  refine wpAnyH_take (i := 4) (oi := { dst := some 53, op := Op.binOp BinOp.eql 9 (Operand.tmp 50) (Operand.tmp 52) 9, type := 4, pos := "law.go:99", after := #[{ on := 1, ground := Ground.data }, { on := 3, ground := Ground.data }], guard := none }) (v := .bool false) rfl (by kernel_rfl) (by kernel_rfl) (by kernel_rfl) (fun _ _ _ h => h.elim) (Or.inl ⟨by rfl, ?y5⟩) hS0.out ?_
  case y5 =>
    intro V hV
    exact yl_eqS V _ _ ⟨X.toArray⟩ ⟨Y.toArray⟩ false HXY.out rfl rfl rfl
  simp only [Act.put, List.setIfInBounds_toArray, List.set_cons_zero, List.set_cons_succ]
  refine wpAnyH_take (i := 5) (oi := { dst := some 54, op := Op.load 25 (Operand.tmp 2), type := 25, pos := "law.go:99", after := #[], guard := none }) (v := .agg p.cells.toArray) rfl (by kernel_rfl) (by kernel_rfl) (by kernel_rfl) (fun _ _ _ h => h.elim) (yieldsIf_load_mid (by rfl) _ _ rfl _ _ rfl (p.cells) _ (fun V hV => rangeAt_same (HR.out.1) ((show Below A.heap.size A V from hV).block _ (HL.out.1))) Tryz.underlying25 rfl (info25 p)) hS0.out ?_
  simp only [Act.put, List.setIfInBounds_toArray, List.set_cons_zero, List.set_cons_succ]
  refine wpAnyH_take (i := 6) (oi := { dst := some 55, op := Op.load 25 (Operand.tmp 3), type := 25, pos := "law.go:99", after := #[], guard := none }) (v := .agg q.cells.toArray) rfl (by kernel_rfl) (by kernel_rfl) (by kernel_rfl) (fun _ _ _ h => h.elim) (yieldsIf_load_mid (by rfl) _ _ rfl _ _ rfl (q.cells) _ (fun V hV => rangeAt_same (HR.out.2) ((show Below A.heap.size A V from hV).block _ (HL.out.2))) Tryz.underlying25 rfl (info25 q)) hS0.out ?_
  simp only [Act.put, List.setIfInBounds_toArray, List.set_cons_zero, List.set_cons_succ]
  refine wpAnyH_ready (rs := [7]) (by kernel_rfl) (by simp) (AllReadyH.cons (i := 7) (o := { dst := some 56, op := Op.call { callee := Callee.value (Operand.func 9), args := #[Operand.tmp 54, Operand.tmp 55], argTypes := #[25, 25] }, type := 4, pos := "law.go:99", after := #[{ on := 5, ground := Ground.data }, { on := 6, ground := Ground.data }], guard := none }) rfl ?_ AllReadyH.nil)
  · intro K1 hK1
    rw [if_pos (by rfl)]
    have HC1 := HS.out V0 hS0.out
    go_wp2_with fail
    refine HC1.mono ?_
    rintro e V1 ⟨rfl, hb1⟩
    dsimp only
    clear HC1
    have hS1 : Hid (Below A.heap.size A V1) := hS0.out.trans (hb1.mono hS0.out.size)
    clear hb1
    refine hK1.out _ _ hS1.out ?_
    clear hK1
    intro _
    try simp only [Act.put, List.setIfInBounds_toArray, List.set_cons_zero, List.set_cons_succ]
    refine wpAnyH_take (i := 8) (oi := { dst := some 57, op := Op.binOp BinOp.eql 4 (Operand.tmp 53) (Operand.tmp 56) 4, type := 4, pos := "law.go:99", after := #[{ on := 4, ground := Ground.data }, { on := 7, ground := Ground.data }], guard := none }) (v := .bool true) rfl (by kernel_rfl) (by kernel_rfl) (by kernel_rfl) (fun _ _ _ h => h.elim) (Or.inl ⟨by rfl, ?y6⟩) hS1.out ?_
    case y6 =>
      intro V hV
      exact yl_eqB V _ _ false false true rfl rfl rfl rfl
    simp only [Act.put, List.setIfInBounds_toArray, List.set_cons_zero, List.set_cons_succ]
    refine wpAnyH_take (i := 9) (oi := { dst := some 58, op := Op.move (Operand.tmp 57), type := 4, pos := "law.go:99", after := #[{ on := 8, ground := Ground.data }, { on := 7, ground := Ground.chain }], guard := none }) (v := .bool true) rfl (by kernel_rfl) (by kernel_rfl) (by kernel_rfl) (fun _ _ _ h => h.elim) (Or.inl ⟨by rfl, ?y7⟩) hS1.out ?_
    case y7 =>
      intro V hV
      go_simp
    simp only [Act.put, List.setIfInBounds_toArray, List.set_cons_zero, List.set_cons_succ]
    refine wpAnyH_ready (rs := [10]) (by kernel_rfl) (by simp) (AllReadyH.cons (i := 10) (o := { dst := some 59, op := Op.call { callee := Callee.value (Operand.func 5), args := #[], argTypes := #[] }, type := 4, pos := "law.go:99", after := #[{ on := 9, ground := Ground.chain }, { on := 9, ground := Ground.guard }], guard := some (9, true) }) rfl ?_ AllReadyH.nil)
    · intro K1 hK1
      rw [if_pos (by rfl)]
      have HC2 := H8.out V1 hS1.out
      go_wp2_with fail
      refine HC2.mono ?_
      rintro e V2 ⟨rfl, hb2⟩
      dsimp only
      clear HC2
      have hS2 : Hid (Below A.heap.size A V2) := hS1.out.trans (hb2.mono hS1.out.size)
      clear hb2
      refine hK1.out _ _ hS2.out ?_
      clear hK1
      intro _
      try simp only [Act.put, List.setIfInBounds_toArray, List.set_cons_zero, List.set_cons_succ]
      refine wpAnyH_take (i := 11) (oi := { dst := some 60, op := Op.pick (Operand.tmp 58) (Operand.tmp 59) (Operand.const (Value.bool false)), type := 4, pos := "law.go:99", after := #[{ on := 9, ground := Ground.data }, { on := 10, ground := Ground.data }], guard := none }) (v := .bool true) rfl (by kernel_rfl) (by kernel_rfl) (by kernel_rfl) (fun _ _ _ h => h.elim) (Or.inl ⟨by rfl, ?y8⟩) hS2.out ?_
      case y8 =>
        intro V hV
        go_simp
      simp only [Act.put, List.setIfInBounds_toArray, List.set_cons_zero, List.set_cons_succ]
      refine wpAnyH_take (i := 12) (oi := { dst := some 4, op := Op.assign (Operand.tmp 60), type := 4, pos := "law.go:99", after := #[{ on := 11, ground := Ground.data }, { on := 10, ground := Ground.chain }, { on := 0, ground := Ground.phase }, { on := 1, ground := Ground.phase }, { on := 2, ground := Ground.phase }, { on := 3, ground := Ground.phase }, { on := 4, ground := Ground.phase }, { on := 5, ground := Ground.phase }, { on := 6, ground := Ground.phase }, { on := 7, ground := Ground.phase }, { on := 8, ground := Ground.phase }, { on := 9, ground := Ground.phase }, { on := 10, ground := Ground.phase }, { on := 11, ground := Ground.phase }], guard := none }) (v := .bool true) rfl (by kernel_rfl) (by kernel_rfl) (by kernel_rfl) (fun _ _ _ h => h.elim) (Or.inl ⟨by rfl, ?y9⟩) hS2.out ?_
      case y9 =>
        intro V hV
        go_simp
      simp only [Act.put, List.setIfInBounds_toArray, List.set_cons_zero, List.set_cons_succ]
      refine wpAnyH_done (by kernel_rfl) ?_ _
      exact hQ V2 hS2.out
end Go.Proofs.YtgdecjacbkicmaaGreatDoor.Oct
