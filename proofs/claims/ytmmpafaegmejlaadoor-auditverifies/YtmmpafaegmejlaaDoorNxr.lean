/-
  Layer 19 (audit): the entry that makes a chain.
-/
import Derived.Test.YtmmpafaegmejlaaDoorEnr
namespace Go.Proofs.YtmmpafaegmejlaaDoor.Oct
open Go.RowKit Sha
set_option linter.unusedSimpArgs false
set_option linter.unusedVariables false

theorem uncons {α : Type} {n : Nat} {l : List α} (h : l.length = n + 1) : ∃ a t, l = a :: t ∧ t.length = n := by
  cases l with
  | nil => cases h
  | cons a t => exact ⟨a, t, rfl, by simpa using h⟩
theorem len32 {α : Type} {l : List α} (h : l.length = 32) : ∃ a0 a1 a2 a3 a4 a5 a6 a7 a8 a9 a10 a11 a12 a13 a14 a15 a16 a17 a18 a19 a20 a21 a22 a23 a24 a25 a26 a27 a28 a29 a30 a31, l = [a0, a1, a2, a3, a4, a5, a6, a7, a8, a9, a10, a11, a12, a13, a14, a15, a16, a17, a18, a19, a20, a21, a22, a23, a24, a25, a26, a27, a28, a29, a30, a31] := by
  obtain ⟨a0, l0, rfl, h0⟩ := uncons h
  obtain ⟨a1, l1, rfl, h1⟩ := uncons h0
  obtain ⟨a2, l2, rfl, h2⟩ := uncons h1
  obtain ⟨a3, l3, rfl, h3⟩ := uncons h2
  obtain ⟨a4, l4, rfl, h4⟩ := uncons h3
  obtain ⟨a5, l5, rfl, h5⟩ := uncons h4
  obtain ⟨a6, l6, rfl, h6⟩ := uncons h5
  obtain ⟨a7, l7, rfl, h7⟩ := uncons h6
  obtain ⟨a8, l8, rfl, h8⟩ := uncons h7
  obtain ⟨a9, l9, rfl, h9⟩ := uncons h8
  obtain ⟨a10, l10, rfl, h10⟩ := uncons h9
  obtain ⟨a11, l11, rfl, h11⟩ := uncons h10
  obtain ⟨a12, l12, rfl, h12⟩ := uncons h11
  obtain ⟨a13, l13, rfl, h13⟩ := uncons h12
  obtain ⟨a14, l14, rfl, h14⟩ := uncons h13
  obtain ⟨a15, l15, rfl, h15⟩ := uncons h14
  obtain ⟨a16, l16, rfl, h16⟩ := uncons h15
  obtain ⟨a17, l17, rfl, h17⟩ := uncons h16
  obtain ⟨a18, l18, rfl, h18⟩ := uncons h17
  obtain ⟨a19, l19, rfl, h19⟩ := uncons h18
  obtain ⟨a20, l20, rfl, h20⟩ := uncons h19
  obtain ⟨a21, l21, rfl, h21⟩ := uncons h20
  obtain ⟨a22, l22, rfl, h22⟩ := uncons h21
  obtain ⟨a23, l23, rfl, h23⟩ := uncons h22
  obtain ⟨a24, l24, rfl, h24⟩ := uncons h23
  obtain ⟨a25, l25, rfl, h25⟩ := uncons h24
  obtain ⟨a26, l26, rfl, h26⟩ := uncons h25
  obtain ⟨a27, l27, rfl, h27⟩ := uncons h26
  obtain ⟨a28, l28, rfl, h28⟩ := uncons h27
  obtain ⟨a29, l29, rfl, h29⟩ := uncons h28
  obtain ⟨a30, l30, rfl, h30⟩ := uncons h29
  obtain ⟨a31, l31, rfl, h31⟩ := uncons h30
  obtain rfl := List.eq_nil_of_length_eq_zero h31
  exact ⟨a0, a1, a2, a3, a4, a5, a6, a7, a8, a9, a10, a11, a12, a13, a14, a15, a16, a17, a18, a19, a20, a21, a22, a23, a24, a25, a26, a27, a28, a29, a30, a31, rfl⟩
set_option maxRecDepth 100000 in
theorem run_build37 (s t : Int) (p q : BA) (h : List UInt8) (hl : h.length = 32) (W : World) : (Instr.build 37 #[(0, iv s), (1, iv t), (2, .string p), (3, .string q), (4, .agg (U h).toArray)]).run Tryd.prog W = .ok (.agg (En.mk s t p q h).cells.toArray) W := by
  obtain ⟨a0, a1, a2, a3, a4, a5, a6, a7, a8, a9, a10, a11, a12, a13, a14, a15, a16, a17, a18, a19, a20, a21, a22, a23, a24, a25, a26, a27, a28, a29, a30, a31, rfl⟩ := len32 hl
  kernel_rfl
set_option maxRecDepth 100000 in
theorem field37 (e : En) (he : e.ok) (W : World) : (Instr.field 37 (.agg e.cells.toArray) 1).run Tryd.prog W = .ok (iv e.tick) W := by
  obtain ⟨s, t, p, q, h⟩ := e
  obtain ⟨a0, a1, a2, a3, a4, a5, a6, a7, a8, a9, a10, a11, a12, a13, a14, a15, a16, a17, a18, a19, a20, a21, a22, a23, a24, a25, a26, a27, a28, a29, a30, a31, rfl⟩ := len32 he.1
  kernel_rfl
/-- the entry that makes a chain with it behind, or the error -/
def nxE (l : List En) (tick : Int) (who what : BA) : En × Int :=
  if tick < (lastE l).tick ∨ 1099511627776 < tick then (zE, 2)
  else if 16 < who.size ∨ 512 < what.size ∨ 4096 ≤ l.length then (zE, 3)
  else (⟨(l.length : Int) + 1, tick, who, what, hdE l⟩, 0)
theorem yl_build5 {o : Oper} {a : Act} (V : World) (t : TypeId) (x0 x1 x2 x3 x4 : Operand) (u0 u1 u2 u3 u4 v : Value) (hop : o.op = .build t #[(0, x0), (1, x1), (2, x2), (3, x3), (4, x4)]) (h0 : a.eval x0 = u0) (h1 : a.eval x1 = u1) (h2 : a.eval x2 = u2) (h3 : a.eval x3 = u3) (h4 : a.eval x4 = u4)
    (hrun : ∀ W, (Instr.build t #[(0, u0), (1, u1), (2, u2), (3, u3), (4, u4)]).run Tryd.prog W = .ok v W) : (execOp a.eval o).run Tryd.prog V = .ok (.value v) V := by
  unfold execOp
  simp [hop, h0, h1, h2, h3, h4, hrun, Result.andThen]
theorem gr_below {w w' : World} {r : Option Nat} (h : Below w.heap.size w w') : w.grownBy w' r := ⟨h.os, h.tape, h.output, h.size, fun k hk _ => h.block k hk⟩
set_option maxRecDepth 100000 in
set_option maxHeartbeats 4000000 in
theorem nx5 {Q : Exit → Act → World → Prop} {x4 x5 x6 x7 x9 x10 x11 x12 x13 x14 x15 x16 x17 x18 x19 x20 x21 x22 x23 x24 x25 x26 x27 x28 x29 x30 x31 x32 x33 x34 x35 x36 x37 x38 x39 x40 x41 x42 x43 x44 x45 x46 x47 x48 x49 x50 : Value} {ds : List Deferred} {A : World} {c r n cap : Nat} {sa : Option Addr} {tick : Int} {who what : BA} {D : List UInt8} {Z : List Value}
    (HL : Hid (c < A.heap.size ∧ some c ≠ some r)) (c0 : A.cell? ⟨c, 0, none⟩ = some (.slice sa n cap)) (HD : Hid (D.length = 32)) (HX : Hid ((En.mk ((n : Int) + 1) tick who what D).ok ∧ Z.length = (En.mk ((n : Int) + 1) tick who what D).cells.length)) (HZ : Hid (Blk A r 37 Z)) (HK : Hid ((n : Int) ≤ 1000000)) (HHD : Hid (∀ V, A.grownBy V (some r) → Blk V r 37 Z → Calls Tryd.prog 37 #[.pointer (some ⟨c, 0, none⟩)] V fun e V2 => e = .returned (.agg (U D).toArray) ∧ Below V.heap.size V V2))
    (hQ : ∀ V1, Blk V1 r 37 (En.mk ((n : Int) + 1) tick who what D).cells → A.grownBy V1 (some r) → Q .normal { tmps := #[.pointer (some ⟨c, 0, none⟩), iv tick, .string who, .string what, x4, x5, x6, x7, .pointer (some ⟨r, 0, none⟩), iv 0, x10, x11, x12, x13, x14, x15, x16, x17, x18, x19, x20, x21, x22, x23, x24, x25, x26, x27, x28, x29, x30, x31, x32, x33, x34, x35, x36, x37, x38, .pointer (some ⟨c, 0, none⟩), .pointer (some ⟨c, 0, none⟩), .pointer (some ⟨c, 0, none⟩), .slice sa n cap, iv (n : Int), iv ((n : Int) + 1), iv tick, .string who, .string what, .pointer (some ⟨c, 0, none⟩), .agg (U D).toArray, .agg (En.mk ((n : Int) + 1) tick who what D).cells.toArray], defers := ds } V1) :
    (Code.region 5 #[{ dst := some 39, op := Op.move (Operand.tmp 0), type := 51, pos := "chain.go:32", after := #[], guard := none }, { dst := some 40, op := Op.nilCheck (Operand.tmp 39), type := 0, pos := "chain.go:32", after := #[{ on := 0, ground := Ground.data }], guard := none }, { dst := some 41, op := Op.fieldAddr 58 (Operand.tmp 40) 0, type := 0, pos := "chain.go:32", after := #[{ on := 1, ground := Ground.data }], guard := none }, { dst := some 42, op := Op.load 27 (Operand.tmp 41), type := 27, pos := "chain.go:32", after := #[{ on := 2, ground := Ground.data }], guard := none }, { dst := some 43, op := Op.call { callee := Callee.builtin Builtin.len, args := #[Operand.tmp 42], argTypes := #[27] }, type := 3, pos := "chain.go:32", after := #[{ on := 3, ground := Ground.data }], guard := none }, { dst := some 44, op := Op.binOp BinOp.add 3 (Operand.tmp 43) (Operand.const (Value.int IntKind.i64 1)) 3, type := 3, pos := "chain.go:32", after := #[{ on := 4, ground := Ground.data }], guard := none }, { dst := some 45, op := Op.move (Operand.tmp 1), type := 3, pos := "chain.go:32", after := #[], guard := none }, { dst := some 46, op := Op.move (Operand.tmp 2), type := 9, pos := "chain.go:32", after := #[], guard := none }, { dst := some 47, op := Op.move (Operand.tmp 3), type := 9, pos := "chain.go:32", after := #[], guard := none }, { dst := some 48, op := Op.move (Operand.tmp 0), type := 51, pos := "chain.go:32", after := #[], guard := none }, { dst := some 49, op := Op.call { callee := Callee.value (Operand.func 37), args := #[Operand.tmp 48], argTypes := #[51] }, type := 35, pos := "chain.go:32", after := #[{ on := 9, ground := Ground.data }], guard := none }, { dst := some 50, op := Op.build 37 #[(0, Operand.tmp 44), (1, Operand.tmp 45), (2, Operand.tmp 46), (3, Operand.tmp 47), (4, Operand.tmp 49)], type := 37, pos := "chain.go:32", after := #[{ on := 5, ground := Ground.data }, { on := 6, ground := Ground.data }, { on := 7, ground := Ground.data }, { on := 8, ground := Ground.data }, { on := 10, ground := Ground.data }], guard := none }, { dst := none, op := Op.store 37 (Operand.tmp 8) (Operand.tmp 50), type := 0, pos := "chain.go:32", after := #[{ on := 11, ground := Ground.data }, { on := 10, ground := Ground.chain }, { on := 0, ground := Ground.phase }, { on := 1, ground := Ground.phase }, { on := 2, ground := Ground.phase }, { on := 3, ground := Ground.phase }, { on := 4, ground := Ground.phase }, { on := 5, ground := Ground.phase }, { on := 6, ground := Ground.phase }, { on := 7, ground := Ground.phase }, { on := 8, ground := Ground.phase }, { on := 9, ground := Ground.phase }, { on := 10, ground := Ground.phase }, { on := 11, ground := Ground.phase }], guard := none }, { dst := some 9, op := Op.assign (Operand.const (Value.int IntKind.i64 0)), type := 30, pos := "chain.go:32", after := #[{ on := 12, ground := Ground.chain }, { on := 0, ground := Ground.phase }, { on := 1, ground := Ground.phase }, { on := 2, ground := Ground.phase }, { on := 3, ground := Ground.phase }, { on := 4, ground := Ground.phase }, { on := 5, ground := Ground.phase }, { on := 6, ground := Ground.phase }, { on := 7, ground := Ground.phase }, { on := 8, ground := Ground.phase }, { on := 9, ground := Ground.phase }, { on := 10, ground := Ground.phase }, { on := 11, ground := Ground.phase }, { on := 12, ground := Ground.phase }], guard := none }] true).wp Tryd.prog Q { tmps := #[.pointer (some ⟨c, 0, none⟩), iv tick, .string who, .string what, x4, x5, x6, x7, .pointer (some ⟨r, 0, none⟩), x9, x10, x11, x12, x13, x14, x15, x16, x17, x18, x19, x20, x21, x22, x23, x24, x25, x26, x27, x28, x29, x30, x31, x32, x33, x34, x35, x36, x37, x38, x39, x40, x41, x42, x43, x44, x45, x46, x47, x48, x49, x50], defers := ds } A := by
  refine Code.wp_mono (Q := fun x a' w' => match x with | .normal => Q .normal a' w' | _ => False) (by intro x a' w' h; cases x <;> first | exact h | exact h.elim) ?_
  refine wp_region_held (S := fun V => A.grownBy V (some r)) (by kernel_rfl) ?_
  have hS0 : Hid (A.grownBy A.drew (some r)) := grown_drewN A 1 _
  change wpAnyH Tryd.prog .any _ _ (fun V => A.grownBy V (some r)) 14 (Array.replicate 14 false) _ A.drew
  obtain ⟨V0, hV0⟩ : ∃ V0, A.drew = V0 := ⟨_, rfl⟩
  rw [hV0]
  rw [hV0] at hS0
  have hZ0 : Hid (Blk V0 r 37 Z) := by rw [← hV0]; exact HZ.out
  clear hV0
  refine wpAnyH_take (i := 0) (oi := { dst := some 39, op := Op.move (Operand.tmp 0), type := 51, pos := "chain.go:32", after := #[], guard := none }) (v := .pointer (some ⟨c, 0, none⟩)) rfl (by kernel_rfl) (by kernel_rfl) (by kernel_rfl) (fun _ _ _ h => h.elim) (Or.inl ⟨by rfl, ?y1⟩) hS0.out ?_
  case y1 =>
    intro V hV
    go_simp
  simp only [Act.put, List.setIfInBounds_toArray, List.set_cons_zero, List.set_cons_succ]
  refine wpAnyH_take (i := 1) (oi := { dst := some 40, op := Op.nilCheck (Operand.tmp 39), type := 0, pos := "chain.go:32", after := #[{ on := 0, ground := Ground.data }], guard := none }) (v := .pointer (some ⟨c, 0, none⟩)) rfl (by kernel_rfl) (by kernel_rfl) (by kernel_rfl) (fun _ _ _ h => h.elim) (Or.inl ⟨by rfl, ?y2⟩) hS0.out ?_
  case y2 =>
    intro V hV
    go_simp
  simp only [Act.put, List.setIfInBounds_toArray, List.set_cons_zero, List.set_cons_succ]
  refine wpAnyH_take (i := 2) (oi := { dst := some 41, op := Op.fieldAddr 58 (Operand.tmp 40) 0, type := 0, pos := "chain.go:32", after := #[{ on := 1, ground := Ground.data }], guard := none }) (v := .pointer (some ⟨c, 0, none⟩)) rfl (by kernel_rfl) (by kernel_rfl) (by kernel_rfl) (fun _ _ _ h => h.elim) (Or.inl ⟨by rfl, ?y3⟩) hS0.out ?_
  case y3 =>
    intro V hV
    go_simp
  simp only [Act.put, List.setIfInBounds_toArray, List.set_cons_zero, List.set_cons_succ]
  refine wpAnyH_take (i := 3) (oi := { dst := some 42, op := Op.load 27 (Operand.tmp 41), type := 27, pos := "chain.go:32", after := #[{ on := 2, ground := Ground.data }], guard := none }) (v := .slice sa n cap) rfl (by kernel_rfl) (by kernel_rfl) (by kernel_rfl) (fun _ _ _ h => h.elim) (Or.inl ⟨by rfl, ?y4⟩) hS0.out ?_
  case y4 =>
    intro V hV
    have hc : V.cell? ⟨c, 0, none⟩ = some (.slice sa n cap) := (World.cell?_of_block (a := ⟨c, 0, none⟩) ((show A.grownBy V (some r) from hV).block c HL.out.1 HL.out.2)).trans c0
    go_simp
  simp only [Act.put, List.setIfInBounds_toArray, List.set_cons_zero, List.set_cons_succ]
  refine wpAnyH_take (i := 4) (oi := { dst := some 43, op := Op.call { callee := Callee.builtin Builtin.len, args := #[Operand.tmp 42], argTypes := #[27] }, type := 3, pos := "chain.go:32", after := #[{ on := 3, ground := Ground.data }], guard := none }) (v := iv (n : Int)) rfl (by kernel_rfl) (by kernel_rfl) (by kernel_rfl) (fun _ _ _ h => h.elim) (Or.inl ⟨by rfl, ?y5⟩) hS0.out ?_
  case y5 =>
    intro V hV
    go_simp
  simp only [Act.put, List.setIfInBounds_toArray, List.set_cons_zero, List.set_cons_succ]
  refine wpAnyH_take (i := 5) (oi := { dst := some 44, op := Op.binOp BinOp.add 3 (Operand.tmp 43) (Operand.const (Value.int IntKind.i64 1)) 3, type := 3, pos := "chain.go:32", after := #[{ on := 4, ground := Ground.data }], guard := none }) (v := iv ((n : Int) + 1)) rfl (by kernel_rfl) (by kernel_rfl) (by kernel_rfl) (fun _ _ _ h => h.elim) (Or.inl ⟨by rfl, ?y6⟩) hS0.out ?_
  case y6 =>
    intro V hV
    have q1 := HK.out
    have q2 : IntKind.i64.wrap ((n : Int) + 1) = (n : Int) + 1 := by rw [IntKind.wrap_i64]; omega
    go_simp
  simp only [Act.put, List.setIfInBounds_toArray, List.set_cons_zero, List.set_cons_succ]
  refine wpAnyH_take (i := 6) (oi := { dst := some 45, op := Op.move (Operand.tmp 1), type := 3, pos := "chain.go:32", after := #[], guard := none }) (v := iv tick) rfl (by kernel_rfl) (by kernel_rfl) (by kernel_rfl) (fun _ _ _ h => h.elim) (Or.inl ⟨by rfl, ?y7⟩) hS0.out ?_
  case y7 =>
    intro V hV
    go_simp
  simp only [Act.put, List.setIfInBounds_toArray, List.set_cons_zero, List.set_cons_succ]
  refine wpAnyH_take (i := 7) (oi := { dst := some 46, op := Op.move (Operand.tmp 2), type := 9, pos := "chain.go:32", after := #[], guard := none }) (v := .string who) rfl (by kernel_rfl) (by kernel_rfl) (by kernel_rfl) (fun _ _ _ h => h.elim) (Or.inl ⟨by rfl, ?y8⟩) hS0.out ?_
  case y8 =>
    intro V hV
    go_simp
  simp only [Act.put, List.setIfInBounds_toArray, List.set_cons_zero, List.set_cons_succ]
  refine wpAnyH_take (i := 8) (oi := { dst := some 47, op := Op.move (Operand.tmp 3), type := 9, pos := "chain.go:32", after := #[], guard := none }) (v := .string what) rfl (by kernel_rfl) (by kernel_rfl) (by kernel_rfl) (fun _ _ _ h => h.elim) (Or.inl ⟨by rfl, ?y9⟩) hS0.out ?_
  case y9 =>
    intro V hV
    go_simp
  simp only [Act.put, List.setIfInBounds_toArray, List.set_cons_zero, List.set_cons_succ]
  refine wpAnyH_take (i := 9) (oi := { dst := some 48, op := Op.move (Operand.tmp 0), type := 51, pos := "chain.go:32", after := #[], guard := none }) (v := .pointer (some ⟨c, 0, none⟩)) rfl (by kernel_rfl) (by kernel_rfl) (by kernel_rfl) (fun _ _ _ h => h.elim) (Or.inl ⟨by rfl, ?y10⟩) hS0.out ?_
  case y10 =>
    intro V hV
    go_simp
  simp only [Act.put, List.setIfInBounds_toArray, List.set_cons_zero, List.set_cons_succ]
  refine wpAnyH_ready (rs := [10]) (by kernel_rfl) (by simp) (AllReadyH.cons (i := 10) (o := { dst := some 49, op := Op.call { callee := Callee.value (Operand.func 37), args := #[Operand.tmp 48], argTypes := #[51] }, type := 35, pos := "chain.go:32", after := #[{ on := 9, ground := Ground.data }], guard := none }) rfl ?_ AllReadyH.nil)
  · intro K1 hK1
    rw [if_pos (by rfl)]
    have HC1 := HHD.out V0 hS0.out hZ0.out
    go_wp2_with fail
    refine HC1.mono ?_
    rintro x V1 ⟨rfl, hb1⟩
    dsimp only
    clear HC1
    have hS1 : Hid (A.grownBy V1 (some r)) := grown_tr hS0.out (gr_below hb1)
    have hZ1 : Hid (Blk V1 r 37 Z) := hZ0.out.below hb1 hZ0.out.lt
    clear hb1
    refine hK1.out _ _ hS1.out ?_
    clear hK1
    intro _
    try simp only [Act.put, List.setIfInBounds_toArray, List.set_cons_zero, List.set_cons_succ]
    refine wpAnyH_take (i := 11) (oi := { dst := some 50, op := Op.build 37 #[(0, Operand.tmp 44), (1, Operand.tmp 45), (2, Operand.tmp 46), (3, Operand.tmp 47), (4, Operand.tmp 49)], type := 37, pos := "chain.go:32", after := #[{ on := 5, ground := Ground.data }, { on := 6, ground := Ground.data }, { on := 7, ground := Ground.data }, { on := 8, ground := Ground.data }, { on := 10, ground := Ground.data }], guard := none }) (v := .agg (En.mk ((n : Int) + 1) tick who what D).cells.toArray) rfl (by kernel_rfl) (by kernel_rfl) (by kernel_rfl) (fun _ _ _ h => h.elim) (Or.inl ⟨by rfl, ?y11⟩) hS1.out ?_
    case y11 =>
      intro V hV
      exact yl_build5 V 37 _ _ _ _ _ _ _ _ _ _ _ rfl rfl rfl rfl rfl rfl (run_build37 _ _ _ _ D HD.out)
    simp only [Act.put, List.setIfInBounds_toArray, List.set_cons_zero, List.set_cons_succ]
    refine wpAnyH_ready (rs := [12]) (by kernel_rfl) (by simp) (AllReadyH.cons (i := 12) (o := { dst := none, op := Op.store 37 (Operand.tmp 8) (Operand.tmp 50), type := 0, pos := "chain.go:32", after := #[{ on := 11, ground := Ground.data }, { on := 10, ground := Ground.chain }, { on := 0, ground := Ground.phase }, { on := 1, ground := Ground.phase }, { on := 2, ground := Ground.phase }, { on := 3, ground := Ground.phase }, { on := 4, ground := Ground.phase }, { on := 5, ground := Ground.phase }, { on := 6, ground := Ground.phase }, { on := 7, ground := Ground.phase }, { on := 8, ground := Ground.phase }, { on := 9, ground := Ground.phase }, { on := 10, ground := Ground.phase }, { on := 11, ground := Ground.phase }], guard := none }) rfl ?_ AllReadyH.nil)
    · intro K1 hK1
      refine step_stB (by rfl) 37 (.tmp 8) (.tmp 50) rfl r (En.mk ((n : Int) + 1) tick who what D).cells 37 Z rfl rfl hZ1.out HX.out.2 (info37 HX.out.1) (En.one _) ?_
      intro V2 hX2 hg2
      have hS2 : Hid (A.grownBy V2 (some r)) := grown_tr hS1.out hg2.out
      clear hg2
      refine hK1.out _ _ hS2.out ?_
      clear hK1
      intro _
      try simp only [Act.put, List.setIfInBounds_toArray, List.set_cons_zero, List.set_cons_succ]
      refine wpAnyH_take (i := 13) (oi := { dst := some 9, op := Op.assign (Operand.const (Value.int IntKind.i64 0)), type := 30, pos := "chain.go:32", after := #[{ on := 12, ground := Ground.chain }, { on := 0, ground := Ground.phase }, { on := 1, ground := Ground.phase }, { on := 2, ground := Ground.phase }, { on := 3, ground := Ground.phase }, { on := 4, ground := Ground.phase }, { on := 5, ground := Ground.phase }, { on := 6, ground := Ground.phase }, { on := 7, ground := Ground.phase }, { on := 8, ground := Ground.phase }, { on := 9, ground := Ground.phase }, { on := 10, ground := Ground.phase }, { on := 11, ground := Ground.phase }, { on := 12, ground := Ground.phase }], guard := none }) (v := iv 0) rfl (by kernel_rfl) (by kernel_rfl) (by kernel_rfl) (fun _ _ _ h => h.elim) (Or.inl ⟨by rfl, ?y12⟩) hS2.out ?_
      case y12 =>
        intro V hV
        go_simp
      simp only [Act.put, List.setIfInBounds_toArray, List.set_cons_zero, List.set_cons_succ]
      refine wpAnyH_done (by kernel_rfl) ?_ _
      exact hQ V2 hX2.out hS2.out
#print axioms nx5
end Go.Proofs.YtmmpafaegmejlaaDoor.Oct
