/-
  Layer 11 (lines): the order: drawn regions.
-/
import Derived.Test.YtjcihaohpbmogaaQoBR
/- Layer 11 (lines): the order: drawn regions. -/
namespace Go.Proofs.Ytjcihaohpbmogaa.Oct
open Go.RowKit
set_option maxRecDepth 100000
set_option linter.unusedSimpArgs false
set_option linter.unusedVariables false
set_option linter.unusedSectionVars false

theorem yl_built {o : Oper} {a : Act} (V : World) (t : TypeId) (parts : Array (Nat × Operand)) (hop : o.op = .build t parts) (us : Array (Nat × Value)) (hx : (parts.map fun (i, x) => (i, a.eval x)) = us) (r : Array Value) (hb : Try.prog.built t us.toList = some r) : (execOp a.eval o).run Try.prog V = .ok (.value (.agg r)) V := by
  subst hx
  unfold execOp
  simp only [hop, Sem.run_bind, Sem.run_pure, Result.andThen_ok]
  rw [run_build V t _ r hb]
  rfl
set_option maxRecDepth 100000 in
set_option maxHeartbeats 4000000 in
theorem or10 {Q : Exit → Act → World → Prop} {x0 x1 x2 x6 x7 x8 x9 x10 x11 x12 x13 x14 x15 x16 x17 x18 x19 x20 x21 x22 x23 x24 x25 x26 x27 x28 x29 x30 x31 x32 x33 x34 x35 x36 x37 x38 x39 x40 x41 x42 x43 x44 x45 x46 x47 x48 x49 x50 x51 x52 x53 x54 x55 x56 x57 x58 x59 x60 x61 x62 x63 x64 x65 x66 x67 x68 x69 x70 x71 x72 x73 x74 x75 x76 x77 x78 x79 x80 x81 x82 x83 x84 x85 x86 x87 x88 x89 x90 x91 x92 x93 x94 x95 x96 x97 x98 x99 x100 x101 x102 x103 x104 x105 x106 x107 : Value} {ds : List Deferred} {A : World} {p gb off n c i : Nat} {XC CT CB : List Value}
    (HL : Hid (gb < A.heap.size ∧ True)) (HR : Hid (A.rangeAt gb (off + i * 35) XC ∧ (Try.prog.info? 34).map (·.size) = some XC.length)) (q1 : (i : Int) < (n : Int)) (q2 : i < n) (HBT : Hid (Try.prog.built 34 [] = some CT.toArray)) (HBB : Hid (Try.prog.built 34 [(1, iv 1)] = some CB.toArray)) (HHAS : Hid (∀ V, Below A.heap.size A V → Calls Try.prog 19 #[.pointer (some ⟨p, 0, none⟩), .agg XC.toArray] V fun e w' => e = .returned (.bool true) ∧ Below V.heap.size V w')) (HTOP : Hid (∀ V, Below A.heap.size A V → Calls Try.prog 20 #[.pointer (some ⟨p, 0, none⟩), .agg CT.toArray, .agg XC.toArray] V fun e w' => e = .returned (.bool true) ∧ Below V.heap.size V w')) (HBOT : Hid (∀ V, Below A.heap.size A V → Calls Try.prog 20 #[.pointer (some ⟨p, 0, none⟩), .agg XC.toArray, .agg CB.toArray] V fun e w' => e = .returned (.bool true) ∧ Below V.heap.size V w')) (HSELF : Hid (∀ V, Below A.heap.size A V → Calls Try.prog 20 #[.pointer (some ⟨p, 0, none⟩), .agg XC.toArray, .agg XC.toArray] V fun e w' => e = .returned (.bool false) ∧ Below V.heap.size V w'))
    (hQ : ∀ V1, Below A.heap.size A V1 → Q .normal { tmps := #[x0, x1, x2, .pointer (some ⟨p, 0, none⟩), .slice (some ⟨gb, off, none⟩) n c, iv (i : Int), x6, x7, x8, x9, x10, x11, x12, x13, x14, x15, x16, x17, x18, x19, x20, x21, x22, x23, x24, .pointer (some ⟨p, 0, none⟩), .slice (some ⟨gb, off, none⟩) n c, iv (i : Int), .pointer (some ⟨gb, off + i * 35, none⟩), .pointer (some ⟨gb, off + i * 35, none⟩), .agg XC.toArray, .bool true, .bool false, .bool false, .pointer (some ⟨p, 0, none⟩), .agg CT.toArray, .slice (some ⟨gb, off, none⟩) n c, iv (i : Int), .pointer (some ⟨gb, off + i * 35, none⟩), .pointer (some ⟨gb, off + i * 35, none⟩), .agg XC.toArray, .bool true, .bool false, .bool false, .bool false, .pointer (some ⟨p, 0, none⟩), .slice (some ⟨gb, off, none⟩) n c, iv (i : Int), .pointer (some ⟨gb, off + i * 35, none⟩), .pointer (some ⟨gb, off + i * 35, none⟩), .agg XC.toArray, .agg CB.toArray, .bool true, .bool false, .bool false, .bool false, .pointer (some ⟨p, 0, none⟩), .slice (some ⟨gb, off, none⟩) n c, iv (i : Int), .pointer (some ⟨gb, off + i * 35, none⟩), .pointer (some ⟨gb, off + i * 35, none⟩), .agg XC.toArray, .slice (some ⟨gb, off, none⟩) n c, iv (i : Int), .pointer (some ⟨gb, off + i * 35, none⟩), .pointer (some ⟨gb, off + i * 35, none⟩), .agg XC.toArray, .bool false, .bool false, x69, x70, x71, x72, x73, x74, x75, x76, x77, x78, x79, x80, x81, x82, x83, x84, x85, x86, x87, x88, x89, x90, x91, x92, x93, x94, x95, x96, x97, x98, x99, x100, x101, x102, x103, x104, x105, x106, x107], defers := ds } V1) :
    (Code.region 10 #[{ dst := some 25, op := Op.move (Operand.tmp 3), type := 25, pos := "law.go:129", after := #[], guard := none }, { dst := some 26, op := Op.move (Operand.tmp 4), type := 45, pos := "law.go:129", after := #[], guard := none }, { dst := some 27, op := Op.move (Operand.tmp 5), type := 3, pos := "law.go:129", after := #[], guard := none }, { dst := some 28, op := Op.indexAddr 45 (Operand.tmp 26) (Operand.tmp 27), type := 0, pos := "law.go:129", after := #[{ on := 1, ground := Ground.data }, { on := 2, ground := Ground.data }], guard := none }, { dst := some 29, op := Op.fieldAddr 50 (Operand.tmp 28) 0, type := 0, pos := "law.go:129", after := #[{ on := 3, ground := Ground.data }], guard := none }, { dst := some 30, op := Op.load 34 (Operand.tmp 29), type := 34, pos := "law.go:129", after := #[{ on := 4, ground := Ground.data }], guard := none }, { dst := some 31, op := Op.call { callee := Callee.value (Operand.func 19), args := #[Operand.tmp 25, Operand.tmp 30], argTypes := #[25, 34] }, type := 4, pos := "law.go:129", after := #[{ on := 0, ground := Ground.data }, { on := 5, ground := Ground.data }], guard := none }, { dst := some 32, op := Op.unOp UnOp.not 4 (Operand.tmp 31), type := 4, pos := "law.go:129", after := #[{ on := 6, ground := Ground.data }], guard := none }, { dst := some 33, op := Op.move (Operand.tmp 32), type := 4, pos := "law.go:129", after := #[{ on := 7, ground := Ground.data }, { on := 6, ground := Ground.chain }], guard := none }, { dst := some 34, op := Op.move (Operand.tmp 3), type := 25, pos := "law.go:129", after := #[{ on := 8, ground := Ground.guard }], guard := some (8, false) }, { dst := some 35, op := Op.build 34 #[], type := 34, pos := "law.go:129", after := #[{ on := 8, ground := Ground.guard }], guard := some (8, false) }, { dst := some 36, op := Op.move (Operand.tmp 4), type := 45, pos := "law.go:129", after := #[{ on := 8, ground := Ground.guard }], guard := some (8, false) }, { dst := some 37, op := Op.move (Operand.tmp 5), type := 3, pos := "law.go:129", after := #[{ on := 8, ground := Ground.guard }], guard := some (8, false) }, { dst := some 38, op := Op.indexAddr 45 (Operand.tmp 36) (Operand.tmp 37), type := 0, pos := "law.go:129", after := #[{ on := 11, ground := Ground.data }, { on := 12, ground := Ground.data }, { on := 8, ground := Ground.guard }], guard := some (8, false) }, { dst := some 39, op := Op.fieldAddr 50 (Operand.tmp 38) 0, type := 0, pos := "law.go:129", after := #[{ on := 13, ground := Ground.data }, { on := 8, ground := Ground.guard }], guard := some (8, false) }, { dst := some 40, op := Op.load 34 (Operand.tmp 39), type := 34, pos := "law.go:129", after := #[{ on := 14, ground := Ground.data }, { on := 8, ground := Ground.guard }], guard := some (8, false) }, { dst := some 41, op := Op.call { callee := Callee.value (Operand.func 20), args := #[Operand.tmp 34, Operand.tmp 35, Operand.tmp 40], argTypes := #[25, 34, 34] }, type := 4, pos := "law.go:129", after := #[{ on := 9, ground := Ground.data }, { on := 10, ground := Ground.data }, { on := 15, ground := Ground.data }, { on := 8, ground := Ground.chain }, { on := 8, ground := Ground.guard }], guard := some (8, false) }, { dst := some 42, op := Op.unOp UnOp.not 4 (Operand.tmp 41), type := 4, pos := "law.go:129", after := #[{ on := 16, ground := Ground.data }, { on := 8, ground := Ground.guard }], guard := some (8, false) }, { dst := some 43, op := Op.pick (Operand.tmp 33) (Operand.const (Value.bool true)) (Operand.tmp 42), type := 4, pos := "law.go:129", after := #[{ on := 8, ground := Ground.data }, { on := 17, ground := Ground.data }], guard := none }, { dst := some 44, op := Op.move (Operand.tmp 43), type := 4, pos := "law.go:129", after := #[{ on := 18, ground := Ground.data }, { on := 16, ground := Ground.chain }], guard := none }, { dst := some 45, op := Op.move (Operand.tmp 3), type := 25, pos := "law.go:129", after := #[{ on := 19, ground := Ground.guard }], guard := some (19, false) }, { dst := some 46, op := Op.move (Operand.tmp 4), type := 45, pos := "law.go:129", after := #[{ on := 19, ground := Ground.guard }], guard := some (19, false) }, { dst := some 47, op := Op.move (Operand.tmp 5), type := 3, pos := "law.go:129", after := #[{ on := 19, ground := Ground.guard }], guard := some (19, false) }, { dst := some 48, op := Op.indexAddr 45 (Operand.tmp 46) (Operand.tmp 47), type := 0, pos := "law.go:129", after := #[{ on := 21, ground := Ground.data }, { on := 22, ground := Ground.data }, { on := 19, ground := Ground.guard }], guard := some (19, false) }, { dst := some 49, op := Op.fieldAddr 50 (Operand.tmp 48) 0, type := 0, pos := "law.go:129", after := #[{ on := 23, ground := Ground.data }, { on := 19, ground := Ground.guard }], guard := some (19, false) }, { dst := some 50, op := Op.load 34 (Operand.tmp 49), type := 34, pos := "law.go:129", after := #[{ on := 24, ground := Ground.data }, { on := 19, ground := Ground.guard }], guard := some (19, false) }, { dst := some 51, op := Op.build 34 #[(1, Operand.const (Value.int IntKind.i64 1))], type := 34, pos := "law.go:129", after := #[{ on := 19, ground := Ground.guard }], guard := some (19, false) }, { dst := some 52, op := Op.call { callee := Callee.value (Operand.func 20), args := #[Operand.tmp 45, Operand.tmp 50, Operand.tmp 51], argTypes := #[25, 34, 34] }, type := 4, pos := "law.go:129", after := #[{ on := 20, ground := Ground.data }, { on := 25, ground := Ground.data }, { on := 26, ground := Ground.data }, { on := 19, ground := Ground.chain }, { on := 19, ground := Ground.guard }], guard := some (19, false) }, { dst := some 53, op := Op.unOp UnOp.not 4 (Operand.tmp 52), type := 4, pos := "law.go:129", after := #[{ on := 27, ground := Ground.data }, { on := 19, ground := Ground.guard }], guard := some (19, false) }, { dst := some 54, op := Op.pick (Operand.tmp 44) (Operand.const (Value.bool true)) (Operand.tmp 53), type := 4, pos := "law.go:129", after := #[{ on := 19, ground := Ground.data }, { on := 28, ground := Ground.data }], guard := none }, { dst := some 55, op := Op.move (Operand.tmp 54), type := 4, pos := "law.go:129", after := #[{ on := 29, ground := Ground.data }, { on := 27, ground := Ground.chain }], guard := none }, { dst := some 56, op := Op.move (Operand.tmp 3), type := 25, pos := "law.go:129", after := #[{ on := 30, ground := Ground.guard }], guard := some (30, false) }, { dst := some 57, op := Op.move (Operand.tmp 4), type := 45, pos := "law.go:129", after := #[{ on := 30, ground := Ground.guard }], guard := some (30, false) }, { dst := some 58, op := Op.move (Operand.tmp 5), type := 3, pos := "law.go:129", after := #[{ on := 30, ground := Ground.guard }], guard := some (30, false) }, { dst := some 59, op := Op.indexAddr 45 (Operand.tmp 57) (Operand.tmp 58), type := 0, pos := "law.go:129", after := #[{ on := 32, ground := Ground.data }, { on := 33, ground := Ground.data }, { on := 30, ground := Ground.guard }], guard := some (30, false) }, { dst := some 60, op := Op.fieldAddr 50 (Operand.tmp 59) 0, type := 0, pos := "law.go:129", after := #[{ on := 34, ground := Ground.data }, { on := 30, ground := Ground.guard }], guard := some (30, false) }, { dst := some 61, op := Op.load 34 (Operand.tmp 60), type := 34, pos := "law.go:129", after := #[{ on := 35, ground := Ground.data }, { on := 30, ground := Ground.guard }], guard := some (30, false) }, { dst := some 62, op := Op.move (Operand.tmp 4), type := 45, pos := "law.go:129", after := #[{ on := 30, ground := Ground.guard }], guard := some (30, false) }, { dst := some 63, op := Op.move (Operand.tmp 5), type := 3, pos := "law.go:129", after := #[{ on := 30, ground := Ground.guard }], guard := some (30, false) }, { dst := some 64, op := Op.indexAddr 45 (Operand.tmp 62) (Operand.tmp 63), type := 0, pos := "law.go:129", after := #[{ on := 37, ground := Ground.data }, { on := 38, ground := Ground.data }, { on := 30, ground := Ground.guard }], guard := some (30, false) }, { dst := some 65, op := Op.fieldAddr 50 (Operand.tmp 64) 0, type := 0, pos := "law.go:129", after := #[{ on := 39, ground := Ground.data }, { on := 30, ground := Ground.guard }], guard := some (30, false) }, { dst := some 66, op := Op.load 34 (Operand.tmp 65), type := 34, pos := "law.go:129", after := #[{ on := 40, ground := Ground.data }, { on := 30, ground := Ground.guard }], guard := some (30, false) }, { dst := some 67, op := Op.call { callee := Callee.value (Operand.func 20), args := #[Operand.tmp 56, Operand.tmp 61, Operand.tmp 66], argTypes := #[25, 34, 34] }, type := 4, pos := "law.go:129", after := #[{ on := 31, ground := Ground.data }, { on := 36, ground := Ground.data }, { on := 41, ground := Ground.data }, { on := 30, ground := Ground.chain }, { on := 30, ground := Ground.guard }], guard := some (30, false) }, { dst := some 68, op := Op.pick (Operand.tmp 55) (Operand.const (Value.bool true)) (Operand.tmp 67), type := 4, pos := "law.go:129", after := #[{ on := 30, ground := Ground.data }, { on := 42, ground := Ground.data }], guard := none }] true).wp Try.prog Q { tmps := #[x0, x1, x2, .pointer (some ⟨p, 0, none⟩), .slice (some ⟨gb, off, none⟩) n c, iv (i : Int), x6, x7, x8, x9, x10, x11, x12, x13, x14, x15, x16, x17, x18, x19, x20, x21, x22, x23, x24, x25, x26, x27, x28, x29, x30, x31, x32, x33, x34, x35, x36, x37, x38, x39, x40, x41, x42, x43, x44, x45, x46, x47, x48, x49, x50, x51, x52, x53, x54, x55, x56, x57, x58, x59, x60, x61, x62, x63, x64, x65, x66, x67, x68, x69, x70, x71, x72, x73, x74, x75, x76, x77, x78, x79, x80, x81, x82, x83, x84, x85, x86, x87, x88, x89, x90, x91, x92, x93, x94, x95, x96, x97, x98, x99, x100, x101, x102, x103, x104, x105, x106, x107], defers := ds } A := by
  refine Code.wp_mono (Q := fun x a' w' => match x with | .normal => Q .normal a' w' | _ => False) (by intro x a' w' h; cases x <;> first | exact h | exact h.elim) ?_
  refine wp_region_held (S := fun V => Below A.heap.size A V) (by kernel_rfl) ?_
  have hS0 : Hid (Below A.heap.size A A.drew) := below_drew0 A
  change wpAnyH Try.prog .any _ _ (fun V => Below A.heap.size A V) 44 (Array.replicate 44 false) _ A.drew
  obtain ⟨V0, hV0⟩ : ∃ V0, A.drew = V0 := ⟨_, rfl⟩
  rw [hV0]
  rw [hV0] at hS0
  clear hV0
  refine wpAnyH_take (i := 0) (oi := { dst := some 25, op := Op.move (Operand.tmp 3), type := 25, pos := "law.go:129", after := #[], guard := none }) (v := .pointer (some ⟨p, 0, none⟩)) rfl (by kernel_rfl) (by kernel_rfl) (by kernel_rfl) (fun _ _ _ h => h.elim) (Or.inl ⟨by rfl, ?y1⟩) hS0.out ?_
  case y1 =>
    intro V hV
    go_simp
  simp only [Act.put, List.setIfInBounds_toArray, List.set_cons_zero, List.set_cons_succ]
  refine wpAnyH_take (i := 1) (oi := { dst := some 26, op := Op.move (Operand.tmp 4), type := 45, pos := "law.go:129", after := #[], guard := none }) (v := .slice (some ⟨gb, off, none⟩) n c) rfl (by kernel_rfl) (by kernel_rfl) (by kernel_rfl) (fun _ _ _ h => h.elim) (Or.inl ⟨by rfl, ?y2⟩) hS0.out ?_
  case y2 =>
    intro V hV
    go_simp
  simp only [Act.put, List.setIfInBounds_toArray, List.set_cons_zero, List.set_cons_succ]
  refine wpAnyH_take (i := 2) (oi := { dst := some 27, op := Op.move (Operand.tmp 5), type := 3, pos := "law.go:129", after := #[], guard := none }) (v := iv (i : Int)) rfl (by kernel_rfl) (by kernel_rfl) (by kernel_rfl) (fun _ _ _ h => h.elim) (Or.inl ⟨by rfl, ?y3⟩) hS0.out ?_
  case y3 =>
    intro V hV
    go_simp
  simp only [Act.put, List.setIfInBounds_toArray, List.set_cons_zero, List.set_cons_succ]
  refine wpAnyH_take (i := 3) (oi := { dst := some 28, op := Op.indexAddr 45 (Operand.tmp 26) (Operand.tmp 27), type := 0, pos := "law.go:129", after := #[{ on := 1, ground := Ground.data }, { on := 2, ground := Ground.data }], guard := none }) (v := .pointer (some ⟨gb, off + i * 35, none⟩)) rfl (by kernel_rfl) (by kernel_rfl) (by kernel_rfl) (fun _ _ _ h => h.elim) (Or.inl ⟨by rfl, ?y4⟩) hS0.out ?_
  case y4 =>
    intro V hV
    have hcmp := q1
    have hcmp2 := q2
    go_simp
  simp only [Act.put, List.setIfInBounds_toArray, List.set_cons_zero, List.set_cons_succ]
  refine wpAnyH_take (i := 4) (oi := { dst := some 29, op := Op.fieldAddr 50 (Operand.tmp 28) 0, type := 0, pos := "law.go:129", after := #[{ on := 3, ground := Ground.data }], guard := none }) (v := .pointer (some ⟨gb, off + i * 35, none⟩)) rfl (by kernel_rfl) (by kernel_rfl) (by kernel_rfl) (fun _ _ _ h => h.elim) (Or.inl ⟨by rfl, ?y5⟩) hS0.out ?_
  case y5 =>
    intro V hV
    go_simp
  simp only [Act.put, List.setIfInBounds_toArray, List.set_cons_zero, List.set_cons_succ]
  refine wpAnyH_take (i := 5) (oi := { dst := some 30, op := Op.load 34 (Operand.tmp 29), type := 34, pos := "law.go:129", after := #[{ on := 4, ground := Ground.data }], guard := none }) (v := .agg XC.toArray) rfl (by kernel_rfl) (by kernel_rfl) (by kernel_rfl) (fun _ _ _ h => h.elim) (yieldsIf_load_mid (by rfl) _ _ rfl _ _ rfl (XC) _ (fun V hV => rangeAt_same (HR.out.1) ((show Below A.heap.size A V from hV).block _ (HL.out.1))) Try.underlying34 rfl (HR.out.2)) hS0.out ?_
  simp only [Act.put, List.setIfInBounds_toArray, List.set_cons_zero, List.set_cons_succ]
  refine wpAnyH_ready (rs := [6]) (by kernel_rfl) (by simp) (AllReadyH.cons (i := 6) (o := { dst := some 31, op := Op.call { callee := Callee.value (Operand.func 19), args := #[Operand.tmp 25, Operand.tmp 30], argTypes := #[25, 34] }, type := 4, pos := "law.go:129", after := #[{ on := 0, ground := Ground.data }, { on := 5, ground := Ground.data }], guard := none }) rfl ?_ AllReadyH.nil)
  · intro K1 hK1
    rw [if_pos (by rfl)]
    have HC1 := HHAS.out V0 hS0.out
    go_wp2_with fail
    refine HC1.mono ?_
    rintro e V1 ⟨rfl, hb1⟩
    dsimp only
    clear HC1
    have hS1 : Hid (Below A.heap.size A V1) := hS0.out.trans (hb1.mono hS0.out.size)
    clear hb1
    refine hK1.out _ _ hS1.out ?_
    clear hK1
    intro _
    try simp only [Act.put, List.setIfInBounds_toArray, List.set_cons_zero, List.set_cons_succ]
    refine wpAnyH_take (i := 7) (oi := { dst := some 32, op := Op.unOp UnOp.not 4 (Operand.tmp 31), type := 4, pos := "law.go:129", after := #[{ on := 6, ground := Ground.data }], guard := none }) (v := .bool false) rfl (by kernel_rfl) (by kernel_rfl) (by kernel_rfl) (fun _ _ _ h => h.elim) (Or.inl ⟨by rfl, ?y6⟩) hS1.out ?_
    case y6 =>
      intro V hV
      go_simp
    simp only [Act.put, List.setIfInBounds_toArray, List.set_cons_zero, List.set_cons_succ]
    refine wpAnyH_take (i := 8) (oi := { dst := some 33, op := Op.move (Operand.tmp 32), type := 4, pos := "law.go:129", after := #[{ on := 7, ground := Ground.data }, { on := 6, ground := Ground.chain }], guard := none }) (v := .bool false) rfl (by kernel_rfl) (by kernel_rfl) (by kernel_rfl) (fun _ _ _ h => h.elim) (Or.inl ⟨by rfl, ?y7⟩) hS1.out ?_
    case y7 =>
      intro V hV
      go_simp
    simp only [Act.put, List.setIfInBounds_toArray, List.set_cons_zero, List.set_cons_succ]
    refine wpAnyH_take (i := 9) (oi := { dst := some 34, op := Op.move (Operand.tmp 3), type := 25, pos := "law.go:129", after := #[{ on := 8, ground := Ground.guard }], guard := some (8, false) }) (v := .pointer (some ⟨p, 0, none⟩)) rfl (by kernel_rfl) (by kernel_rfl) (by kernel_rfl) (fun _ _ _ h => h.elim) (Or.inl ⟨by rfl, ?y8⟩) hS1.out ?_
    case y8 =>
      intro V hV
      go_simp
    simp only [Act.put, List.setIfInBounds_toArray, List.set_cons_zero, List.set_cons_succ]
    refine wpAnyH_take (i := 10) (oi := { dst := some 35, op := Op.build 34 #[], type := 34, pos := "law.go:129", after := #[{ on := 8, ground := Ground.guard }], guard := some (8, false) }) (v := .agg CT.toArray) rfl (by kernel_rfl) (by kernel_rfl) (by kernel_rfl) (fun _ _ _ h => h.elim) (Or.inl ⟨by rfl, ?y9⟩) hS1.out ?_
    case y9 =>
      intro V hV
      exact yl_built V 34 _ rfl _ (by first | rfl | (simp only [List.map_toArray, List.map_cons, List.map_nil]; done) | (simp only [List.map_toArray, List.map_cons, List.map_nil]; rfl)) CT.toArray HBT.out
    simp only [Act.put, List.setIfInBounds_toArray, List.set_cons_zero, List.set_cons_succ]
    refine wpAnyH_take (i := 11) (oi := { dst := some 36, op := Op.move (Operand.tmp 4), type := 45, pos := "law.go:129", after := #[{ on := 8, ground := Ground.guard }], guard := some (8, false) }) (v := .slice (some ⟨gb, off, none⟩) n c) rfl (by kernel_rfl) (by kernel_rfl) (by kernel_rfl) (fun _ _ _ h => h.elim) (Or.inl ⟨by rfl, ?y10⟩) hS1.out ?_
    case y10 =>
      intro V hV
      go_simp
    simp only [Act.put, List.setIfInBounds_toArray, List.set_cons_zero, List.set_cons_succ]
    refine wpAnyH_take (i := 12) (oi := { dst := some 37, op := Op.move (Operand.tmp 5), type := 3, pos := "law.go:129", after := #[{ on := 8, ground := Ground.guard }], guard := some (8, false) }) (v := iv (i : Int)) rfl (by kernel_rfl) (by kernel_rfl) (by kernel_rfl) (fun _ _ _ h => h.elim) (Or.inl ⟨by rfl, ?y11⟩) hS1.out ?_
    case y11 =>
      intro V hV
      go_simp
    simp only [Act.put, List.setIfInBounds_toArray, List.set_cons_zero, List.set_cons_succ]
    refine wpAnyH_take (i := 13) (oi := { dst := some 38, op := Op.indexAddr 45 (Operand.tmp 36) (Operand.tmp 37), type := 0, pos := "law.go:129", after := #[{ on := 11, ground := Ground.data }, { on := 12, ground := Ground.data }, { on := 8, ground := Ground.guard }], guard := some (8, false) }) (v := .pointer (some ⟨gb, off + i * 35, none⟩)) rfl (by kernel_rfl) (by kernel_rfl) (by kernel_rfl) (fun _ _ _ h => h.elim) (Or.inl ⟨by rfl, ?y12⟩) hS1.out ?_
    case y12 =>
      intro V hV
      have hcmp := q1
      have hcmp2 := q2
      go_simp
    simp only [Act.put, List.setIfInBounds_toArray, List.set_cons_zero, List.set_cons_succ]
    refine wpAnyH_take (i := 14) (oi := { dst := some 39, op := Op.fieldAddr 50 (Operand.tmp 38) 0, type := 0, pos := "law.go:129", after := #[{ on := 13, ground := Ground.data }, { on := 8, ground := Ground.guard }], guard := some (8, false) }) (v := .pointer (some ⟨gb, off + i * 35, none⟩)) rfl (by kernel_rfl) (by kernel_rfl) (by kernel_rfl) (fun _ _ _ h => h.elim) (Or.inl ⟨by rfl, ?y13⟩) hS1.out ?_
    case y13 =>
      intro V hV
      go_simp
    simp only [Act.put, List.setIfInBounds_toArray, List.set_cons_zero, List.set_cons_succ]
    refine wpAnyH_take (i := 15) (oi := { dst := some 40, op := Op.load 34 (Operand.tmp 39), type := 34, pos := "law.go:129", after := #[{ on := 14, ground := Ground.data }, { on := 8, ground := Ground.guard }], guard := some (8, false) }) (v := .agg XC.toArray) rfl (by kernel_rfl) (by kernel_rfl) (by kernel_rfl) (fun _ _ _ h => h.elim) (yieldsIf_load_mid (by rfl) _ _ rfl _ _ rfl (XC) _ (fun V hV => rangeAt_same (HR.out.1) ((show Below A.heap.size A V from hV).block _ (HL.out.1))) Try.underlying34 rfl (HR.out.2)) hS1.out ?_
    simp only [Act.put, List.setIfInBounds_toArray, List.set_cons_zero, List.set_cons_succ]
    refine wpAnyH_ready (rs := [16]) (by kernel_rfl) (by simp) (AllReadyH.cons (i := 16) (o := { dst := some 41, op := Op.call { callee := Callee.value (Operand.func 20), args := #[Operand.tmp 34, Operand.tmp 35, Operand.tmp 40], argTypes := #[25, 34, 34] }, type := 4, pos := "law.go:129", after := #[{ on := 9, ground := Ground.data }, { on := 10, ground := Ground.data }, { on := 15, ground := Ground.data }, { on := 8, ground := Ground.chain }, { on := 8, ground := Ground.guard }], guard := some (8, false) }) rfl ?_ AllReadyH.nil)
    · intro K1 hK1
      rw [if_pos (by rfl)]
      have HC2 := HTOP.out V1 hS1.out
      go_wp2_with fail
      refine HC2.mono ?_
      rintro e V2 ⟨rfl, hb2⟩
      dsimp only
      clear HC2
      have hS2 : Hid (Below A.heap.size A V2) := hS1.out.trans (hb2.mono hS1.out.size)
      clear hb2
      refine hK1.out _ _ hS2.out ?_
      clear hK1
      intro _
      try simp only [Act.put, List.setIfInBounds_toArray, List.set_cons_zero, List.set_cons_succ]
      refine wpAnyH_take (i := 17) (oi := { dst := some 42, op := Op.unOp UnOp.not 4 (Operand.tmp 41), type := 4, pos := "law.go:129", after := #[{ on := 16, ground := Ground.data }, { on := 8, ground := Ground.guard }], guard := some (8, false) }) (v := .bool false) rfl (by kernel_rfl) (by kernel_rfl) (by kernel_rfl) (fun _ _ _ h => h.elim) (Or.inl ⟨by rfl, ?y14⟩) hS2.out ?_
      case y14 =>
        intro V hV
        go_simp
      simp only [Act.put, List.setIfInBounds_toArray, List.set_cons_zero, List.set_cons_succ]
      refine wpAnyH_take (i := 18) (oi := { dst := some 43, op := Op.pick (Operand.tmp 33) (Operand.const (Value.bool true)) (Operand.tmp 42), type := 4, pos := "law.go:129", after := #[{ on := 8, ground := Ground.data }, { on := 17, ground := Ground.data }], guard := none }) (v := .bool false) rfl (by kernel_rfl) (by kernel_rfl) (by kernel_rfl) (fun _ _ _ h => h.elim) (Or.inl ⟨by rfl, ?y15⟩) hS2.out ?_
      case y15 =>
        intro V hV
        go_simp
      simp only [Act.put, List.setIfInBounds_toArray, List.set_cons_zero, List.set_cons_succ]
      refine wpAnyH_take (i := 19) (oi := { dst := some 44, op := Op.move (Operand.tmp 43), type := 4, pos := "law.go:129", after := #[{ on := 18, ground := Ground.data }, { on := 16, ground := Ground.chain }], guard := none }) (v := .bool false) rfl (by kernel_rfl) (by kernel_rfl) (by kernel_rfl) (fun _ _ _ h => h.elim) (Or.inl ⟨by rfl, ?y16⟩) hS2.out ?_
      case y16 =>
        intro V hV
        go_simp
      simp only [Act.put, List.setIfInBounds_toArray, List.set_cons_zero, List.set_cons_succ]
      refine wpAnyH_take (i := 20) (oi := { dst := some 45, op := Op.move (Operand.tmp 3), type := 25, pos := "law.go:129", after := #[{ on := 19, ground := Ground.guard }], guard := some (19, false) }) (v := .pointer (some ⟨p, 0, none⟩)) rfl (by kernel_rfl) (by kernel_rfl) (by kernel_rfl) (fun _ _ _ h => h.elim) (Or.inl ⟨by rfl, ?y17⟩) hS2.out ?_
      case y17 =>
        intro V hV
        go_simp
      simp only [Act.put, List.setIfInBounds_toArray, List.set_cons_zero, List.set_cons_succ]
      refine wpAnyH_take (i := 21) (oi := { dst := some 46, op := Op.move (Operand.tmp 4), type := 45, pos := "law.go:129", after := #[{ on := 19, ground := Ground.guard }], guard := some (19, false) }) (v := .slice (some ⟨gb, off, none⟩) n c) rfl (by kernel_rfl) (by kernel_rfl) (by kernel_rfl) (fun _ _ _ h => h.elim) (Or.inl ⟨by rfl, ?y18⟩) hS2.out ?_
      case y18 =>
        intro V hV
        go_simp
      simp only [Act.put, List.setIfInBounds_toArray, List.set_cons_zero, List.set_cons_succ]
      refine wpAnyH_take (i := 22) (oi := { dst := some 47, op := Op.move (Operand.tmp 5), type := 3, pos := "law.go:129", after := #[{ on := 19, ground := Ground.guard }], guard := some (19, false) }) (v := iv (i : Int)) rfl (by kernel_rfl) (by kernel_rfl) (by kernel_rfl) (fun _ _ _ h => h.elim) (Or.inl ⟨by rfl, ?y19⟩) hS2.out ?_
      case y19 =>
        intro V hV
        go_simp
      simp only [Act.put, List.setIfInBounds_toArray, List.set_cons_zero, List.set_cons_succ]
      refine wpAnyH_take (i := 23) (oi := { dst := some 48, op := Op.indexAddr 45 (Operand.tmp 46) (Operand.tmp 47), type := 0, pos := "law.go:129", after := #[{ on := 21, ground := Ground.data }, { on := 22, ground := Ground.data }, { on := 19, ground := Ground.guard }], guard := some (19, false) }) (v := .pointer (some ⟨gb, off + i * 35, none⟩)) rfl (by kernel_rfl) (by kernel_rfl) (by kernel_rfl) (fun _ _ _ h => h.elim) (Or.inl ⟨by rfl, ?y20⟩) hS2.out ?_
      case y20 =>
        intro V hV
        have hcmp := q1
        have hcmp2 := q2
        go_simp
      simp only [Act.put, List.setIfInBounds_toArray, List.set_cons_zero, List.set_cons_succ]
      refine wpAnyH_take (i := 24) (oi := { dst := some 49, op := Op.fieldAddr 50 (Operand.tmp 48) 0, type := 0, pos := "law.go:129", after := #[{ on := 23, ground := Ground.data }, { on := 19, ground := Ground.guard }], guard := some (19, false) }) (v := .pointer (some ⟨gb, off + i * 35, none⟩)) rfl (by kernel_rfl) (by kernel_rfl) (by kernel_rfl) (fun _ _ _ h => h.elim) (Or.inl ⟨by rfl, ?y21⟩) hS2.out ?_
      case y21 =>
        intro V hV
        go_simp
      simp only [Act.put, List.setIfInBounds_toArray, List.set_cons_zero, List.set_cons_succ]
      refine wpAnyH_take (i := 25) (oi := { dst := some 50, op := Op.load 34 (Operand.tmp 49), type := 34, pos := "law.go:129", after := #[{ on := 24, ground := Ground.data }, { on := 19, ground := Ground.guard }], guard := some (19, false) }) (v := .agg XC.toArray) rfl (by kernel_rfl) (by kernel_rfl) (by kernel_rfl) (fun _ _ _ h => h.elim) (yieldsIf_load_mid (by rfl) _ _ rfl _ _ rfl (XC) _ (fun V hV => rangeAt_same (HR.out.1) ((show Below A.heap.size A V from hV).block _ (HL.out.1))) Try.underlying34 rfl (HR.out.2)) hS2.out ?_
      simp only [Act.put, List.setIfInBounds_toArray, List.set_cons_zero, List.set_cons_succ]
      refine wpAnyH_take (i := 26) (oi := { dst := some 51, op := Op.build 34 #[(1, Operand.const (Value.int IntKind.i64 1))], type := 34, pos := "law.go:129", after := #[{ on := 19, ground := Ground.guard }], guard := some (19, false) }) (v := .agg CB.toArray) rfl (by kernel_rfl) (by kernel_rfl) (by kernel_rfl) (fun _ _ _ h => h.elim) (Or.inl ⟨by rfl, ?y22⟩) hS2.out ?_
      case y22 =>
        intro V hV
        exact yl_built V 34 _ rfl _ (by first | rfl | (simp only [List.map_toArray, List.map_cons, List.map_nil]; done) | (simp only [List.map_toArray, List.map_cons, List.map_nil]; rfl)) CB.toArray HBB.out
      simp only [Act.put, List.setIfInBounds_toArray, List.set_cons_zero, List.set_cons_succ]
      refine wpAnyH_ready (rs := [27]) (by kernel_rfl) (by simp) (AllReadyH.cons (i := 27) (o := { dst := some 52, op := Op.call { callee := Callee.value (Operand.func 20), args := #[Operand.tmp 45, Operand.tmp 50, Operand.tmp 51], argTypes := #[25, 34, 34] }, type := 4, pos := "law.go:129", after := #[{ on := 20, ground := Ground.data }, { on := 25, ground := Ground.data }, { on := 26, ground := Ground.data }, { on := 19, ground := Ground.chain }, { on := 19, ground := Ground.guard }], guard := some (19, false) }) rfl ?_ AllReadyH.nil)
      · intro K1 hK1
        rw [if_pos (by rfl)]
        have HC3 := HBOT.out V2 hS2.out
        go_wp2_with fail
        refine HC3.mono ?_
        rintro e V3 ⟨rfl, hb3⟩
        dsimp only
        clear HC3
        have hS3 : Hid (Below A.heap.size A V3) := hS2.out.trans (hb3.mono hS2.out.size)
        clear hb3
        refine hK1.out _ _ hS3.out ?_
        clear hK1
        intro _
        try simp only [Act.put, List.setIfInBounds_toArray, List.set_cons_zero, List.set_cons_succ]
        refine wpAnyH_take (i := 28) (oi := { dst := some 53, op := Op.unOp UnOp.not 4 (Operand.tmp 52), type := 4, pos := "law.go:129", after := #[{ on := 27, ground := Ground.data }, { on := 19, ground := Ground.guard }], guard := some (19, false) }) (v := .bool false) rfl (by kernel_rfl) (by kernel_rfl) (by kernel_rfl) (fun _ _ _ h => h.elim) (Or.inl ⟨by rfl, ?y23⟩) hS3.out ?_
        case y23 =>
          intro V hV
          go_simp
        simp only [Act.put, List.setIfInBounds_toArray, List.set_cons_zero, List.set_cons_succ]
        refine wpAnyH_take (i := 29) (oi := { dst := some 54, op := Op.pick (Operand.tmp 44) (Operand.const (Value.bool true)) (Operand.tmp 53), type := 4, pos := "law.go:129", after := #[{ on := 19, ground := Ground.data }, { on := 28, ground := Ground.data }], guard := none }) (v := .bool false) rfl (by kernel_rfl) (by kernel_rfl) (by kernel_rfl) (fun _ _ _ h => h.elim) (Or.inl ⟨by rfl, ?y24⟩) hS3.out ?_
        case y24 =>
          intro V hV
          go_simp
        simp only [Act.put, List.setIfInBounds_toArray, List.set_cons_zero, List.set_cons_succ]
        refine wpAnyH_take (i := 30) (oi := { dst := some 55, op := Op.move (Operand.tmp 54), type := 4, pos := "law.go:129", after := #[{ on := 29, ground := Ground.data }, { on := 27, ground := Ground.chain }], guard := none }) (v := .bool false) rfl (by kernel_rfl) (by kernel_rfl) (by kernel_rfl) (fun _ _ _ h => h.elim) (Or.inl ⟨by rfl, ?y25⟩) hS3.out ?_
        case y25 =>
          intro V hV
          go_simp
        simp only [Act.put, List.setIfInBounds_toArray, List.set_cons_zero, List.set_cons_succ]
        refine wpAnyH_take (i := 31) (oi := { dst := some 56, op := Op.move (Operand.tmp 3), type := 25, pos := "law.go:129", after := #[{ on := 30, ground := Ground.guard }], guard := some (30, false) }) (v := .pointer (some ⟨p, 0, none⟩)) rfl (by kernel_rfl) (by kernel_rfl) (by kernel_rfl) (fun _ _ _ h => h.elim) (Or.inl ⟨by rfl, ?y26⟩) hS3.out ?_
        case y26 =>
          intro V hV
          go_simp
        simp only [Act.put, List.setIfInBounds_toArray, List.set_cons_zero, List.set_cons_succ]
        refine wpAnyH_take (i := 32) (oi := { dst := some 57, op := Op.move (Operand.tmp 4), type := 45, pos := "law.go:129", after := #[{ on := 30, ground := Ground.guard }], guard := some (30, false) }) (v := .slice (some ⟨gb, off, none⟩) n c) rfl (by kernel_rfl) (by kernel_rfl) (by kernel_rfl) (fun _ _ _ h => h.elim) (Or.inl ⟨by rfl, ?y27⟩) hS3.out ?_
        case y27 =>
          intro V hV
          go_simp
        simp only [Act.put, List.setIfInBounds_toArray, List.set_cons_zero, List.set_cons_succ]
        refine wpAnyH_take (i := 33) (oi := { dst := some 58, op := Op.move (Operand.tmp 5), type := 3, pos := "law.go:129", after := #[{ on := 30, ground := Ground.guard }], guard := some (30, false) }) (v := iv (i : Int)) rfl (by kernel_rfl) (by kernel_rfl) (by kernel_rfl) (fun _ _ _ h => h.elim) (Or.inl ⟨by rfl, ?y28⟩) hS3.out ?_
        case y28 =>
          intro V hV
          go_simp
        simp only [Act.put, List.setIfInBounds_toArray, List.set_cons_zero, List.set_cons_succ]
        refine wpAnyH_take (i := 34) (oi := { dst := some 59, op := Op.indexAddr 45 (Operand.tmp 57) (Operand.tmp 58), type := 0, pos := "law.go:129", after := #[{ on := 32, ground := Ground.data }, { on := 33, ground := Ground.data }, { on := 30, ground := Ground.guard }], guard := some (30, false) }) (v := .pointer (some ⟨gb, off + i * 35, none⟩)) rfl (by kernel_rfl) (by kernel_rfl) (by kernel_rfl) (fun _ _ _ h => h.elim) (Or.inl ⟨by rfl, ?y29⟩) hS3.out ?_
        case y29 =>
          intro V hV
          have hcmp := q1
          have hcmp2 := q2
          go_simp
        simp only [Act.put, List.setIfInBounds_toArray, List.set_cons_zero, List.set_cons_succ]
        refine wpAnyH_take (i := 35) (oi := { dst := some 60, op := Op.fieldAddr 50 (Operand.tmp 59) 0, type := 0, pos := "law.go:129", after := #[{ on := 34, ground := Ground.data }, { on := 30, ground := Ground.guard }], guard := some (30, false) }) (v := .pointer (some ⟨gb, off + i * 35, none⟩)) rfl (by kernel_rfl) (by kernel_rfl) (by kernel_rfl) (fun _ _ _ h => h.elim) (Or.inl ⟨by rfl, ?y30⟩) hS3.out ?_
        case y30 =>
          intro V hV
          go_simp
        simp only [Act.put, List.setIfInBounds_toArray, List.set_cons_zero, List.set_cons_succ]
        refine wpAnyH_take (i := 36) (oi := { dst := some 61, op := Op.load 34 (Operand.tmp 60), type := 34, pos := "law.go:129", after := #[{ on := 35, ground := Ground.data }, { on := 30, ground := Ground.guard }], guard := some (30, false) }) (v := .agg XC.toArray) rfl (by kernel_rfl) (by kernel_rfl) (by kernel_rfl) (fun _ _ _ h => h.elim) (yieldsIf_load_mid (by rfl) _ _ rfl _ _ rfl (XC) _ (fun V hV => rangeAt_same (HR.out.1) ((show Below A.heap.size A V from hV).block _ (HL.out.1))) Try.underlying34 rfl (HR.out.2)) hS3.out ?_
        simp only [Act.put, List.setIfInBounds_toArray, List.set_cons_zero, List.set_cons_succ]
        refine wpAnyH_take (i := 37) (oi := { dst := some 62, op := Op.move (Operand.tmp 4), type := 45, pos := "law.go:129", after := #[{ on := 30, ground := Ground.guard }], guard := some (30, false) }) (v := .slice (some ⟨gb, off, none⟩) n c) rfl (by kernel_rfl) (by kernel_rfl) (by kernel_rfl) (fun _ _ _ h => h.elim) (Or.inl ⟨by rfl, ?y31⟩) hS3.out ?_
        case y31 =>
          intro V hV
          go_simp
        simp only [Act.put, List.setIfInBounds_toArray, List.set_cons_zero, List.set_cons_succ]
        refine wpAnyH_take (i := 38) (oi := { dst := some 63, op := Op.move (Operand.tmp 5), type := 3, pos := "law.go:129", after := #[{ on := 30, ground := Ground.guard }], guard := some (30, false) }) (v := iv (i : Int)) rfl (by kernel_rfl) (by kernel_rfl) (by kernel_rfl) (fun _ _ _ h => h.elim) (Or.inl ⟨by rfl, ?y32⟩) hS3.out ?_
        case y32 =>
          intro V hV
          go_simp
        simp only [Act.put, List.setIfInBounds_toArray, List.set_cons_zero, List.set_cons_succ]
        refine wpAnyH_take (i := 39) (oi := { dst := some 64, op := Op.indexAddr 45 (Operand.tmp 62) (Operand.tmp 63), type := 0, pos := "law.go:129", after := #[{ on := 37, ground := Ground.data }, { on := 38, ground := Ground.data }, { on := 30, ground := Ground.guard }], guard := some (30, false) }) (v := .pointer (some ⟨gb, off + i * 35, none⟩)) rfl (by kernel_rfl) (by kernel_rfl) (by kernel_rfl) (fun _ _ _ h => h.elim) (Or.inl ⟨by rfl, ?y33⟩) hS3.out ?_
        case y33 =>
          intro V hV
          have hcmp := q1
          have hcmp2 := q2
          go_simp
        simp only [Act.put, List.setIfInBounds_toArray, List.set_cons_zero, List.set_cons_succ]
        refine wpAnyH_take (i := 40) (oi := { dst := some 65, op := Op.fieldAddr 50 (Operand.tmp 64) 0, type := 0, pos := "law.go:129", after := #[{ on := 39, ground := Ground.data }, { on := 30, ground := Ground.guard }], guard := some (30, false) }) (v := .pointer (some ⟨gb, off + i * 35, none⟩)) rfl (by kernel_rfl) (by kernel_rfl) (by kernel_rfl) (fun _ _ _ h => h.elim) (Or.inl ⟨by rfl, ?y34⟩) hS3.out ?_
        case y34 =>
          intro V hV
          go_simp
        simp only [Act.put, List.setIfInBounds_toArray, List.set_cons_zero, List.set_cons_succ]
        refine wpAnyH_take (i := 41) (oi := { dst := some 66, op := Op.load 34 (Operand.tmp 65), type := 34, pos := "law.go:129", after := #[{ on := 40, ground := Ground.data }, { on := 30, ground := Ground.guard }], guard := some (30, false) }) (v := .agg XC.toArray) rfl (by kernel_rfl) (by kernel_rfl) (by kernel_rfl) (fun _ _ _ h => h.elim) (yieldsIf_load_mid (by rfl) _ _ rfl _ _ rfl (XC) _ (fun V hV => rangeAt_same (HR.out.1) ((show Below A.heap.size A V from hV).block _ (HL.out.1))) Try.underlying34 rfl (HR.out.2)) hS3.out ?_
        simp only [Act.put, List.setIfInBounds_toArray, List.set_cons_zero, List.set_cons_succ]
        refine wpAnyH_ready (rs := [42]) (by kernel_rfl) (by simp) (AllReadyH.cons (i := 42) (o := { dst := some 67, op := Op.call { callee := Callee.value (Operand.func 20), args := #[Operand.tmp 56, Operand.tmp 61, Operand.tmp 66], argTypes := #[25, 34, 34] }, type := 4, pos := "law.go:129", after := #[{ on := 31, ground := Ground.data }, { on := 36, ground := Ground.data }, { on := 41, ground := Ground.data }, { on := 30, ground := Ground.chain }, { on := 30, ground := Ground.guard }], guard := some (30, false) }) rfl ?_ AllReadyH.nil)
        · intro K1 hK1
          rw [if_pos (by rfl)]
          have HC4 := HSELF.out V3 hS3.out
          go_wp2_with fail
          refine HC4.mono ?_
          rintro e V4 ⟨rfl, hb4⟩
          dsimp only
          clear HC4
          have hS4 : Hid (Below A.heap.size A V4) := hS3.out.trans (hb4.mono hS3.out.size)
          clear hb4
          refine hK1.out _ _ hS4.out ?_
          clear hK1
          intro _
          try simp only [Act.put, List.setIfInBounds_toArray, List.set_cons_zero, List.set_cons_succ]
          refine wpAnyH_take (i := 43) (oi := { dst := some 68, op := Op.pick (Operand.tmp 55) (Operand.const (Value.bool true)) (Operand.tmp 67), type := 4, pos := "law.go:129", after := #[{ on := 30, ground := Ground.data }, { on := 42, ground := Ground.data }], guard := none }) (v := .bool false) rfl (by kernel_rfl) (by kernel_rfl) (by kernel_rfl) (fun _ _ _ h => h.elim) (Or.inl ⟨by rfl, ?y35⟩) hS4.out ?_
          case y35 =>
            intro V hV
            go_simp
          simp only [Act.put, List.setIfInBounds_toArray, List.set_cons_zero, List.set_cons_succ]
          refine wpAnyH_done (by kernel_rfl) ?_ _
          exact hQ V4 hS4.out
set_option maxRecDepth 100000 in
set_option maxHeartbeats 4000000 in
theorem or15 {Q : Exit → Act → World → Prop} {x0 x1 x2 x7 x8 x9 x10 x11 x12 x13 x14 x15 x16 x17 x18 x19 x20 x21 x22 x23 x24 x25 x26 x27 x28 x29 x30 x31 x32 x33 x34 x35 x36 x37 x38 x39 x40 x41 x42 x43 x44 x45 x46 x47 x48 x49 x50 x51 x52 x53 x54 x55 x56 x57 x58 x59 x60 x61 x62 x63 x64 x65 x66 x67 x68 x69 x70 x71 x72 x73 x74 x75 x76 x77 x78 x79 x80 x81 x82 x83 x84 x85 x86 x87 x88 x89 x90 x91 x92 x93 x94 x95 x96 x97 x98 x99 x100 x101 x102 x103 x104 x105 x106 x107 : Value} {ds : List Deferred} {A : World} {p gb off n c i j : Nat} {XC YC : List Value} {x y : Vx}
    (HL : Hid (gb < A.heap.size ∧ True)) (HR : Hid (A.rangeAt gb (off + i * 35) XC ∧ (Try.prog.info? 34).map (·.size) = some XC.length)) (HR2 : Hid (A.rangeAt gb (off + j * 35) YC ∧ (Try.prog.info? 34).map (·.size) = some YC.length)) (q1 : (i : Int) < (n : Int)) (q2 : i < n) (q3 : (j : Int) < (n : Int)) (q4 : j < n) (HXY : Hid (y.ok ∧ x.ok ∧ y.cells = YC ∧ x.cells = XC ∧ eqVx y x = false)) (HAHD : Hid (∀ V, Below A.heap.size A V → Calls Try.prog 20 #[.pointer (some ⟨p, 0, none⟩), .agg XC.toArray, .agg YC.toArray] V fun e w' => e = .returned (.bool false) ∧ Below V.heap.size V w'))
    (hQ : ∀ V1, Below A.heap.size A V1 → Q .normal { tmps := #[x0, x1, x2, .pointer (some ⟨p, 0, none⟩), .slice (some ⟨gb, off, none⟩) n c, iv (i : Int), iv (j : Int), x7, x8, x9, x10, x11, x12, x13, x14, x15, x16, x17, x18, x19, x20, x21, x22, x23, x24, x25, x26, x27, x28, x29, x30, x31, x32, x33, x34, x35, x36, x37, x38, x39, x40, x41, x42, x43, x44, x45, x46, x47, x48, x49, x50, x51, x52, x53, x54, x55, x56, x57, x58, x59, x60, x61, x62, x63, x64, x65, x66, x67, x68, x69, x70, x71, x72, .slice (some ⟨gb, off, none⟩) n c, iv (j : Int), .pointer (some ⟨gb, off + j * 35, none⟩), .pointer (some ⟨gb, off + j * 35, none⟩), .agg YC.toArray, .slice (some ⟨gb, off, none⟩) n c, iv (i : Int), .pointer (some ⟨gb, off + i * 35, none⟩), .pointer (some ⟨gb, off + i * 35, none⟩), .agg XC.toArray, .bool false, .bool false, .pointer (some ⟨p, 0, none⟩), .slice (some ⟨gb, off, none⟩) n c, iv (i : Int), .pointer (some ⟨gb, off + i * 35, none⟩), .pointer (some ⟨gb, off + i * 35, none⟩), .agg XC.toArray, .slice (some ⟨gb, off, none⟩) n c, iv (j : Int), .pointer (some ⟨gb, off + j * 35, none⟩), .pointer (some ⟨gb, off + j * 35, none⟩), .agg YC.toArray, .bool false, .bool false, x98, x99, x100, x101, x102, x103, x104, x105, x106, x107], defers := ds } V1) :
    (Code.region 15 #[{ dst := some 73, op := Op.move (Operand.tmp 4), type := 45, pos := "law.go:133", after := #[], guard := none }, { dst := some 74, op := Op.move (Operand.tmp 6), type := 3, pos := "law.go:133", after := #[], guard := none }, { dst := some 75, op := Op.indexAddr 45 (Operand.tmp 73) (Operand.tmp 74), type := 0, pos := "law.go:133", after := #[{ on := 0, ground := Ground.data }, { on := 1, ground := Ground.data }], guard := none }, { dst := some 76, op := Op.fieldAddr 50 (Operand.tmp 75) 0, type := 0, pos := "law.go:133", after := #[{ on := 2, ground := Ground.data }], guard := none }, { dst := some 77, op := Op.load 34 (Operand.tmp 76), type := 34, pos := "law.go:133", after := #[{ on := 3, ground := Ground.data }], guard := none }, { dst := some 78, op := Op.move (Operand.tmp 4), type := 45, pos := "law.go:133", after := #[], guard := none }, { dst := some 79, op := Op.move (Operand.tmp 5), type := 3, pos := "law.go:133", after := #[], guard := none }, { dst := some 80, op := Op.indexAddr 45 (Operand.tmp 78) (Operand.tmp 79), type := 0, pos := "law.go:133", after := #[{ on := 5, ground := Ground.data }, { on := 6, ground := Ground.data }], guard := none }, { dst := some 81, op := Op.fieldAddr 50 (Operand.tmp 80) 0, type := 0, pos := "law.go:133", after := #[{ on := 7, ground := Ground.data }], guard := none }, { dst := some 82, op := Op.load 34 (Operand.tmp 81), type := 34, pos := "law.go:133", after := #[{ on := 8, ground := Ground.data }], guard := none }, { dst := some 83, op := Op.binOp BinOp.eql 34 (Operand.tmp 77) (Operand.tmp 82) 34, type := 4, pos := "law.go:133", after := #[{ on := 4, ground := Ground.data }, { on := 9, ground := Ground.data }], guard := none }, { dst := some 84, op := Op.move (Operand.tmp 83), type := 4, pos := "law.go:133", after := #[{ on := 10, ground := Ground.data }], guard := none }, { dst := some 85, op := Op.move (Operand.tmp 3), type := 25, pos := "law.go:133", after := #[{ on := 11, ground := Ground.guard }], guard := some (11, false) }, { dst := some 86, op := Op.move (Operand.tmp 4), type := 45, pos := "law.go:133", after := #[{ on := 11, ground := Ground.guard }], guard := some (11, false) }, { dst := some 87, op := Op.move (Operand.tmp 5), type := 3, pos := "law.go:133", after := #[{ on := 11, ground := Ground.guard }], guard := some (11, false) }, { dst := some 88, op := Op.indexAddr 45 (Operand.tmp 86) (Operand.tmp 87), type := 0, pos := "law.go:133", after := #[{ on := 13, ground := Ground.data }, { on := 14, ground := Ground.data }, { on := 11, ground := Ground.guard }], guard := some (11, false) }, { dst := some 89, op := Op.fieldAddr 50 (Operand.tmp 88) 0, type := 0, pos := "law.go:133", after := #[{ on := 15, ground := Ground.data }, { on := 11, ground := Ground.guard }], guard := some (11, false) }, { dst := some 90, op := Op.load 34 (Operand.tmp 89), type := 34, pos := "law.go:133", after := #[{ on := 16, ground := Ground.data }, { on := 11, ground := Ground.guard }], guard := some (11, false) }, { dst := some 91, op := Op.move (Operand.tmp 4), type := 45, pos := "law.go:133", after := #[{ on := 11, ground := Ground.guard }], guard := some (11, false) }, { dst := some 92, op := Op.move (Operand.tmp 6), type := 3, pos := "law.go:133", after := #[{ on := 11, ground := Ground.guard }], guard := some (11, false) }, { dst := some 93, op := Op.indexAddr 45 (Operand.tmp 91) (Operand.tmp 92), type := 0, pos := "law.go:133", after := #[{ on := 18, ground := Ground.data }, { on := 19, ground := Ground.data }, { on := 11, ground := Ground.guard }], guard := some (11, false) }, { dst := some 94, op := Op.fieldAddr 50 (Operand.tmp 93) 0, type := 0, pos := "law.go:133", after := #[{ on := 20, ground := Ground.data }, { on := 11, ground := Ground.guard }], guard := some (11, false) }, { dst := some 95, op := Op.load 34 (Operand.tmp 94), type := 34, pos := "law.go:133", after := #[{ on := 21, ground := Ground.data }, { on := 11, ground := Ground.guard }], guard := some (11, false) }, { dst := some 96, op := Op.call { callee := Callee.value (Operand.func 20), args := #[Operand.tmp 85, Operand.tmp 90, Operand.tmp 95], argTypes := #[25, 34, 34] }, type := 4, pos := "law.go:133", after := #[{ on := 12, ground := Ground.data }, { on := 17, ground := Ground.data }, { on := 22, ground := Ground.data }, { on := 11, ground := Ground.chain }, { on := 11, ground := Ground.guard }], guard := some (11, false) }, { dst := some 97, op := Op.pick (Operand.tmp 84) (Operand.const (Value.bool true)) (Operand.tmp 96), type := 4, pos := "law.go:133", after := #[{ on := 11, ground := Ground.data }, { on := 23, ground := Ground.data }], guard := none }] true).wp Try.prog Q { tmps := #[x0, x1, x2, .pointer (some ⟨p, 0, none⟩), .slice (some ⟨gb, off, none⟩) n c, iv (i : Int), iv (j : Int), x7, x8, x9, x10, x11, x12, x13, x14, x15, x16, x17, x18, x19, x20, x21, x22, x23, x24, x25, x26, x27, x28, x29, x30, x31, x32, x33, x34, x35, x36, x37, x38, x39, x40, x41, x42, x43, x44, x45, x46, x47, x48, x49, x50, x51, x52, x53, x54, x55, x56, x57, x58, x59, x60, x61, x62, x63, x64, x65, x66, x67, x68, x69, x70, x71, x72, x73, x74, x75, x76, x77, x78, x79, x80, x81, x82, x83, x84, x85, x86, x87, x88, x89, x90, x91, x92, x93, x94, x95, x96, x97, x98, x99, x100, x101, x102, x103, x104, x105, x106, x107], defers := ds } A := by
  refine Code.wp_mono (Q := fun x a' w' => match x with | .normal => Q .normal a' w' | _ => False) (by intro x a' w' h; cases x <;> first | exact h | exact h.elim) ?_
  refine wp_region_held (S := fun V => Below A.heap.size A V) (by kernel_rfl) ?_
  have hS0 : Hid (Below A.heap.size A A.drew) := below_drew0 A
  change wpAnyH Try.prog .any _ _ (fun V => Below A.heap.size A V) 25 (Array.replicate 25 false) _ A.drew
  obtain ⟨V0, hV0⟩ : ∃ V0, A.drew = V0 := ⟨_, rfl⟩
  rw [hV0]
  rw [hV0] at hS0
  clear hV0
  refine wpAnyH_take (i := 0) (oi := { dst := some 73, op := Op.move (Operand.tmp 4), type := 45, pos := "law.go:133", after := #[], guard := none }) (v := .slice (some ⟨gb, off, none⟩) n c) rfl (by kernel_rfl) (by kernel_rfl) (by kernel_rfl) (fun _ _ _ h => h.elim) (Or.inl ⟨by rfl, ?y1⟩) hS0.out ?_
  case y1 =>
    intro V hV
    go_simp
  simp only [Act.put, List.setIfInBounds_toArray, List.set_cons_zero, List.set_cons_succ]
  refine wpAnyH_take (i := 1) (oi := { dst := some 74, op := Op.move (Operand.tmp 6), type := 3, pos := "law.go:133", after := #[], guard := none }) (v := iv (j : Int)) rfl (by kernel_rfl) (by kernel_rfl) (by kernel_rfl) (fun _ _ _ h => h.elim) (Or.inl ⟨by rfl, ?y2⟩) hS0.out ?_
  case y2 =>
    intro V hV
    go_simp
  simp only [Act.put, List.setIfInBounds_toArray, List.set_cons_zero, List.set_cons_succ]
  refine wpAnyH_take (i := 2) (oi := { dst := some 75, op := Op.indexAddr 45 (Operand.tmp 73) (Operand.tmp 74), type := 0, pos := "law.go:133", after := #[{ on := 0, ground := Ground.data }, { on := 1, ground := Ground.data }], guard := none }) (v := .pointer (some ⟨gb, off + j * 35, none⟩)) rfl (by kernel_rfl) (by kernel_rfl) (by kernel_rfl) (fun _ _ _ h => h.elim) (Or.inl ⟨by rfl, ?y3⟩) hS0.out ?_
  case y3 =>
    intro V hV
    have hcmp := q3
    have hcmp2 := q4
    go_simp
  simp only [Act.put, List.setIfInBounds_toArray, List.set_cons_zero, List.set_cons_succ]
  refine wpAnyH_take (i := 3) (oi := { dst := some 76, op := Op.fieldAddr 50 (Operand.tmp 75) 0, type := 0, pos := "law.go:133", after := #[{ on := 2, ground := Ground.data }], guard := none }) (v := .pointer (some ⟨gb, off + j * 35, none⟩)) rfl (by kernel_rfl) (by kernel_rfl) (by kernel_rfl) (fun _ _ _ h => h.elim) (Or.inl ⟨by rfl, ?y4⟩) hS0.out ?_
  case y4 =>
    intro V hV
    go_simp
  simp only [Act.put, List.setIfInBounds_toArray, List.set_cons_zero, List.set_cons_succ]
  refine wpAnyH_take (i := 4) (oi := { dst := some 77, op := Op.load 34 (Operand.tmp 76), type := 34, pos := "law.go:133", after := #[{ on := 3, ground := Ground.data }], guard := none }) (v := .agg YC.toArray) rfl (by kernel_rfl) (by kernel_rfl) (by kernel_rfl) (fun _ _ _ h => h.elim) (yieldsIf_load_mid (by rfl) _ _ rfl _ _ rfl (YC) _ (fun V hV => rangeAt_same (HR2.out.1) ((show Below A.heap.size A V from hV).block _ (HL.out.1))) Try.underlying34 rfl (HR2.out.2)) hS0.out ?_
  simp only [Act.put, List.setIfInBounds_toArray, List.set_cons_zero, List.set_cons_succ]
  refine wpAnyH_take (i := 5) (oi := { dst := some 78, op := Op.move (Operand.tmp 4), type := 45, pos := "law.go:133", after := #[], guard := none }) (v := .slice (some ⟨gb, off, none⟩) n c) rfl (by kernel_rfl) (by kernel_rfl) (by kernel_rfl) (fun _ _ _ h => h.elim) (Or.inl ⟨by rfl, ?y5⟩) hS0.out ?_
  case y5 =>
    intro V hV
    go_simp
  simp only [Act.put, List.setIfInBounds_toArray, List.set_cons_zero, List.set_cons_succ]
  refine wpAnyH_take (i := 6) (oi := { dst := some 79, op := Op.move (Operand.tmp 5), type := 3, pos := "law.go:133", after := #[], guard := none }) (v := iv (i : Int)) rfl (by kernel_rfl) (by kernel_rfl) (by kernel_rfl) (fun _ _ _ h => h.elim) (Or.inl ⟨by rfl, ?y6⟩) hS0.out ?_
  case y6 =>
    intro V hV
    go_simp
  simp only [Act.put, List.setIfInBounds_toArray, List.set_cons_zero, List.set_cons_succ]
  refine wpAnyH_take (i := 7) (oi := { dst := some 80, op := Op.indexAddr 45 (Operand.tmp 78) (Operand.tmp 79), type := 0, pos := "law.go:133", after := #[{ on := 5, ground := Ground.data }, { on := 6, ground := Ground.data }], guard := none }) (v := .pointer (some ⟨gb, off + i * 35, none⟩)) rfl (by kernel_rfl) (by kernel_rfl) (by kernel_rfl) (fun _ _ _ h => h.elim) (Or.inl ⟨by rfl, ?y7⟩) hS0.out ?_
  case y7 =>
    intro V hV
    have hcmp := q1
    have hcmp2 := q2
    go_simp
  simp only [Act.put, List.setIfInBounds_toArray, List.set_cons_zero, List.set_cons_succ]
  refine wpAnyH_take (i := 8) (oi := { dst := some 81, op := Op.fieldAddr 50 (Operand.tmp 80) 0, type := 0, pos := "law.go:133", after := #[{ on := 7, ground := Ground.data }], guard := none }) (v := .pointer (some ⟨gb, off + i * 35, none⟩)) rfl (by kernel_rfl) (by kernel_rfl) (by kernel_rfl) (fun _ _ _ h => h.elim) (Or.inl ⟨by rfl, ?y8⟩) hS0.out ?_
  case y8 =>
    intro V hV
    go_simp
  simp only [Act.put, List.setIfInBounds_toArray, List.set_cons_zero, List.set_cons_succ]
  refine wpAnyH_take (i := 9) (oi := { dst := some 82, op := Op.load 34 (Operand.tmp 81), type := 34, pos := "law.go:133", after := #[{ on := 8, ground := Ground.data }], guard := none }) (v := .agg XC.toArray) rfl (by kernel_rfl) (by kernel_rfl) (by kernel_rfl) (fun _ _ _ h => h.elim) (yieldsIf_load_mid (by rfl) _ _ rfl _ _ rfl (XC) _ (fun V hV => rangeAt_same (HR.out.1) ((show Below A.heap.size A V from hV).block _ (HL.out.1))) Try.underlying34 rfl (HR.out.2)) hS0.out ?_
  simp only [Act.put, List.setIfInBounds_toArray, List.set_cons_zero, List.set_cons_succ]
  refine wpAnyH_take (i := 10) (oi := { dst := some 83, op := Op.binOp BinOp.eql 34 (Operand.tmp 77) (Operand.tmp 82) 34, type := 4, pos := "law.go:133", after := #[{ on := 4, ground := Ground.data }, { on := 9, ground := Ground.data }], guard := none }) (v := .bool false) rfl (by kernel_rfl) (by kernel_rfl) (by kernel_rfl) (fun _ _ _ h => h.elim) (Or.inl ⟨by rfl, ?y9⟩) hS0.out ?_
  case y9 =>
    intro V hV
    exact yl_eqV V _ _ y x HXY.out.1 HXY.out.2.1 false HXY.out.2.2.2.2 rfl (by rw [HXY.out.2.2.1]; rfl) (by rw [HXY.out.2.2.2.1]; rfl)
  simp only [Act.put, List.setIfInBounds_toArray, List.set_cons_zero, List.set_cons_succ]
  refine wpAnyH_take (i := 11) (oi := { dst := some 84, op := Op.move (Operand.tmp 83), type := 4, pos := "law.go:133", after := #[{ on := 10, ground := Ground.data }], guard := none }) (v := .bool false) rfl (by kernel_rfl) (by kernel_rfl) (by kernel_rfl) (fun _ _ _ h => h.elim) (Or.inl ⟨by rfl, ?y10⟩) hS0.out ?_
  case y10 =>
    intro V hV
    go_simp
  simp only [Act.put, List.setIfInBounds_toArray, List.set_cons_zero, List.set_cons_succ]
  refine wpAnyH_take (i := 12) (oi := { dst := some 85, op := Op.move (Operand.tmp 3), type := 25, pos := "law.go:133", after := #[{ on := 11, ground := Ground.guard }], guard := some (11, false) }) (v := .pointer (some ⟨p, 0, none⟩)) rfl (by kernel_rfl) (by kernel_rfl) (by kernel_rfl) (fun _ _ _ h => h.elim) (Or.inl ⟨by rfl, ?y11⟩) hS0.out ?_
  case y11 =>
    intro V hV
    go_simp
  simp only [Act.put, List.setIfInBounds_toArray, List.set_cons_zero, List.set_cons_succ]
  refine wpAnyH_take (i := 13) (oi := { dst := some 86, op := Op.move (Operand.tmp 4), type := 45, pos := "law.go:133", after := #[{ on := 11, ground := Ground.guard }], guard := some (11, false) }) (v := .slice (some ⟨gb, off, none⟩) n c) rfl (by kernel_rfl) (by kernel_rfl) (by kernel_rfl) (fun _ _ _ h => h.elim) (Or.inl ⟨by rfl, ?y12⟩) hS0.out ?_
  case y12 =>
    intro V hV
    go_simp
  simp only [Act.put, List.setIfInBounds_toArray, List.set_cons_zero, List.set_cons_succ]
  refine wpAnyH_take (i := 14) (oi := { dst := some 87, op := Op.move (Operand.tmp 5), type := 3, pos := "law.go:133", after := #[{ on := 11, ground := Ground.guard }], guard := some (11, false) }) (v := iv (i : Int)) rfl (by kernel_rfl) (by kernel_rfl) (by kernel_rfl) (fun _ _ _ h => h.elim) (Or.inl ⟨by rfl, ?y13⟩) hS0.out ?_
  case y13 =>
    intro V hV
    go_simp
  simp only [Act.put, List.setIfInBounds_toArray, List.set_cons_zero, List.set_cons_succ]
  refine wpAnyH_take (i := 15) (oi := { dst := some 88, op := Op.indexAddr 45 (Operand.tmp 86) (Operand.tmp 87), type := 0, pos := "law.go:133", after := #[{ on := 13, ground := Ground.data }, { on := 14, ground := Ground.data }, { on := 11, ground := Ground.guard }], guard := some (11, false) }) (v := .pointer (some ⟨gb, off + i * 35, none⟩)) rfl (by kernel_rfl) (by kernel_rfl) (by kernel_rfl) (fun _ _ _ h => h.elim) (Or.inl ⟨by rfl, ?y14⟩) hS0.out ?_
  case y14 =>
    intro V hV
    have hcmp := q1
    have hcmp2 := q2
    go_simp
  simp only [Act.put, List.setIfInBounds_toArray, List.set_cons_zero, List.set_cons_succ]
  refine wpAnyH_take (i := 16) (oi := { dst := some 89, op := Op.fieldAddr 50 (Operand.tmp 88) 0, type := 0, pos := "law.go:133", after := #[{ on := 15, ground := Ground.data }, { on := 11, ground := Ground.guard }], guard := some (11, false) }) (v := .pointer (some ⟨gb, off + i * 35, none⟩)) rfl (by kernel_rfl) (by kernel_rfl) (by kernel_rfl) (fun _ _ _ h => h.elim) (Or.inl ⟨by rfl, ?y15⟩) hS0.out ?_
  case y15 =>
    intro V hV
    go_simp
  simp only [Act.put, List.setIfInBounds_toArray, List.set_cons_zero, List.set_cons_succ]
  refine wpAnyH_take (i := 17) (oi := { dst := some 90, op := Op.load 34 (Operand.tmp 89), type := 34, pos := "law.go:133", after := #[{ on := 16, ground := Ground.data }, { on := 11, ground := Ground.guard }], guard := some (11, false) }) (v := .agg XC.toArray) rfl (by kernel_rfl) (by kernel_rfl) (by kernel_rfl) (fun _ _ _ h => h.elim) (yieldsIf_load_mid (by rfl) _ _ rfl _ _ rfl (XC) _ (fun V hV => rangeAt_same (HR.out.1) ((show Below A.heap.size A V from hV).block _ (HL.out.1))) Try.underlying34 rfl (HR.out.2)) hS0.out ?_
  simp only [Act.put, List.setIfInBounds_toArray, List.set_cons_zero, List.set_cons_succ]
  refine wpAnyH_take (i := 18) (oi := { dst := some 91, op := Op.move (Operand.tmp 4), type := 45, pos := "law.go:133", after := #[{ on := 11, ground := Ground.guard }], guard := some (11, false) }) (v := .slice (some ⟨gb, off, none⟩) n c) rfl (by kernel_rfl) (by kernel_rfl) (by kernel_rfl) (fun _ _ _ h => h.elim) (Or.inl ⟨by rfl, ?y16⟩) hS0.out ?_
  case y16 =>
    intro V hV
    go_simp
  simp only [Act.put, List.setIfInBounds_toArray, List.set_cons_zero, List.set_cons_succ]
  refine wpAnyH_take (i := 19) (oi := { dst := some 92, op := Op.move (Operand.tmp 6), type := 3, pos := "law.go:133", after := #[{ on := 11, ground := Ground.guard }], guard := some (11, false) }) (v := iv (j : Int)) rfl (by kernel_rfl) (by kernel_rfl) (by kernel_rfl) (fun _ _ _ h => h.elim) (Or.inl ⟨by rfl, ?y17⟩) hS0.out ?_
  case y17 =>
    intro V hV
    go_simp
  simp only [Act.put, List.setIfInBounds_toArray, List.set_cons_zero, List.set_cons_succ]
  refine wpAnyH_take (i := 20) (oi := { dst := some 93, op := Op.indexAddr 45 (Operand.tmp 91) (Operand.tmp 92), type := 0, pos := "law.go:133", after := #[{ on := 18, ground := Ground.data }, { on := 19, ground := Ground.data }, { on := 11, ground := Ground.guard }], guard := some (11, false) }) (v := .pointer (some ⟨gb, off + j * 35, none⟩)) rfl (by kernel_rfl) (by kernel_rfl) (by kernel_rfl) (fun _ _ _ h => h.elim) (Or.inl ⟨by rfl, ?y18⟩) hS0.out ?_
  case y18 =>
    intro V hV
    have hcmp := q3
    have hcmp2 := q4
    go_simp
  simp only [Act.put, List.setIfInBounds_toArray, List.set_cons_zero, List.set_cons_succ]
  refine wpAnyH_take (i := 21) (oi := { dst := some 94, op := Op.fieldAddr 50 (Operand.tmp 93) 0, type := 0, pos := "law.go:133", after := #[{ on := 20, ground := Ground.data }, { on := 11, ground := Ground.guard }], guard := some (11, false) }) (v := .pointer (some ⟨gb, off + j * 35, none⟩)) rfl (by kernel_rfl) (by kernel_rfl) (by kernel_rfl) (fun _ _ _ h => h.elim) (Or.inl ⟨by rfl, ?y19⟩) hS0.out ?_
  case y19 =>
    intro V hV
    go_simp
  simp only [Act.put, List.setIfInBounds_toArray, List.set_cons_zero, List.set_cons_succ]
  refine wpAnyH_take (i := 22) (oi := { dst := some 95, op := Op.load 34 (Operand.tmp 94), type := 34, pos := "law.go:133", after := #[{ on := 21, ground := Ground.data }, { on := 11, ground := Ground.guard }], guard := some (11, false) }) (v := .agg YC.toArray) rfl (by kernel_rfl) (by kernel_rfl) (by kernel_rfl) (fun _ _ _ h => h.elim) (yieldsIf_load_mid (by rfl) _ _ rfl _ _ rfl (YC) _ (fun V hV => rangeAt_same (HR2.out.1) ((show Below A.heap.size A V from hV).block _ (HL.out.1))) Try.underlying34 rfl (HR2.out.2)) hS0.out ?_
  simp only [Act.put, List.setIfInBounds_toArray, List.set_cons_zero, List.set_cons_succ]
  refine wpAnyH_ready (rs := [23]) (by kernel_rfl) (by simp) (AllReadyH.cons (i := 23) (o := { dst := some 96, op := Op.call { callee := Callee.value (Operand.func 20), args := #[Operand.tmp 85, Operand.tmp 90, Operand.tmp 95], argTypes := #[25, 34, 34] }, type := 4, pos := "law.go:133", after := #[{ on := 12, ground := Ground.data }, { on := 17, ground := Ground.data }, { on := 22, ground := Ground.data }, { on := 11, ground := Ground.chain }, { on := 11, ground := Ground.guard }], guard := some (11, false) }) rfl ?_ AllReadyH.nil)
  · intro K1 hK1
    rw [if_pos (by rfl)]
    have HC1 := HAHD.out V0 hS0.out
    go_wp2_with fail
    refine HC1.mono ?_
    rintro e V1 ⟨rfl, hb1⟩
    dsimp only
    clear HC1
    have hS1 : Hid (Below A.heap.size A V1) := hS0.out.trans (hb1.mono hS0.out.size)
    clear hb1
    refine hK1.out _ _ hS1.out ?_
    clear hK1
    intro _
    try simp only [Act.put, List.setIfInBounds_toArray, List.set_cons_zero, List.set_cons_succ]
    refine wpAnyH_take (i := 24) (oi := { dst := some 97, op := Op.pick (Operand.tmp 84) (Operand.const (Value.bool true)) (Operand.tmp 96), type := 4, pos := "law.go:133", after := #[{ on := 11, ground := Ground.data }, { on := 23, ground := Ground.data }], guard := none }) (v := .bool false) rfl (by kernel_rfl) (by kernel_rfl) (by kernel_rfl) (fun _ _ _ h => h.elim) (Or.inl ⟨by rfl, ?y20⟩) hS1.out ?_
    case y20 =>
      intro V hV
      go_simp
    simp only [Act.put, List.setIfInBounds_toArray, List.set_cons_zero, List.set_cons_succ]
    refine wpAnyH_done (by kernel_rfl) ?_ _
    exact hQ V1 hS1.out
end Go.Proofs.Ytjcihaohpbmogaa.Oct
