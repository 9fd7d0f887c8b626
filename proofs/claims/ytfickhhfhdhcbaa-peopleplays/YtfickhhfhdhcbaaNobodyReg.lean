/-
  Layer 15 (people): PeopleNobody: its drawn region.
-/
import Derived.Test.YtfickhhfhdhcbaaUnmade
namespace Go.Proofs.Ytfickhhfhdhcbaa.Oct
open Go.RowKit
set_option linter.unusedSimpArgs false

theorem unB {f : Nat} {args : Array Value} {w : World} {r : Value} (h : Calls Try.prog f args w fun e w' => e = .returned r ∧ w = w') : Calls Try.prog f args w fun e w' => e = .returned r ∧ Hid (Below w.heap.size w w') := h.mono fun e w' ⟨he, hw⟩ => ⟨he, by rw [hw]; exact Below.refl _ _⟩
theorem unH {f : Nat} {args : Array Value} {w : World} {r : Value} (h : Calls Try.prog f args w fun e w' => e = .returned r ∧ Below w.heap.size w w') : Calls Try.prog f args w fun e w' => e = .returned r ∧ Hid (Below w.heap.size w w') := h
theorem built42c (s : ByteArray) (W : World) : (Instr.build 42 #[(0, .string s)]).run Try.prog W = .ok (.agg #[.string s, .slice none 0 0, .int .i64 0]) W := by kernel_rfl
theorem StrAt.nil (w : World) : StrAt w none 0 [] := ⟨rfl, fun h => absurd h (by omega)⟩
theorem same_nil (c : ByteArray) (w : World) : Calls Try.prog 20 #[.agg #[.string c, .slice none 0 0, .int .i64 0], .agg #[.string c, .slice none 0 0, .int .i64 0]] w fun e w' => e = .returned (.bool true) ∧ Hid (Below w.heap.size w w') := by
  have h := same_same (c := 0) (d := 0) (StrAt.nil w) (StrAt.nil w) (by omega) c.data.toList 0
  exact h
set_option maxRecDepth 100000 in
set_option maxHeartbeats 2000000 in
theorem nobody_region {Q : Exit → Act → World → Prop} {x0 x2 x3 x5 x6 x7 x8 x9 x10 x11 x12 x13 x14 x15 x16 x17 x18 x19 x20 x21 x22 x23 x24 x25 x26 x27 x28 x29 x30 x31 x32 x33 x34 x35 x36 x37 x38 x39 x40 x41 x42 x43 x44 x45 x46 x47 x48 x49 x50 x51 x52 x53 x54 x55 x56 x57 x58 : Value} {ds : List Deferred} {A : World} {gb : Nat} {a c : ByteArray} {v : Value}
    (HU : Hid (Unmade A v)) (HC : Hid (A.cell? ⟨gb, 1, none⟩ = some (.string a) ∧ A.cell? ⟨gb, 3, none⟩ = some (.string c) ∧ gb < A.heap.size))
    (hQ : ∀ V, Below A.heap.size A V → Q .normal { tmps := #[x0, .pointer (some ⟨gb, 0, none⟩), x2, x3, v, x5, x6, x7, x8, x9, x10, x11, x12, x13, x14, x15, x16, x17, x18, x19, x20, x21, x22, x23, v, .slice none 0 0, .int .i64 0, v, .slice none 0 0, .int .i64 0, .int .i64 0, v, .pointer (some ⟨gb, 1, none⟩), .string a, .slice none 0 0, .int .i64 0, .int .i64 0, v, .pointer (some ⟨gb, 1, none⟩), .string a, .slice none 0 0, .int .i64 0, .int .i64 0, .bool false, .bool false, v, .pointer (some ⟨gb, 1, none⟩), .string a, .pointer (some ⟨gb, 3, none⟩), .string c, .agg #[.string c, .slice none 0 0, .int .i64 0], .pointer (some ⟨gb, 3, none⟩), .string c, .agg #[.string c, .slice none 0 0, .int .i64 0], .bool true, .bool false, .bool false, x57, x58], defers := ds } V) :
    (Code.region 11 #[{ dst := some 24, op := Op.move (Operand.tmp 4), type := 25, pos := "law.go:187", after := #[], guard := none }, { dst := some 25, op := Op.call { callee := Callee.value (Operand.func 14), args := #[Operand.tmp 24], argTypes := #[25] }, type := 27, pos := "law.go:187", after := #[{ on := 0, ground := Ground.data }], guard := none }, { dst := some 26, op := Op.call { callee := Callee.builtin Builtin.len, args := #[Operand.tmp 25], argTypes := #[27] }, type := 3, pos := "law.go:187", after := #[{ on := 1, ground := Ground.data }], guard := none }, { dst := some 27, op := Op.move (Operand.tmp 4), type := 25, pos := "law.go:187", after := #[], guard := none }, { dst := some 28, op := Op.call { callee := Callee.value (Operand.func 15), args := #[Operand.tmp 27], argTypes := #[25] }, type := 27, pos := "law.go:187", after := #[{ on := 3, ground := Ground.data }, { on := 1, ground := Ground.chain }], guard := none }, { dst := some 29, op := Op.call { callee := Callee.builtin Builtin.len, args := #[Operand.tmp 28], argTypes := #[27] }, type := 3, pos := "law.go:187", after := #[{ on := 4, ground := Ground.data }], guard := none }, { dst := some 30, op := Op.binOp BinOp.add 3 (Operand.tmp 26) (Operand.tmp 29) 3, type := 3, pos := "law.go:187", after := #[{ on := 2, ground := Ground.data }, { on := 5, ground := Ground.data }], guard := none }, { dst := some 31, op := Op.move (Operand.tmp 4), type := 25, pos := "law.go:187", after := #[], guard := none }, { dst := some 32, op := Op.fieldAddr 32 (Operand.tmp 1) 1, type := 0, pos := "law.go:187", after := #[], guard := none }, { dst := some 33, op := Op.load 9 (Operand.tmp 32), type := 9, pos := "law.go:187", after := #[{ on := 8, ground := Ground.data }], guard := none }, { dst := some 34, op := Op.call { callee := Callee.value (Operand.func 16), args := #[Operand.tmp 31, Operand.tmp 33], argTypes := #[25, 9] }, type := 27, pos := "law.go:187", after := #[{ on := 7, ground := Ground.data }, { on := 9, ground := Ground.data }, { on := 4, ground := Ground.chain }], guard := none }, { dst := some 35, op := Op.call { callee := Callee.builtin Builtin.len, args := #[Operand.tmp 34], argTypes := #[27] }, type := 3, pos := "law.go:187", after := #[{ on := 10, ground := Ground.data }], guard := none }, { dst := some 36, op := Op.binOp BinOp.add 3 (Operand.tmp 30) (Operand.tmp 35) 3, type := 3, pos := "law.go:187", after := #[{ on := 6, ground := Ground.data }, { on := 11, ground := Ground.data }], guard := none }, { dst := some 37, op := Op.move (Operand.tmp 4), type := 25, pos := "law.go:187", after := #[], guard := none }, { dst := some 38, op := Op.fieldAddr 32 (Operand.tmp 1) 1, type := 0, pos := "law.go:187", after := #[], guard := none }, { dst := some 39, op := Op.load 9 (Operand.tmp 38), type := 9, pos := "law.go:187", after := #[{ on := 14, ground := Ground.data }], guard := none }, { dst := some 40, op := Op.call { callee := Callee.value (Operand.func 18), args := #[Operand.tmp 37, Operand.tmp 39], argTypes := #[25, 9] }, type := 27, pos := "law.go:187", after := #[{ on := 13, ground := Ground.data }, { on := 15, ground := Ground.data }, { on := 10, ground := Ground.chain }], guard := none }, { dst := some 41, op := Op.call { callee := Callee.builtin Builtin.len, args := #[Operand.tmp 40], argTypes := #[27] }, type := 3, pos := "law.go:187", after := #[{ on := 16, ground := Ground.data }], guard := none }, { dst := some 42, op := Op.binOp BinOp.add 3 (Operand.tmp 36) (Operand.tmp 41) 3, type := 3, pos := "law.go:187", after := #[{ on := 12, ground := Ground.data }, { on := 17, ground := Ground.data }], guard := none }, { dst := some 43, op := Op.binOp BinOp.neq 3 (Operand.tmp 42) (Operand.const (Value.int IntKind.i64 0)) 3, type := 4, pos := "law.go:187", after := #[{ on := 18, ground := Ground.data }], guard := none }, { dst := some 44, op := Op.move (Operand.tmp 43), type := 4, pos := "law.go:187", after := #[{ on := 19, ground := Ground.data }, { on := 16, ground := Ground.chain }], guard := none }, { dst := some 45, op := Op.move (Operand.tmp 4), type := 25, pos := "law.go:187", after := #[{ on := 20, ground := Ground.guard }], guard := some (20, false) }, { dst := some 46, op := Op.fieldAddr 32 (Operand.tmp 1) 1, type := 0, pos := "law.go:187", after := #[{ on := 20, ground := Ground.guard }], guard := some (20, false) }, { dst := some 47, op := Op.load 9 (Operand.tmp 46), type := 9, pos := "law.go:187", after := #[{ on := 22, ground := Ground.data }, { on := 20, ground := Ground.guard }], guard := some (20, false) }, { dst := some 48, op := Op.fieldAddr 32 (Operand.tmp 1) 3, type := 0, pos := "law.go:187", after := #[{ on := 20, ground := Ground.guard }], guard := some (20, false) }, { dst := some 49, op := Op.load 9 (Operand.tmp 48), type := 9, pos := "law.go:187", after := #[{ on := 24, ground := Ground.data }, { on := 20, ground := Ground.guard }], guard := some (20, false) }, { dst := some 50, op := Op.call { callee := Callee.value (Operand.func 21), args := #[Operand.tmp 45, Operand.tmp 47, Operand.tmp 49], argTypes := #[25, 9, 9] }, type := 42, pos := "law.go:187", after := #[{ on := 21, ground := Ground.data }, { on := 23, ground := Ground.data }, { on := 25, ground := Ground.data }, { on := 20, ground := Ground.chain }, { on := 20, ground := Ground.guard }], guard := some (20, false) }, { dst := some 51, op := Op.fieldAddr 32 (Operand.tmp 1) 3, type := 0, pos := "law.go:187", after := #[{ on := 20, ground := Ground.guard }], guard := some (20, false) }, { dst := some 52, op := Op.load 9 (Operand.tmp 51), type := 9, pos := "law.go:187", after := #[{ on := 27, ground := Ground.data }, { on := 20, ground := Ground.guard }], guard := some (20, false) }, { dst := some 53, op := Op.build 42 #[(0, Operand.tmp 52)], type := 42, pos := "law.go:187", after := #[{ on := 28, ground := Ground.data }, { on := 20, ground := Ground.guard }], guard := some (20, false) }, { dst := some 54, op := Op.call { callee := Callee.value (Operand.func 20), args := #[Operand.tmp 50, Operand.tmp 53], argTypes := #[42, 42] }, type := 4, pos := "law.go:187", after := #[{ on := 26, ground := Ground.data }, { on := 29, ground := Ground.data }, { on := 26, ground := Ground.chain }, { on := 20, ground := Ground.guard }], guard := some (20, false) }, { dst := some 55, op := Op.unOp UnOp.not 4 (Operand.tmp 54), type := 4, pos := "law.go:187", after := #[{ on := 30, ground := Ground.data }, { on := 20, ground := Ground.guard }], guard := some (20, false) }, { dst := some 56, op := Op.pick (Operand.tmp 44) (Operand.const (Value.bool true)) (Operand.tmp 55), type := 4, pos := "law.go:187", after := #[{ on := 20, ground := Ground.data }, { on := 31, ground := Ground.data }], guard := none }] true).wp Try.prog Q { tmps := #[x0, .pointer (some ⟨gb, 0, none⟩), x2, x3, v, x5, x6, x7, x8, x9, x10, x11, x12, x13, x14, x15, x16, x17, x18, x19, x20, x21, x22, x23, x24, x25, x26, x27, x28, x29, x30, x31, x32, x33, x34, x35, x36, x37, x38, x39, x40, x41, x42, x43, x44, x45, x46, x47, x48, x49, x50, x51, x52, x53, x54, x55, x56, x57, x58], defers := ds } A := by
  refine Code.wp_mono (Q := fun x a' w' => match x with | .normal => Q .normal a' w' | _ => False) (by intro x a' w' h; cases x <;> first | exact h | exact h.elim) ?_
  refine wp_region_held (S := fun V => Below A.heap.size A V) (by kernel_rfl) ?_
  have hS0 : Hid (Below A.heap.size A A.drew) := below_drew A
  change wpAnyH Try.prog .any _ _ (fun V => Below A.heap.size A V) 33 (Array.replicate 33 false) _ A.drew
  refine wpAnyH_take (i := 0) (oi := { dst := some 24, op := Op.move (Operand.tmp 4), type := 25, pos := "law.go:187", after := #[], guard := none }) (v := v) rfl (by kernel_rfl) (by kernel_rfl) (by kernel_rfl) (fun _ _ _ h => h.elim) (Or.inl ⟨by rfl, ?y0⟩) hS0.out ?_
  case y0 =>
    intro V hV
    go_simp
  simp only [Act.put, List.setIfInBounds_toArray, List.set_cons_zero, List.set_cons_succ]
  refine wpAnyH_take (i := 3) (oi := { dst := some 27, op := Op.move (Operand.tmp 4), type := 25, pos := "law.go:187", after := #[], guard := none }) (v := v) rfl (by kernel_rfl) (by kernel_rfl) (by kernel_rfl) (fun _ _ _ h => h.elim) (Or.inl ⟨by rfl, ?y3⟩) hS0.out ?_
  case y3 =>
    intro V hV
    go_simp
  simp only [Act.put, List.setIfInBounds_toArray, List.set_cons_zero, List.set_cons_succ]
  refine wpAnyH_take (i := 7) (oi := { dst := some 31, op := Op.move (Operand.tmp 4), type := 25, pos := "law.go:187", after := #[], guard := none }) (v := v) rfl (by kernel_rfl) (by kernel_rfl) (by kernel_rfl) (fun _ _ _ h => h.elim) (Or.inl ⟨by rfl, ?y7⟩) hS0.out ?_
  case y7 =>
    intro V hV
    go_simp
  simp only [Act.put, List.setIfInBounds_toArray, List.set_cons_zero, List.set_cons_succ]
  refine wpAnyH_take (i := 8) (oi := { dst := some 32, op := Op.fieldAddr 32 (Operand.tmp 1) 1, type := 0, pos := "law.go:187", after := #[], guard := none }) (v := .pointer (some ⟨gb, 1, none⟩)) rfl (by kernel_rfl) (by kernel_rfl) (by kernel_rfl) (fun _ _ _ h => h.elim) (Or.inl ⟨by rfl, ?y8⟩) hS0.out ?_
  case y8 =>
    intro V hV
    go_simp
  simp only [Act.put, List.setIfInBounds_toArray, List.set_cons_zero, List.set_cons_succ]
  refine wpAnyH_take (i := 9) (oi := { dst := some 33, op := Op.load 9 (Operand.tmp 32), type := 9, pos := "law.go:187", after := #[{ on := 8, ground := Ground.data }], guard := none }) (v := .string a) rfl (by kernel_rfl) (by kernel_rfl) (by kernel_rfl) (fun _ _ _ h => h.elim) (Or.inl ⟨by rfl, ?y9⟩) hS0.out ?_
  case y9 =>
    intro V hV
    have k : V.cell? ⟨gb, 1, none⟩ = some (.string a) := (Below.cell (p := ⟨gb, 1, none⟩) hV HC.out.2.2).trans HC.out.1
    go_simp
  simp only [Act.put, List.setIfInBounds_toArray, List.set_cons_zero, List.set_cons_succ]
  refine wpAnyH_take (i := 13) (oi := { dst := some 37, op := Op.move (Operand.tmp 4), type := 25, pos := "law.go:187", after := #[], guard := none }) (v := v) rfl (by kernel_rfl) (by kernel_rfl) (by kernel_rfl) (fun _ _ _ h => h.elim) (Or.inl ⟨by rfl, ?y13⟩) hS0.out ?_
  case y13 =>
    intro V hV
    go_simp
  simp only [Act.put, List.setIfInBounds_toArray, List.set_cons_zero, List.set_cons_succ]
  refine wpAnyH_take (i := 14) (oi := { dst := some 38, op := Op.fieldAddr 32 (Operand.tmp 1) 1, type := 0, pos := "law.go:187", after := #[], guard := none }) (v := .pointer (some ⟨gb, 1, none⟩)) rfl (by kernel_rfl) (by kernel_rfl) (by kernel_rfl) (fun _ _ _ h => h.elim) (Or.inl ⟨by rfl, ?y14⟩) hS0.out ?_
  case y14 =>
    intro V hV
    go_simp
  simp only [Act.put, List.setIfInBounds_toArray, List.set_cons_zero, List.set_cons_succ]
  refine wpAnyH_take (i := 15) (oi := { dst := some 39, op := Op.load 9 (Operand.tmp 38), type := 9, pos := "law.go:187", after := #[{ on := 14, ground := Ground.data }], guard := none }) (v := .string a) rfl (by kernel_rfl) (by kernel_rfl) (by kernel_rfl) (fun _ _ _ h => h.elim) (Or.inl ⟨by rfl, ?y15⟩) hS0.out ?_
  case y15 =>
    intro V hV
    have k : V.cell? ⟨gb, 1, none⟩ = some (.string a) := (Below.cell (p := ⟨gb, 1, none⟩) hV HC.out.2.2).trans HC.out.1
    go_simp
  simp only [Act.put, List.setIfInBounds_toArray, List.set_cons_zero, List.set_cons_succ]
  refine wpAnyH_ready (rs := [1]) (by kernel_rfl) (by simp) (AllReadyH.cons (i := 1) (o := { dst := some 25, op := Op.call { callee := Callee.value (Operand.func 14), args := #[Operand.tmp 24], argTypes := #[25] }, type := 27, pos := "law.go:187", after := #[{ on := 0, ground := Ground.data }], guard := none }) rfl ?_ AllReadyH.nil)
  intro K1 hK1
  rw [if_pos (by rfl)]
  have HC1 := unB (un_14 (HU.out.below hS0.out))
  go_wp2_with fail
  refine HC1.mono ?_
  rintro e V1 ⟨rfl, HB1⟩
  dsimp only
  clear HC1
  have hS1 : Hid (Below A.heap.size A V1) := hS0.out.trans (HB1.out.mono hS0.out.size)
  refine hK1.out _ _ hS1.out ?_
  clear hK1
  intro _
  try simp only [Act.put, List.setIfInBounds_toArray, List.set_cons_zero, List.set_cons_succ]
  refine wpAnyH_take (i := 2) (oi := { dst := some 26, op := Op.call { callee := Callee.builtin Builtin.len, args := #[Operand.tmp 25], argTypes := #[27] }, type := 3, pos := "law.go:187", after := #[{ on := 1, ground := Ground.data }], guard := none }) (v := .int .i64 0) rfl (by kernel_rfl) (by kernel_rfl) (by kernel_rfl) (fun _ _ _ h => h.elim) (Or.inl ⟨by rfl, ?y2⟩) hS1.out ?_
  case y2 =>
    intro V hV
    go_simp
  simp only [Act.put, List.setIfInBounds_toArray, List.set_cons_zero, List.set_cons_succ]
  refine wpAnyH_ready (rs := [4]) (by kernel_rfl) (by simp) (AllReadyH.cons (i := 4) (o := { dst := some 28, op := Op.call { callee := Callee.value (Operand.func 15), args := #[Operand.tmp 27], argTypes := #[25] }, type := 27, pos := "law.go:187", after := #[{ on := 3, ground := Ground.data }, { on := 1, ground := Ground.chain }], guard := none }) rfl ?_ AllReadyH.nil)
  intro K1 hK1
  rw [if_pos (by rfl)]
  have HC2 := unB (un_15 (HU.out.below hS1.out))
  go_wp2_with fail
  refine HC2.mono ?_
  rintro e V2 ⟨rfl, HB2⟩
  dsimp only
  clear HC2
  have hS2 : Hid (Below A.heap.size A V2) := hS1.out.trans (HB2.out.mono hS1.out.size)
  refine hK1.out _ _ hS2.out ?_
  clear hK1
  intro _
  try simp only [Act.put, List.setIfInBounds_toArray, List.set_cons_zero, List.set_cons_succ]
  refine wpAnyH_take (i := 5) (oi := { dst := some 29, op := Op.call { callee := Callee.builtin Builtin.len, args := #[Operand.tmp 28], argTypes := #[27] }, type := 3, pos := "law.go:187", after := #[{ on := 4, ground := Ground.data }], guard := none }) (v := .int .i64 0) rfl (by kernel_rfl) (by kernel_rfl) (by kernel_rfl) (fun _ _ _ h => h.elim) (Or.inl ⟨by rfl, ?y5⟩) hS2.out ?_
  case y5 =>
    intro V hV
    go_simp
  simp only [Act.put, List.setIfInBounds_toArray, List.set_cons_zero, List.set_cons_succ]
  refine wpAnyH_take (i := 6) (oi := { dst := some 30, op := Op.binOp BinOp.add 3 (Operand.tmp 26) (Operand.tmp 29) 3, type := 3, pos := "law.go:187", after := #[{ on := 2, ground := Ground.data }, { on := 5, ground := Ground.data }], guard := none }) (v := .int .i64 0) rfl (by kernel_rfl) (by kernel_rfl) (by kernel_rfl) (fun _ _ _ h => h.elim) (Or.inl ⟨by rfl, ?y6⟩) hS2.out ?_
  case y6 =>
    intro V hV
    (go_simp; rfl)
  simp only [Act.put, List.setIfInBounds_toArray, List.set_cons_zero, List.set_cons_succ]
  refine wpAnyH_ready (rs := [10]) (by kernel_rfl) (by simp) (AllReadyH.cons (i := 10) (o := { dst := some 34, op := Op.call { callee := Callee.value (Operand.func 16), args := #[Operand.tmp 31, Operand.tmp 33], argTypes := #[25, 9] }, type := 27, pos := "law.go:187", after := #[{ on := 7, ground := Ground.data }, { on := 9, ground := Ground.data }, { on := 4, ground := Ground.chain }], guard := none }) rfl ?_ AllReadyH.nil)
  intro K1 hK1
  rw [if_pos (by rfl)]
  have HC3 := unB (un_16 (HU.out.below hS2.out) (.string a))
  go_wp2_with fail
  refine HC3.mono ?_
  rintro e V3 ⟨rfl, HB3⟩
  dsimp only
  clear HC3
  have hS3 : Hid (Below A.heap.size A V3) := hS2.out.trans (HB3.out.mono hS2.out.size)
  refine hK1.out _ _ hS3.out ?_
  clear hK1
  intro _
  try simp only [Act.put, List.setIfInBounds_toArray, List.set_cons_zero, List.set_cons_succ]
  refine wpAnyH_take (i := 11) (oi := { dst := some 35, op := Op.call { callee := Callee.builtin Builtin.len, args := #[Operand.tmp 34], argTypes := #[27] }, type := 3, pos := "law.go:187", after := #[{ on := 10, ground := Ground.data }], guard := none }) (v := .int .i64 0) rfl (by kernel_rfl) (by kernel_rfl) (by kernel_rfl) (fun _ _ _ h => h.elim) (Or.inl ⟨by rfl, ?y11⟩) hS3.out ?_
  case y11 =>
    intro V hV
    go_simp
  simp only [Act.put, List.setIfInBounds_toArray, List.set_cons_zero, List.set_cons_succ]
  refine wpAnyH_take (i := 12) (oi := { dst := some 36, op := Op.binOp BinOp.add 3 (Operand.tmp 30) (Operand.tmp 35) 3, type := 3, pos := "law.go:187", after := #[{ on := 6, ground := Ground.data }, { on := 11, ground := Ground.data }], guard := none }) (v := .int .i64 0) rfl (by kernel_rfl) (by kernel_rfl) (by kernel_rfl) (fun _ _ _ h => h.elim) (Or.inl ⟨by rfl, ?y12⟩) hS3.out ?_
  case y12 =>
    intro V hV
    (go_simp; rfl)
  simp only [Act.put, List.setIfInBounds_toArray, List.set_cons_zero, List.set_cons_succ]
  refine wpAnyH_ready (rs := [16]) (by kernel_rfl) (by simp) (AllReadyH.cons (i := 16) (o := { dst := some 40, op := Op.call { callee := Callee.value (Operand.func 18), args := #[Operand.tmp 37, Operand.tmp 39], argTypes := #[25, 9] }, type := 27, pos := "law.go:187", after := #[{ on := 13, ground := Ground.data }, { on := 15, ground := Ground.data }, { on := 10, ground := Ground.chain }], guard := none }) rfl ?_ AllReadyH.nil)
  intro K1 hK1
  rw [if_pos (by rfl)]
  have HC4 := unB (un_18 (HU.out.below hS3.out) (.string a))
  go_wp2_with fail
  refine HC4.mono ?_
  rintro e V4 ⟨rfl, HB4⟩
  dsimp only
  clear HC4
  have hS4 : Hid (Below A.heap.size A V4) := hS3.out.trans (HB4.out.mono hS3.out.size)
  refine hK1.out _ _ hS4.out ?_
  clear hK1
  intro _
  try simp only [Act.put, List.setIfInBounds_toArray, List.set_cons_zero, List.set_cons_succ]
  refine wpAnyH_take (i := 17) (oi := { dst := some 41, op := Op.call { callee := Callee.builtin Builtin.len, args := #[Operand.tmp 40], argTypes := #[27] }, type := 3, pos := "law.go:187", after := #[{ on := 16, ground := Ground.data }], guard := none }) (v := .int .i64 0) rfl (by kernel_rfl) (by kernel_rfl) (by kernel_rfl) (fun _ _ _ h => h.elim) (Or.inl ⟨by rfl, ?y17⟩) hS4.out ?_
  case y17 =>
    intro V hV
    go_simp
  simp only [Act.put, List.setIfInBounds_toArray, List.set_cons_zero, List.set_cons_succ]
  refine wpAnyH_take (i := 18) (oi := { dst := some 42, op := Op.binOp BinOp.add 3 (Operand.tmp 36) (Operand.tmp 41) 3, type := 3, pos := "law.go:187", after := #[{ on := 12, ground := Ground.data }, { on := 17, ground := Ground.data }], guard := none }) (v := .int .i64 0) rfl (by kernel_rfl) (by kernel_rfl) (by kernel_rfl) (fun _ _ _ h => h.elim) (Or.inl ⟨by rfl, ?y18⟩) hS4.out ?_
  case y18 =>
    intro V hV
    (go_simp; rfl)
  simp only [Act.put, List.setIfInBounds_toArray, List.set_cons_zero, List.set_cons_succ]
  refine wpAnyH_take (i := 19) (oi := { dst := some 43, op := Op.binOp BinOp.neq 3 (Operand.tmp 42) (Operand.const (Value.int IntKind.i64 0)) 3, type := 4, pos := "law.go:187", after := #[{ on := 18, ground := Ground.data }], guard := none }) (v := .bool false) rfl (by kernel_rfl) (by kernel_rfl) (by kernel_rfl) (fun _ _ _ h => h.elim) (Or.inl ⟨by rfl, ?y19⟩) hS4.out ?_
  case y19 =>
    intro V hV
    go_simp
  simp only [Act.put, List.setIfInBounds_toArray, List.set_cons_zero, List.set_cons_succ]
  refine wpAnyH_take (i := 20) (oi := { dst := some 44, op := Op.move (Operand.tmp 43), type := 4, pos := "law.go:187", after := #[{ on := 19, ground := Ground.data }, { on := 16, ground := Ground.chain }], guard := none }) (v := .bool false) rfl (by kernel_rfl) (by kernel_rfl) (by kernel_rfl) (fun _ _ _ h => h.elim) (Or.inl ⟨by rfl, ?y20⟩) hS4.out ?_
  case y20 =>
    intro V hV
    go_simp
  simp only [Act.put, List.setIfInBounds_toArray, List.set_cons_zero, List.set_cons_succ]
  refine wpAnyH_take (i := 21) (oi := { dst := some 45, op := Op.move (Operand.tmp 4), type := 25, pos := "law.go:187", after := #[{ on := 20, ground := Ground.guard }], guard := some (20, false) }) (v := v) rfl (by kernel_rfl) (by kernel_rfl) (by kernel_rfl) (fun _ _ _ h => h.elim) (Or.inl ⟨by rfl, ?y21⟩) hS4.out ?_
  case y21 =>
    intro V hV
    go_simp
  simp only [Act.put, List.setIfInBounds_toArray, List.set_cons_zero, List.set_cons_succ]
  refine wpAnyH_take (i := 22) (oi := { dst := some 46, op := Op.fieldAddr 32 (Operand.tmp 1) 1, type := 0, pos := "law.go:187", after := #[{ on := 20, ground := Ground.guard }], guard := some (20, false) }) (v := .pointer (some ⟨gb, 1, none⟩)) rfl (by kernel_rfl) (by kernel_rfl) (by kernel_rfl) (fun _ _ _ h => h.elim) (Or.inl ⟨by rfl, ?y22⟩) hS4.out ?_
  case y22 =>
    intro V hV
    go_simp
  simp only [Act.put, List.setIfInBounds_toArray, List.set_cons_zero, List.set_cons_succ]
  refine wpAnyH_take (i := 23) (oi := { dst := some 47, op := Op.load 9 (Operand.tmp 46), type := 9, pos := "law.go:187", after := #[{ on := 22, ground := Ground.data }, { on := 20, ground := Ground.guard }], guard := some (20, false) }) (v := .string a) rfl (by kernel_rfl) (by kernel_rfl) (by kernel_rfl) (fun _ _ _ h => h.elim) (Or.inl ⟨by rfl, ?y23⟩) hS4.out ?_
  case y23 =>
    intro V hV
    have k : V.cell? ⟨gb, 1, none⟩ = some (.string a) := (Below.cell (p := ⟨gb, 1, none⟩) hV HC.out.2.2).trans HC.out.1
    go_simp
  simp only [Act.put, List.setIfInBounds_toArray, List.set_cons_zero, List.set_cons_succ]
  refine wpAnyH_take (i := 24) (oi := { dst := some 48, op := Op.fieldAddr 32 (Operand.tmp 1) 3, type := 0, pos := "law.go:187", after := #[{ on := 20, ground := Ground.guard }], guard := some (20, false) }) (v := .pointer (some ⟨gb, 3, none⟩)) rfl (by kernel_rfl) (by kernel_rfl) (by kernel_rfl) (fun _ _ _ h => h.elim) (Or.inl ⟨by rfl, ?y24⟩) hS4.out ?_
  case y24 =>
    intro V hV
    go_simp
  simp only [Act.put, List.setIfInBounds_toArray, List.set_cons_zero, List.set_cons_succ]
  refine wpAnyH_take (i := 25) (oi := { dst := some 49, op := Op.load 9 (Operand.tmp 48), type := 9, pos := "law.go:187", after := #[{ on := 24, ground := Ground.data }, { on := 20, ground := Ground.guard }], guard := some (20, false) }) (v := .string c) rfl (by kernel_rfl) (by kernel_rfl) (by kernel_rfl) (fun _ _ _ h => h.elim) (Or.inl ⟨by rfl, ?y25⟩) hS4.out ?_
  case y25 =>
    intro V hV
    have k : V.cell? ⟨gb, 3, none⟩ = some (.string c) := (Below.cell (p := ⟨gb, 3, none⟩) hV HC.out.2.2).trans HC.out.2.1
    go_simp
  simp only [Act.put, List.setIfInBounds_toArray, List.set_cons_zero, List.set_cons_succ]
  refine wpAnyH_take (i := 27) (oi := { dst := some 51, op := Op.fieldAddr 32 (Operand.tmp 1) 3, type := 0, pos := "law.go:187", after := #[{ on := 20, ground := Ground.guard }], guard := some (20, false) }) (v := .pointer (some ⟨gb, 3, none⟩)) rfl (by kernel_rfl) (by kernel_rfl) (by kernel_rfl) (fun _ _ _ h => h.elim) (Or.inl ⟨by rfl, ?y27⟩) hS4.out ?_
  case y27 =>
    intro V hV
    go_simp
  simp only [Act.put, List.setIfInBounds_toArray, List.set_cons_zero, List.set_cons_succ]
  refine wpAnyH_take (i := 28) (oi := { dst := some 52, op := Op.load 9 (Operand.tmp 51), type := 9, pos := "law.go:187", after := #[{ on := 27, ground := Ground.data }, { on := 20, ground := Ground.guard }], guard := some (20, false) }) (v := .string c) rfl (by kernel_rfl) (by kernel_rfl) (by kernel_rfl) (fun _ _ _ h => h.elim) (Or.inl ⟨by rfl, ?y28⟩) hS4.out ?_
  case y28 =>
    intro V hV
    have k : V.cell? ⟨gb, 3, none⟩ = some (.string c) := (Below.cell (p := ⟨gb, 3, none⟩) hV HC.out.2.2).trans HC.out.2.1
    go_simp
  simp only [Act.put, List.setIfInBounds_toArray, List.set_cons_zero, List.set_cons_succ]
  refine wpAnyH_take (i := 29) (oi := { dst := some 53, op := Op.build 42 #[(0, Operand.tmp 52)], type := 42, pos := "law.go:187", after := #[{ on := 28, ground := Ground.data }, { on := 20, ground := Ground.guard }], guard := some (20, false) }) (v := .agg #[.string c, .slice none 0 0, .int .i64 0]) rfl (by kernel_rfl) (by kernel_rfl) (by kernel_rfl) (fun _ _ _ h => h.elim) (Or.inl ⟨by rfl, ?y29⟩) hS4.out ?_
  case y29 =>
    intro V hV
    have hbd := built42c c
    go_simp
  simp only [Act.put, List.setIfInBounds_toArray, List.set_cons_zero, List.set_cons_succ]
  refine wpAnyH_ready (rs := [26]) (by kernel_rfl) (by simp) (AllReadyH.cons (i := 26) (o := { dst := some 50, op := Op.call { callee := Callee.value (Operand.func 21), args := #[Operand.tmp 45, Operand.tmp 47, Operand.tmp 49], argTypes := #[25, 9, 9] }, type := 42, pos := "law.go:187", after := #[{ on := 21, ground := Ground.data }, { on := 23, ground := Ground.data }, { on := 25, ground := Ground.data }, { on := 20, ground := Ground.chain }, { on := 20, ground := Ground.guard }], guard := some (20, false) }) rfl ?_ AllReadyH.nil)
  intro K1 hK1
  rw [if_pos (by rfl)]
  have HC5 := unH (un_21 (HU.out.below hS4.out) (.string a) c)
  go_wp2_with fail
  refine HC5.mono ?_
  rintro e V5 ⟨rfl, HB5⟩
  dsimp only
  clear HC5
  have hS5 : Hid (Below A.heap.size A V5) := hS4.out.trans (HB5.out.mono hS4.out.size)
  refine hK1.out _ _ hS5.out ?_
  clear hK1
  intro _
  try simp only [Act.put, List.setIfInBounds_toArray, List.set_cons_zero, List.set_cons_succ]
  refine wpAnyH_ready (rs := [30]) (by kernel_rfl) (by simp) (AllReadyH.cons (i := 30) (o := { dst := some 54, op := Op.call { callee := Callee.value (Operand.func 20), args := #[Operand.tmp 50, Operand.tmp 53], argTypes := #[42, 42] }, type := 4, pos := "law.go:187", after := #[{ on := 26, ground := Ground.data }, { on := 29, ground := Ground.data }, { on := 26, ground := Ground.chain }, { on := 20, ground := Ground.guard }], guard := some (20, false) }) rfl ?_ AllReadyH.nil)
  intro K1 hK1
  rw [if_pos (by rfl)]
  have HC6 := same_nil c V5
  go_wp2_with fail
  refine HC6.mono ?_
  rintro e V6 ⟨rfl, HB6⟩
  dsimp only
  clear HC6
  have hS6 : Hid (Below A.heap.size A V6) := hS5.out.trans (HB6.out.mono hS5.out.size)
  refine hK1.out _ _ hS6.out ?_
  clear hK1
  intro _
  try simp only [Act.put, List.setIfInBounds_toArray, List.set_cons_zero, List.set_cons_succ]
  refine wpAnyH_take (i := 31) (oi := { dst := some 55, op := Op.unOp UnOp.not 4 (Operand.tmp 54), type := 4, pos := "law.go:187", after := #[{ on := 30, ground := Ground.data }, { on := 20, ground := Ground.guard }], guard := some (20, false) }) (v := .bool false) rfl (by kernel_rfl) (by kernel_rfl) (by kernel_rfl) (fun _ _ _ h => h.elim) (Or.inl ⟨by rfl, ?y31⟩) hS6.out ?_
  case y31 =>
    intro V hV
    go_simp
  simp only [Act.put, List.setIfInBounds_toArray, List.set_cons_zero, List.set_cons_succ]
  refine wpAnyH_take (i := 32) (oi := { dst := some 56, op := Op.pick (Operand.tmp 44) (Operand.const (Value.bool true)) (Operand.tmp 55), type := 4, pos := "law.go:187", after := #[{ on := 20, ground := Ground.data }, { on := 31, ground := Ground.data }], guard := none }) (v := .bool false) rfl (by kernel_rfl) (by kernel_rfl) (by kernel_rfl) (fun _ _ _ h => h.elim) (Or.inl ⟨by rfl, ?y32⟩) hS6.out ?_
  case y32 =>
    intro V hV
    go_simp
  simp only [Act.put, List.setIfInBounds_toArray, List.set_cons_zero, List.set_cons_succ]
  refine wpAnyH_done (by kernel_rfl) ?_ _
  exact hQ _ hS6.out
#print axioms nobody_region
end Go.Proofs.Ytfickhhfhdhcbaa.Oct
