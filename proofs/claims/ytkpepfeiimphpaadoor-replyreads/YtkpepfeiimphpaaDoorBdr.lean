/-
  Layer 24 (reply): readBody of the program: its drawn regions.
-/
import Derived.Test.YtkpepfeiimphpaaDoorRds
namespace Go.Proofs.YtkpepfeiimphpaaDoor.Oct
open Go.RowKit
set_option linter.unusedSimpArgs false
set_option linter.unusedVariables false

/-- what a drawn region keeps: all but the reader's block, and the text in it -/
def GK (A : World) (g : Nat) (s : BA) (V : World) : Prop := A.grownBy V (some g) ∧ V.cell? ⟨g, 0, none⟩ = some (.string s)
theorem GK.drew0 {A : World} {g : Nat} {s : BA} (h : A.cell? ⟨g, 0, none⟩ = some (.string s)) : GK A g s A.drew := ⟨⟨rfl, rfl, rfl, Nat.le_refl _, fun _ _ _ => rfl⟩, h⟩
theorem yl_mid {o : Oper} {a : Act} (V : World) (x y z : Operand) (s : BA) (k n : Nat) (hop : o.op = .slice 9 x (some y) (some z) none) (hx : a.eval x = .string s) (hy : a.eval y = iv (k : Int)) (hz : a.eval z = iv (n : Int)) (hk : k ≤ n) (hn : n ≤ s.size) (hs : s.size ≤ 140737488355328) : (execOp a.eval o).run Tryd.prog V = .ok (.value (.string (s.extract k n))) V := by
  have q1 : (k : Int) ≤ (n : Int) := by omega
  have q2 : (n : Int) ≤ (s.size : Int) := by omega
  have q3 : (s.size : Int) ≤ 140737488355328 := by omega
  unfold execOp
  simp only [hop, hx, Option.map_some, hy, hz]
  go_simp
/-- what accept of the end of a line leaves -/
def AcP (A : World) (g a : Nat) (s : BA) (st : Int) (ty bo : BA) (cl : Bool) (B : Bool) (a1 : Nat) (V : World) : Prop :=
  Blk V g 44 (rdc s (a1 : Int) st ty bo cl) ∧ a1 ≤ s.size ∧ s.data.toList.drop a1 = aftL (s.data.toList.drop a) crL ∧ A.grownBy V (some g) ∧ aftB (s.data.toList.drop a) crL = B
set_option maxRecDepth 100000 in
set_option maxHeartbeats 4000000 in
theorem bd10n {Q : Exit → Act → World → Prop} {x1 x2 x3 x4 x6 x7 x8 x9 x10 x11 x12 x13 x14 x15 x16 x17 x18 x19 x20 x21 x22 x23 x24 x25 x26 x27 x28 x29 x30 x31 x32 x33 x34 x35 x36 x37 x38 x39 x40 x41 x42 x43 x44 x45 x46 x47 x48 x49 x50 x51 x52 x53 x54 x55 x56 x57 x58 x59 x60 x61 x62 x63 x64 x65 x66 x67 x68 x69 x70 x71 x72 x73 x74 x75 x76 x77 x78 x79 : Value} {ds : List Deferred} {A : World} {g a : Nat} {s ty bo : BA} {st : Int} {cl  : Bool} {sz : Nat}
    (c0 : A.cell? ⟨g, 0, none⟩ = some (.string s)) (HZ : Hid (a ≤ s.size ∧ s.size ≤ 140000)) (HAC : Hid (Calls Tryd.prog 35 #[.pointer (some ⟨g, 0, none⟩), .string ⟨#[13, 10]⟩] A.drew fun e V2 => ∃ a1, e = .returned (.bool false) ∧ AcP A g a s st ty bo cl false a1 V2))
    (hQ : ∀ a1 V1, AcP A g a s st ty bo cl false a1 V1 → Q .normal { tmps := #[.pointer (some ⟨g, 0, none⟩), x1, x2, x3, x4, iv (sz : Int), x6, x7, x8, x9, x10, x11, x12, x13, x14, x15, x16, x17, x18, x19, x20, x21, x22, x23, x24, x25, x26, x27, x28, x29, x30, x31, x32, x33, .pointer (some ⟨g, 0, none⟩), .bool false, .bool true, .bool true, undef, undef, undef, undef, undef, undef, undef, undef, undef, undef, undef, undef, .bool true, x51, x52, x53, x54, x55, x56, x57, x58, x59, x60, x61, x62, x63, x64, x65, x66, x67, x68, x69, x70, x71, x72, x73, x74, x75, x76, x77, x78, x79], defers := ds } V1) :
    (Code.region 10 #[{ dst := some 34, op := Op.move (Operand.tmp 0), type := 54, pos := "read.go:110", after := #[], guard := none }, { dst := some 35, op := Op.call { callee := Callee.value (Operand.func 35), args := #[Operand.tmp 34, Operand.const (Value.string { data := #[13, 10] })], argTypes := #[54, 9] }, type := 4, pos := "read.go:110", after := #[{ on := 0, ground := Ground.data }], guard := none }, { dst := some 36, op := Op.unOp UnOp.not 4 (Operand.tmp 35), type := 4, pos := "read.go:110", after := #[{ on := 1, ground := Ground.data }], guard := none }, { dst := some 37, op := Op.move (Operand.tmp 36), type := 4, pos := "read.go:110", after := #[{ on := 2, ground := Ground.data }, { on := 1, ground := Ground.chain }], guard := none }, { dst := some 38, op := Op.move (Operand.tmp 5), type := 3, pos := "read.go:110", after := #[{ on := 3, ground := Ground.guard }], guard := some (3, false) }, { dst := some 39, op := Op.move (Operand.tmp 0), type := 54, pos := "read.go:110", after := #[{ on := 3, ground := Ground.guard }], guard := some (3, false) }, { dst := some 40, op := Op.nilCheck (Operand.tmp 39), type := 0, pos := "read.go:110", after := #[{ on := 5, ground := Ground.data }, { on := 3, ground := Ground.guard }], guard := some (3, false) }, { dst := some 41, op := Op.fieldAddr 44 (Operand.tmp 40) 0, type := 0, pos := "read.go:110", after := #[{ on := 6, ground := Ground.data }, { on := 3, ground := Ground.guard }], guard := some (3, false) }, { dst := some 42, op := Op.load 9 (Operand.tmp 41), type := 9, pos := "read.go:110", after := #[{ on := 7, ground := Ground.data }, { on := 3, ground := Ground.guard }], guard := some (3, false) }, { dst := some 43, op := Op.call { callee := Callee.builtin Builtin.len, args := #[Operand.tmp 42], argTypes := #[9] }, type := 3, pos := "read.go:110", after := #[{ on := 8, ground := Ground.data }, { on := 3, ground := Ground.guard }], guard := some (3, false) }, { dst := some 44, op := Op.move (Operand.tmp 0), type := 54, pos := "read.go:110", after := #[{ on := 3, ground := Ground.guard }], guard := some (3, false) }, { dst := some 45, op := Op.nilCheck (Operand.tmp 44), type := 0, pos := "read.go:110", after := #[{ on := 10, ground := Ground.data }, { on := 3, ground := Ground.guard }], guard := some (3, false) }, { dst := some 46, op := Op.fieldAddr 44 (Operand.tmp 45) 1, type := 0, pos := "read.go:110", after := #[{ on := 11, ground := Ground.data }, { on := 3, ground := Ground.guard }], guard := some (3, false) }, { dst := some 47, op := Op.load 3 (Operand.tmp 46), type := 3, pos := "read.go:110", after := #[{ on := 12, ground := Ground.data }, { on := 3, ground := Ground.guard }], guard := some (3, false) }, { dst := some 48, op := Op.binOp BinOp.sub 3 (Operand.tmp 43) (Operand.tmp 47) 3, type := 3, pos := "read.go:110", after := #[{ on := 9, ground := Ground.data }, { on := 13, ground := Ground.data }, { on := 3, ground := Ground.guard }], guard := some (3, false) }, { dst := some 49, op := Op.binOp BinOp.gtr 3 (Operand.tmp 38) (Operand.tmp 48) 3, type := 4, pos := "read.go:110", after := #[{ on := 4, ground := Ground.data }, { on := 14, ground := Ground.data }, { on := 3, ground := Ground.guard }], guard := some (3, false) }, { dst := some 50, op := Op.pick (Operand.tmp 37) (Operand.const (Value.bool true)) (Operand.tmp 49), type := 4, pos := "read.go:110", after := #[{ on := 3, ground := Ground.data }, { on := 15, ground := Ground.data }], guard := none }] true).wp Tryd.prog Q { tmps := #[.pointer (some ⟨g, 0, none⟩), x1, x2, x3, x4, iv (sz : Int), x6, x7, x8, x9, x10, x11, x12, x13, x14, x15, x16, x17, x18, x19, x20, x21, x22, x23, x24, x25, x26, x27, x28, x29, x30, x31, x32, x33, x34, x35, x36, x37, x38, x39, x40, x41, x42, x43, x44, x45, x46, x47, x48, x49, x50, x51, x52, x53, x54, x55, x56, x57, x58, x59, x60, x61, x62, x63, x64, x65, x66, x67, x68, x69, x70, x71, x72, x73, x74, x75, x76, x77, x78, x79], defers := ds } A := by
  refine Code.wp_mono (Q := fun x a' w' => match x with | .normal => Q .normal a' w' | _ => False) (by intro x a' w' h; cases x <;> first | exact h | exact h.elim) ?_
  refine wp_region_held (S := fun V => GK A g s V) (by kernel_rfl) ?_
  have hS0 : Hid (GK A g s A.drew) := GK.drew0 c0
  change wpAnyH Tryd.prog .any _ _ (fun V => GK A g s V) 17 (Array.replicate 17 false) _ A.drew
  obtain ⟨V0, hV0⟩ : ∃ V0, A.drew = V0 := ⟨_, rfl⟩
  rw [hV0]
  rw [hV0] at hS0
  obtain ⟨a0, ha0⟩ : ∃ x, a = x := ⟨_, rfl⟩
  rw [hV0] at HAC
  clear hV0
  refine wpAnyH_take (i := 0) (oi := { dst := some 34, op := Op.move (Operand.tmp 0), type := 54, pos := "read.go:110", after := #[], guard := none }) (v := .pointer (some ⟨g, 0, none⟩)) rfl (by kernel_rfl) (by kernel_rfl) (by kernel_rfl) (fun _ _ _ h => h.elim) (Or.inl ⟨by rfl, ?y1⟩) hS0.out ?_
  case y1 =>
    intro V hV
    go_simp
  simp only [Act.put, List.setIfInBounds_toArray, List.set_cons_zero, List.set_cons_succ]
  refine wpAnyH_ready (rs := [1]) (by kernel_rfl) (by simp) (AllReadyH.cons (i := 1) (o := { dst := some 35, op := Op.call { callee := Callee.value (Operand.func 35), args := #[Operand.tmp 34, Operand.const (Value.string { data := #[13, 10] })], argTypes := #[54, 9] }, type := 4, pos := "read.go:110", after := #[{ on := 0, ground := Ground.data }], guard := none }) rfl ?_ AllReadyH.nil)
  · intro K1 hK1
    rw [if_pos (by rfl)]
    have HC1 := HAC.out
    go_wp2_with fail
    refine HC1.mono ?_
    rintro e V1 ⟨a1, rfl, hx1⟩
    dsimp only
    clear HC1
    have hX1 : Hid (AcP A g a s st ty bo cl false a1 V1) := hx1
    clear hx1
    have hS1 : Hid (GK A g s V1) := ⟨hX1.out.2.2.2.1, hX1.out.1.cell rfl⟩
    refine hK1.out _ _ hS1.out ?_
    clear hK1
    intro _
    try simp only [Act.put, List.setIfInBounds_toArray, List.set_cons_zero, List.set_cons_succ]
    refine wpAnyH_take (i := 2) (oi := { dst := some 36, op := Op.unOp UnOp.not 4 (Operand.tmp 35), type := 4, pos := "read.go:110", after := #[{ on := 1, ground := Ground.data }], guard := none }) (v := .bool true) rfl (by kernel_rfl) (by kernel_rfl) (by kernel_rfl) (fun _ _ _ h => h.elim) (Or.inl ⟨by rfl, ?y2⟩) hS1.out ?_
    case y2 =>
      intro V hV
      go_simp
    simp only [Act.put, List.setIfInBounds_toArray, List.set_cons_zero, List.set_cons_succ]
    refine wpAnyH_take (i := 3) (oi := { dst := some 37, op := Op.move (Operand.tmp 36), type := 4, pos := "read.go:110", after := #[{ on := 2, ground := Ground.data }, { on := 1, ground := Ground.chain }], guard := none }) (v := .bool true) rfl (by kernel_rfl) (by kernel_rfl) (by kernel_rfl) (fun _ _ _ h => h.elim) (Or.inl ⟨by rfl, ?y3⟩) hS1.out ?_
    case y3 =>
      intro V hV
      go_simp
    simp only [Act.put, List.setIfInBounds_toArray, List.set_cons_zero, List.set_cons_succ]
    refine wpAnyH_take (i := 4) (oi := { dst := some 38, op := Op.move (Operand.tmp 5), type := 3, pos := "read.go:110", after := #[{ on := 3, ground := Ground.guard }], guard := some (3, false) }) (v := undef) rfl (by kernel_rfl) (by kernel_rfl) (by kernel_rfl) (fun _ _ _ h => h.elim) (Or.inr ⟨by rfl, rfl⟩) hS1.out ?_
    simp only [Act.put, List.setIfInBounds_toArray, List.set_cons_zero, List.set_cons_succ]
    refine wpAnyH_take (i := 5) (oi := { dst := some 39, op := Op.move (Operand.tmp 0), type := 54, pos := "read.go:110", after := #[{ on := 3, ground := Ground.guard }], guard := some (3, false) }) (v := undef) rfl (by kernel_rfl) (by kernel_rfl) (by kernel_rfl) (fun _ _ _ h => h.elim) (Or.inr ⟨by rfl, rfl⟩) hS1.out ?_
    simp only [Act.put, List.setIfInBounds_toArray, List.set_cons_zero, List.set_cons_succ]
    refine wpAnyH_take (i := 6) (oi := { dst := some 40, op := Op.nilCheck (Operand.tmp 39), type := 0, pos := "read.go:110", after := #[{ on := 5, ground := Ground.data }, { on := 3, ground := Ground.guard }], guard := some (3, false) }) (v := undef) rfl (by kernel_rfl) (by kernel_rfl) (by kernel_rfl) (fun _ _ _ h => h.elim) (Or.inr ⟨by rfl, rfl⟩) hS1.out ?_
    simp only [Act.put, List.setIfInBounds_toArray, List.set_cons_zero, List.set_cons_succ]
    refine wpAnyH_take (i := 7) (oi := { dst := some 41, op := Op.fieldAddr 44 (Operand.tmp 40) 0, type := 0, pos := "read.go:110", after := #[{ on := 6, ground := Ground.data }, { on := 3, ground := Ground.guard }], guard := some (3, false) }) (v := undef) rfl (by kernel_rfl) (by kernel_rfl) (by kernel_rfl) (fun _ _ _ h => h.elim) (Or.inr ⟨by rfl, rfl⟩) hS1.out ?_
    simp only [Act.put, List.setIfInBounds_toArray, List.set_cons_zero, List.set_cons_succ]
    refine wpAnyH_take (i := 8) (oi := { dst := some 42, op := Op.load 9 (Operand.tmp 41), type := 9, pos := "read.go:110", after := #[{ on := 7, ground := Ground.data }, { on := 3, ground := Ground.guard }], guard := some (3, false) }) (v := undef) rfl (by kernel_rfl) (by kernel_rfl) (by kernel_rfl) (fun _ _ _ h => h.elim) (Or.inr ⟨by rfl, rfl⟩) hS1.out ?_
    simp only [Act.put, List.setIfInBounds_toArray, List.set_cons_zero, List.set_cons_succ]
    refine wpAnyH_take (i := 9) (oi := { dst := some 43, op := Op.call { callee := Callee.builtin Builtin.len, args := #[Operand.tmp 42], argTypes := #[9] }, type := 3, pos := "read.go:110", after := #[{ on := 8, ground := Ground.data }, { on := 3, ground := Ground.guard }], guard := some (3, false) }) (v := undef) rfl (by kernel_rfl) (by kernel_rfl) (by kernel_rfl) (fun _ _ _ h => h.elim) (Or.inr ⟨by rfl, rfl⟩) hS1.out ?_
    simp only [Act.put, List.setIfInBounds_toArray, List.set_cons_zero, List.set_cons_succ]
    refine wpAnyH_take (i := 10) (oi := { dst := some 44, op := Op.move (Operand.tmp 0), type := 54, pos := "read.go:110", after := #[{ on := 3, ground := Ground.guard }], guard := some (3, false) }) (v := undef) rfl (by kernel_rfl) (by kernel_rfl) (by kernel_rfl) (fun _ _ _ h => h.elim) (Or.inr ⟨by rfl, rfl⟩) hS1.out ?_
    simp only [Act.put, List.setIfInBounds_toArray, List.set_cons_zero, List.set_cons_succ]
    refine wpAnyH_take (i := 11) (oi := { dst := some 45, op := Op.nilCheck (Operand.tmp 44), type := 0, pos := "read.go:110", after := #[{ on := 10, ground := Ground.data }, { on := 3, ground := Ground.guard }], guard := some (3, false) }) (v := undef) rfl (by kernel_rfl) (by kernel_rfl) (by kernel_rfl) (fun _ _ _ h => h.elim) (Or.inr ⟨by rfl, rfl⟩) hS1.out ?_
    simp only [Act.put, List.setIfInBounds_toArray, List.set_cons_zero, List.set_cons_succ]
    refine wpAnyH_take (i := 12) (oi := { dst := some 46, op := Op.fieldAddr 44 (Operand.tmp 45) 1, type := 0, pos := "read.go:110", after := #[{ on := 11, ground := Ground.data }, { on := 3, ground := Ground.guard }], guard := some (3, false) }) (v := undef) rfl (by kernel_rfl) (by kernel_rfl) (by kernel_rfl) (fun _ _ _ h => h.elim) (Or.inr ⟨by rfl, rfl⟩) hS1.out ?_
    simp only [Act.put, List.setIfInBounds_toArray, List.set_cons_zero, List.set_cons_succ]
    refine wpAnyH_take (i := 13) (oi := { dst := some 47, op := Op.load 3 (Operand.tmp 46), type := 3, pos := "read.go:110", after := #[{ on := 12, ground := Ground.data }, { on := 3, ground := Ground.guard }], guard := some (3, false) }) (v := undef) rfl (by kernel_rfl) (by kernel_rfl) (by kernel_rfl) (fun _ _ _ h => h.elim) (Or.inr ⟨by rfl, rfl⟩) hS1.out ?_
    simp only [Act.put, List.setIfInBounds_toArray, List.set_cons_zero, List.set_cons_succ]
    refine wpAnyH_take (i := 14) (oi := { dst := some 48, op := Op.binOp BinOp.sub 3 (Operand.tmp 43) (Operand.tmp 47) 3, type := 3, pos := "read.go:110", after := #[{ on := 9, ground := Ground.data }, { on := 13, ground := Ground.data }, { on := 3, ground := Ground.guard }], guard := some (3, false) }) (v := undef) rfl (by kernel_rfl) (by kernel_rfl) (by kernel_rfl) (fun _ _ _ h => h.elim) (Or.inr ⟨by rfl, rfl⟩) hS1.out ?_
    simp only [Act.put, List.setIfInBounds_toArray, List.set_cons_zero, List.set_cons_succ]
    refine wpAnyH_take (i := 15) (oi := { dst := some 49, op := Op.binOp BinOp.gtr 3 (Operand.tmp 38) (Operand.tmp 48) 3, type := 4, pos := "read.go:110", after := #[{ on := 4, ground := Ground.data }, { on := 14, ground := Ground.data }, { on := 3, ground := Ground.guard }], guard := some (3, false) }) (v := undef) rfl (by kernel_rfl) (by kernel_rfl) (by kernel_rfl) (fun _ _ _ h => h.elim) (Or.inr ⟨by rfl, rfl⟩) hS1.out ?_
    simp only [Act.put, List.setIfInBounds_toArray, List.set_cons_zero, List.set_cons_succ]
    refine wpAnyH_take (i := 16) (oi := { dst := some 50, op := Op.pick (Operand.tmp 37) (Operand.const (Value.bool true)) (Operand.tmp 49), type := 4, pos := "read.go:110", after := #[{ on := 3, ground := Ground.data }, { on := 15, ground := Ground.data }], guard := none }) (v := .bool true) rfl (by kernel_rfl) (by kernel_rfl) (by kernel_rfl) (fun _ _ _ h => h.elim) (Or.inl ⟨by rfl, ?y4⟩) hS1.out ?_
    case y4 =>
      intro V hV
      go_simp
    simp only [Act.put, List.setIfInBounds_toArray, List.set_cons_zero, List.set_cons_succ]
    refine wpAnyH_done (by kernel_rfl) ?_ _
    exact hQ a1 V1 hX1.out
#print axioms bd10n
theorem yl_sub {o : Oper} {a : Act} (V : World) (x y : Operand) (n k : Nat) (hop : o.op = .binOp .sub 3 x y 3) (hx : a.eval x = iv (n : Int)) (hy : a.eval y = iv (k : Int)) (hn : n ≤ 140000) (hk : k ≤ n) : (execOp a.eval o).run Tryd.prog V = .ok (.value (iv ((n : Int) - (k : Int)))) V := by
  have q1 : (k : Int) ≤ (n : Int) := by omega
  have q2 : (n : Int) ≤ 140000 := by omega
  have q3 : IntKind.i64.wrap ((n : Int) - (k : Int)) = (n : Int) - (k : Int) := by rw [IntKind.wrap_i64]; omega
  unfold execOp
  simp only [hop, hx, hy]
  go_simp
set_option maxRecDepth 100000 in
set_option maxHeartbeats 4000000 in
theorem bd10y {Q : Exit → Act → World → Prop} {x1 x2 x3 x4 x6 x7 x8 x9 x10 x11 x12 x13 x14 x15 x16 x17 x18 x19 x20 x21 x22 x23 x24 x25 x26 x27 x28 x29 x30 x31 x32 x33 x34 x35 x36 x37 x38 x39 x40 x41 x42 x43 x44 x45 x46 x47 x48 x49 x50 x51 x52 x53 x54 x55 x56 x57 x58 x59 x60 x61 x62 x63 x64 x65 x66 x67 x68 x69 x70 x71 x72 x73 x74 x75 x76 x77 x78 x79 : Value} {ds : List Deferred} {A : World} {g a : Nat} {s ty bo : BA} {st : Int} {cl  : Bool} {sz : Nat}
    (c0 : A.cell? ⟨g, 0, none⟩ = some (.string s)) (HZ : Hid (a ≤ s.size ∧ s.size ≤ 140000)) (HAC : Hid (Calls Tryd.prog 35 #[.pointer (some ⟨g, 0, none⟩), .string ⟨#[13, 10]⟩] A.drew fun e V2 => ∃ a1, e = .returned (.bool true) ∧ AcP A g a s st ty bo cl true a1 V2))
    (hQ : ∀ a1 V1, AcP A g a s st ty bo cl true a1 V1 → Q .normal { tmps := #[.pointer (some ⟨g, 0, none⟩), x1, x2, x3, x4, iv (sz : Int), x6, x7, x8, x9, x10, x11, x12, x13, x14, x15, x16, x17, x18, x19, x20, x21, x22, x23, x24, x25, x26, x27, x28, x29, x30, x31, x32, x33, .pointer (some ⟨g, 0, none⟩), .bool true, .bool false, .bool false, iv (sz : Int), .pointer (some ⟨g, 0, none⟩), .pointer (some ⟨g, 0, none⟩), .pointer (some ⟨g, 0, none⟩), .string s, iv (s.size : Int), .pointer (some ⟨g, 0, none⟩), .pointer (some ⟨g, 0, none⟩), .pointer (some ⟨g, 1, none⟩), iv (a1 : Int), iv ((s.size : Int) - (a1 : Int)), .bool (decide ((s.size : Int) - (a1 : Int) < (sz : Int))), .bool (decide ((s.size : Int) - (a1 : Int) < (sz : Int))), x51, x52, x53, x54, x55, x56, x57, x58, x59, x60, x61, x62, x63, x64, x65, x66, x67, x68, x69, x70, x71, x72, x73, x74, x75, x76, x77, x78, x79], defers := ds } V1) :
    (Code.region 10 #[{ dst := some 34, op := Op.move (Operand.tmp 0), type := 54, pos := "read.go:110", after := #[], guard := none }, { dst := some 35, op := Op.call { callee := Callee.value (Operand.func 35), args := #[Operand.tmp 34, Operand.const (Value.string { data := #[13, 10] })], argTypes := #[54, 9] }, type := 4, pos := "read.go:110", after := #[{ on := 0, ground := Ground.data }], guard := none }, { dst := some 36, op := Op.unOp UnOp.not 4 (Operand.tmp 35), type := 4, pos := "read.go:110", after := #[{ on := 1, ground := Ground.data }], guard := none }, { dst := some 37, op := Op.move (Operand.tmp 36), type := 4, pos := "read.go:110", after := #[{ on := 2, ground := Ground.data }, { on := 1, ground := Ground.chain }], guard := none }, { dst := some 38, op := Op.move (Operand.tmp 5), type := 3, pos := "read.go:110", after := #[{ on := 3, ground := Ground.guard }], guard := some (3, false) }, { dst := some 39, op := Op.move (Operand.tmp 0), type := 54, pos := "read.go:110", after := #[{ on := 3, ground := Ground.guard }], guard := some (3, false) }, { dst := some 40, op := Op.nilCheck (Operand.tmp 39), type := 0, pos := "read.go:110", after := #[{ on := 5, ground := Ground.data }, { on := 3, ground := Ground.guard }], guard := some (3, false) }, { dst := some 41, op := Op.fieldAddr 44 (Operand.tmp 40) 0, type := 0, pos := "read.go:110", after := #[{ on := 6, ground := Ground.data }, { on := 3, ground := Ground.guard }], guard := some (3, false) }, { dst := some 42, op := Op.load 9 (Operand.tmp 41), type := 9, pos := "read.go:110", after := #[{ on := 7, ground := Ground.data }, { on := 3, ground := Ground.guard }], guard := some (3, false) }, { dst := some 43, op := Op.call { callee := Callee.builtin Builtin.len, args := #[Operand.tmp 42], argTypes := #[9] }, type := 3, pos := "read.go:110", after := #[{ on := 8, ground := Ground.data }, { on := 3, ground := Ground.guard }], guard := some (3, false) }, { dst := some 44, op := Op.move (Operand.tmp 0), type := 54, pos := "read.go:110", after := #[{ on := 3, ground := Ground.guard }], guard := some (3, false) }, { dst := some 45, op := Op.nilCheck (Operand.tmp 44), type := 0, pos := "read.go:110", after := #[{ on := 10, ground := Ground.data }, { on := 3, ground := Ground.guard }], guard := some (3, false) }, { dst := some 46, op := Op.fieldAddr 44 (Operand.tmp 45) 1, type := 0, pos := "read.go:110", after := #[{ on := 11, ground := Ground.data }, { on := 3, ground := Ground.guard }], guard := some (3, false) }, { dst := some 47, op := Op.load 3 (Operand.tmp 46), type := 3, pos := "read.go:110", after := #[{ on := 12, ground := Ground.data }, { on := 3, ground := Ground.guard }], guard := some (3, false) }, { dst := some 48, op := Op.binOp BinOp.sub 3 (Operand.tmp 43) (Operand.tmp 47) 3, type := 3, pos := "read.go:110", after := #[{ on := 9, ground := Ground.data }, { on := 13, ground := Ground.data }, { on := 3, ground := Ground.guard }], guard := some (3, false) }, { dst := some 49, op := Op.binOp BinOp.gtr 3 (Operand.tmp 38) (Operand.tmp 48) 3, type := 4, pos := "read.go:110", after := #[{ on := 4, ground := Ground.data }, { on := 14, ground := Ground.data }, { on := 3, ground := Ground.guard }], guard := some (3, false) }, { dst := some 50, op := Op.pick (Operand.tmp 37) (Operand.const (Value.bool true)) (Operand.tmp 49), type := 4, pos := "read.go:110", after := #[{ on := 3, ground := Ground.data }, { on := 15, ground := Ground.data }], guard := none }] true).wp Tryd.prog Q { tmps := #[.pointer (some ⟨g, 0, none⟩), x1, x2, x3, x4, iv (sz : Int), x6, x7, x8, x9, x10, x11, x12, x13, x14, x15, x16, x17, x18, x19, x20, x21, x22, x23, x24, x25, x26, x27, x28, x29, x30, x31, x32, x33, x34, x35, x36, x37, x38, x39, x40, x41, x42, x43, x44, x45, x46, x47, x48, x49, x50, x51, x52, x53, x54, x55, x56, x57, x58, x59, x60, x61, x62, x63, x64, x65, x66, x67, x68, x69, x70, x71, x72, x73, x74, x75, x76, x77, x78, x79], defers := ds } A := by
  refine Code.wp_mono (Q := fun x a' w' => match x with | .normal => Q .normal a' w' | _ => False) (by intro x a' w' h; cases x <;> first | exact h | exact h.elim) ?_
  refine wp_region_held (S := fun V => GK A g s V) (by kernel_rfl) ?_
  have hS0 : Hid (GK A g s A.drew) := GK.drew0 c0
  change wpAnyH Tryd.prog .any _ _ (fun V => GK A g s V) 17 (Array.replicate 17 false) _ A.drew
  obtain ⟨V0, hV0⟩ : ∃ V0, A.drew = V0 := ⟨_, rfl⟩
  rw [hV0]
  rw [hV0] at hS0
  obtain ⟨a0, ha0⟩ : ∃ x, a = x := ⟨_, rfl⟩
  rw [hV0] at HAC
  clear hV0
  refine wpAnyH_take (i := 0) (oi := { dst := some 34, op := Op.move (Operand.tmp 0), type := 54, pos := "read.go:110", after := #[], guard := none }) (v := .pointer (some ⟨g, 0, none⟩)) rfl (by kernel_rfl) (by kernel_rfl) (by kernel_rfl) (fun _ _ _ h => h.elim) (Or.inl ⟨by rfl, ?y1⟩) hS0.out ?_
  case y1 =>
    intro V hV
    go_simp
  simp only [Act.put, List.setIfInBounds_toArray, List.set_cons_zero, List.set_cons_succ]
  refine wpAnyH_ready (rs := [1]) (by kernel_rfl) (by simp) (AllReadyH.cons (i := 1) (o := { dst := some 35, op := Op.call { callee := Callee.value (Operand.func 35), args := #[Operand.tmp 34, Operand.const (Value.string { data := #[13, 10] })], argTypes := #[54, 9] }, type := 4, pos := "read.go:110", after := #[{ on := 0, ground := Ground.data }], guard := none }) rfl ?_ AllReadyH.nil)
  · intro K1 hK1
    rw [if_pos (by rfl)]
    have HC1 := HAC.out
    go_wp2_with fail
    refine HC1.mono ?_
    rintro e V1 ⟨a1, rfl, hx1⟩
    dsimp only
    clear HC1
    have hX1 : Hid (AcP A g a s st ty bo cl true a1 V1) := hx1
    clear hx1
    have hS1 : Hid (GK A g s V1) := ⟨hX1.out.2.2.2.1, hX1.out.1.cell rfl⟩
    refine hK1.out _ _ hS1.out ?_
    clear hK1
    intro _
    try simp only [Act.put, List.setIfInBounds_toArray, List.set_cons_zero, List.set_cons_succ]
    refine wpAnyH_take (i := 2) (oi := { dst := some 36, op := Op.unOp UnOp.not 4 (Operand.tmp 35), type := 4, pos := "read.go:110", after := #[{ on := 1, ground := Ground.data }], guard := none }) (v := .bool false) rfl (by kernel_rfl) (by kernel_rfl) (by kernel_rfl) (fun _ _ _ h => h.elim) (Or.inl ⟨by rfl, ?y2⟩) hS1.out ?_
    case y2 =>
      intro V hV
      go_simp
    simp only [Act.put, List.setIfInBounds_toArray, List.set_cons_zero, List.set_cons_succ]
    refine wpAnyH_take (i := 3) (oi := { dst := some 37, op := Op.move (Operand.tmp 36), type := 4, pos := "read.go:110", after := #[{ on := 2, ground := Ground.data }, { on := 1, ground := Ground.chain }], guard := none }) (v := .bool false) rfl (by kernel_rfl) (by kernel_rfl) (by kernel_rfl) (fun _ _ _ h => h.elim) (Or.inl ⟨by rfl, ?y3⟩) hS1.out ?_
    case y3 =>
      intro V hV
      go_simp
    simp only [Act.put, List.setIfInBounds_toArray, List.set_cons_zero, List.set_cons_succ]
    refine wpAnyH_take (i := 4) (oi := { dst := some 38, op := Op.move (Operand.tmp 5), type := 3, pos := "read.go:110", after := #[{ on := 3, ground := Ground.guard }], guard := some (3, false) }) (v := iv (sz : Int)) rfl (by kernel_rfl) (by kernel_rfl) (by kernel_rfl) (fun _ _ _ h => h.elim) (Or.inl ⟨by rfl, ?y4⟩) hS1.out ?_
    case y4 =>
      intro V hV
      go_simp
    simp only [Act.put, List.setIfInBounds_toArray, List.set_cons_zero, List.set_cons_succ]
    refine wpAnyH_take (i := 5) (oi := { dst := some 39, op := Op.move (Operand.tmp 0), type := 54, pos := "read.go:110", after := #[{ on := 3, ground := Ground.guard }], guard := some (3, false) }) (v := .pointer (some ⟨g, 0, none⟩)) rfl (by kernel_rfl) (by kernel_rfl) (by kernel_rfl) (fun _ _ _ h => h.elim) (Or.inl ⟨by rfl, ?y5⟩) hS1.out ?_
    case y5 =>
      intro V hV
      go_simp
    simp only [Act.put, List.setIfInBounds_toArray, List.set_cons_zero, List.set_cons_succ]
    refine wpAnyH_take (i := 6) (oi := { dst := some 40, op := Op.nilCheck (Operand.tmp 39), type := 0, pos := "read.go:110", after := #[{ on := 5, ground := Ground.data }, { on := 3, ground := Ground.guard }], guard := some (3, false) }) (v := .pointer (some ⟨g, 0, none⟩)) rfl (by kernel_rfl) (by kernel_rfl) (by kernel_rfl) (fun _ _ _ h => h.elim) (Or.inl ⟨by rfl, ?y6⟩) hS1.out ?_
    case y6 =>
      intro V hV
      go_simp
    simp only [Act.put, List.setIfInBounds_toArray, List.set_cons_zero, List.set_cons_succ]
    refine wpAnyH_take (i := 7) (oi := { dst := some 41, op := Op.fieldAddr 44 (Operand.tmp 40) 0, type := 0, pos := "read.go:110", after := #[{ on := 6, ground := Ground.data }, { on := 3, ground := Ground.guard }], guard := some (3, false) }) (v := .pointer (some ⟨g, 0, none⟩)) rfl (by kernel_rfl) (by kernel_rfl) (by kernel_rfl) (fun _ _ _ h => h.elim) (Or.inl ⟨by rfl, ?y7⟩) hS1.out ?_
    case y7 =>
      intro V hV
      go_simp
    simp only [Act.put, List.setIfInBounds_toArray, List.set_cons_zero, List.set_cons_succ]
    refine wpAnyH_take (i := 8) (oi := { dst := some 42, op := Op.load 9 (Operand.tmp 41), type := 9, pos := "read.go:110", after := #[{ on := 7, ground := Ground.data }, { on := 3, ground := Ground.guard }], guard := some (3, false) }) (v := .string s) rfl (by kernel_rfl) (by kernel_rfl) (by kernel_rfl) (fun _ _ _ h => h.elim) (Or.inl ⟨by rfl, ?y8⟩) hS1.out ?_
    case y8 =>
      intro V hV
      have hc : V.cell? ⟨g, 0, none⟩ = some (.string s) := (show GK A g s V from hV).2
      go_simp
    simp only [Act.put, List.setIfInBounds_toArray, List.set_cons_zero, List.set_cons_succ]
    refine wpAnyH_take (i := 9) (oi := { dst := some 43, op := Op.call { callee := Callee.builtin Builtin.len, args := #[Operand.tmp 42], argTypes := #[9] }, type := 3, pos := "read.go:110", after := #[{ on := 8, ground := Ground.data }, { on := 3, ground := Ground.guard }], guard := some (3, false) }) (v := iv (s.size : Int)) rfl (by kernel_rfl) (by kernel_rfl) (by kernel_rfl) (fun _ _ _ h => h.elim) (Or.inl ⟨by rfl, ?y9⟩) hS1.out ?_
    case y9 =>
      intro V hV
      have q2 := HZ.out.2
      go_simp
    simp only [Act.put, List.setIfInBounds_toArray, List.set_cons_zero, List.set_cons_succ]
    refine wpAnyH_take (i := 10) (oi := { dst := some 44, op := Op.move (Operand.tmp 0), type := 54, pos := "read.go:110", after := #[{ on := 3, ground := Ground.guard }], guard := some (3, false) }) (v := .pointer (some ⟨g, 0, none⟩)) rfl (by kernel_rfl) (by kernel_rfl) (by kernel_rfl) (fun _ _ _ h => h.elim) (Or.inl ⟨by rfl, ?y10⟩) hS1.out ?_
    case y10 =>
      intro V hV
      go_simp
    simp only [Act.put, List.setIfInBounds_toArray, List.set_cons_zero, List.set_cons_succ]
    refine wpAnyH_take (i := 11) (oi := { dst := some 45, op := Op.nilCheck (Operand.tmp 44), type := 0, pos := "read.go:110", after := #[{ on := 10, ground := Ground.data }, { on := 3, ground := Ground.guard }], guard := some (3, false) }) (v := .pointer (some ⟨g, 0, none⟩)) rfl (by kernel_rfl) (by kernel_rfl) (by kernel_rfl) (fun _ _ _ h => h.elim) (Or.inl ⟨by rfl, ?y11⟩) hS1.out ?_
    case y11 =>
      intro V hV
      go_simp
    simp only [Act.put, List.setIfInBounds_toArray, List.set_cons_zero, List.set_cons_succ]
    refine wpAnyH_take (i := 12) (oi := { dst := some 46, op := Op.fieldAddr 44 (Operand.tmp 45) 1, type := 0, pos := "read.go:110", after := #[{ on := 11, ground := Ground.data }, { on := 3, ground := Ground.guard }], guard := some (3, false) }) (v := .pointer (some ⟨g, 1, none⟩)) rfl (by kernel_rfl) (by kernel_rfl) (by kernel_rfl) (fun _ _ _ h => h.elim) (Or.inl ⟨by rfl, ?y12⟩) hS1.out ?_
    case y12 =>
      intro V hV
      go_simp
    simp only [Act.put, List.setIfInBounds_toArray, List.set_cons_zero, List.set_cons_succ]
    refine wpAnyH_ready (rs := [13]) (by kernel_rfl) (by simp) (AllReadyH.cons (i := 13) (o := { dst := some 47, op := Op.load 3 (Operand.tmp 46), type := 3, pos := "read.go:110", after := #[{ on := 12, ground := Ground.data }, { on := 3, ground := Ground.guard }], guard := some (3, false) }) rfl ?_ AllReadyH.nil)
    · intro K1 hK1
      rw [if_pos (by rfl)]
      have hc : V1.cell? ⟨g, 1, none⟩ = some (iv (a1 : Int)) := hX1.out.1.cell rfl
      go_wp2
      clear hc
      refine hK1.out _ _ hS1.out ?_
      clear hK1
      intro _
      try simp only [Act.put, List.setIfInBounds_toArray, List.set_cons_zero, List.set_cons_succ]
      refine wpAnyH_take (i := 14) (oi := { dst := some 48, op := Op.binOp BinOp.sub 3 (Operand.tmp 43) (Operand.tmp 47) 3, type := 3, pos := "read.go:110", after := #[{ on := 9, ground := Ground.data }, { on := 13, ground := Ground.data }, { on := 3, ground := Ground.guard }], guard := some (3, false) }) (v := iv ((s.size : Int) - (a1 : Int))) rfl (by kernel_rfl) (by kernel_rfl) (by kernel_rfl) (fun _ _ _ h => h.elim) (Or.inl ⟨by rfl, ?y13⟩) hS1.out ?_
      case y13 =>
        intro V hV
        exact yl_sub V _ _ _ _ rfl rfl rfl HZ.out.2 hX1.out.2.1
      simp only [Act.put, List.setIfInBounds_toArray, List.set_cons_zero, List.set_cons_succ]
      refine wpAnyH_take (i := 15) (oi := { dst := some 49, op := Op.binOp BinOp.gtr 3 (Operand.tmp 38) (Operand.tmp 48) 3, type := 4, pos := "read.go:110", after := #[{ on := 4, ground := Ground.data }, { on := 14, ground := Ground.data }, { on := 3, ground := Ground.guard }], guard := some (3, false) }) (v := .bool (decide ((s.size : Int) - (a1 : Int) < (sz : Int)))) rfl (by kernel_rfl) (by kernel_rfl) (by kernel_rfl) (fun _ _ _ h => h.elim) (Or.inl ⟨by rfl, ?y14⟩) hS1.out ?_
      case y14 =>
        intro V hV
        go_simp
      simp only [Act.put, List.setIfInBounds_toArray, List.set_cons_zero, List.set_cons_succ]
      refine wpAnyH_take (i := 16) (oi := { dst := some 50, op := Op.pick (Operand.tmp 37) (Operand.const (Value.bool true)) (Operand.tmp 49), type := 4, pos := "read.go:110", after := #[{ on := 3, ground := Ground.data }, { on := 15, ground := Ground.data }], guard := none }) (v := .bool (decide ((s.size : Int) - (a1 : Int) < (sz : Int)))) rfl (by kernel_rfl) (by kernel_rfl) (by kernel_rfl) (fun _ _ _ h => h.elim) (Or.inl ⟨by rfl, ?y15⟩) hS1.out ?_
      case y15 =>
        intro V hV
        go_simp
      simp only [Act.put, List.setIfInBounds_toArray, List.set_cons_zero, List.set_cons_succ]
      refine wpAnyH_done (by kernel_rfl) ?_ _
      exact hQ a1 V1 hX1.out
#print axioms bd10y
def GK2 (A : World) (g : Nat) (s : BA) (a : Nat) (V : World) : Prop := A.grownBy V (some g) ∧ V.cell? ⟨g, 0, none⟩ = some (.string s) ∧ V.cell? ⟨g, 1, none⟩ = some (iv (a : Int))
theorem yl_add {o : Oper} {a : Act} (V : World) (x y : Operand) (n k : Nat) (hop : o.op = .binOp .add 3 x y 3) (hx : a.eval x = iv (n : Int)) (hy : a.eval y = iv (k : Int)) (hn : n + k ≤ 140000) : (execOp a.eval o).run Tryd.prog V = .ok (.value (iv ((n + k : Nat) : Int))) V := by
  have q2 : (n : Int) + (k : Int) ≤ 140000 := by omega
  have q3 : IntKind.i64.wrap ((n : Int) + (k : Int)) = ((n + k : Nat) : Int) := by rw [IntKind.wrap_i64]; omega
  unfold execOp
  simp only [hop, hx, hy]
  go_simp
set_option maxRecDepth 100000 in
set_option maxHeartbeats 4000000 in
theorem bd12 {Q : Exit → Act → World → Prop} {x1 x2 x3 x4 x6 x7 x8 x9 x10 x11 x12 x13 x14 x15 x16 x17 x18 x19 x20 x21 x22 x23 x24 x25 x26 x27 x28 x29 x30 x31 x32 x33 x34 x35 x36 x37 x38 x39 x40 x41 x42 x43 x44 x45 x46 x47 x48 x49 x50 x51 x52 x53 x54 x55 x56 x57 x58 x59 x60 x61 x62 x63 x64 x65 x66 x67 x68 x69 x70 x71 x72 x73 x74 x75 x76 x77 x78 x79 : Value} {ds : List Deferred} {A : World} {g a : Nat} {s ty bo : BA} {st : Int} {cl : Bool} {sz : Nat}
    (HB : Hid (Blk A g 44 (rdc s (a : Int) st ty bo cl))) (HZ : Hid ((a + sz ≤ s.size ∧ s.size ≤ 140000) ∧ a + sz ≤ 140000))
    (hQ : ∀ V1, Blk V1 g 44 (rdc s (a : Int) st ty (s.extract a (a + sz)) cl) → A.grownBy V1 (some g) → Q .normal { tmps := #[.pointer (some ⟨g, 0, none⟩), x1, x2, x3, x4, iv (sz : Int), x6, x7, x8, x9, x10, x11, x12, x13, x14, x15, x16, x17, x18, x19, x20, x21, x22, x23, x24, x25, x26, x27, x28, x29, x30, x31, x32, x33, x34, x35, x36, x37, x38, x39, x40, x41, x42, x43, x44, x45, x46, x47, x48, x49, x50, x51, x52, .pointer (some ⟨g, 0, none⟩), .pointer (some ⟨g, 0, none⟩), .pointer (some ⟨g, 0, none⟩), .pointer (some ⟨g, 0, none⟩), .string s, .pointer (some ⟨g, 0, none⟩), .pointer (some ⟨g, 0, none⟩), .pointer (some ⟨g, 1, none⟩), iv (a : Int), .pointer (some ⟨g, 0, none⟩), .pointer (some ⟨g, 0, none⟩), .pointer (some ⟨g, 1, none⟩), iv (a : Int), iv (sz : Int), iv ((a + sz : Nat) : Int), .string (s.extract a (a + sz)), .pointer (some ⟨g, 0, none⟩), .pointer (some ⟨g, 2, none⟩), .pointer (some ⟨g, 4, none⟩), x72, x73, x74, x75, x76, x77, x78, x79], defers := ds } V1) :
    (Code.region 12 #[{ dst := some 53, op := Op.move (Operand.tmp 0), type := 54, pos := "read.go:113", after := #[], guard := none }, { dst := some 54, op := Op.move (Operand.tmp 0), type := 54, pos := "read.go:113", after := #[], guard := none }, { dst := some 55, op := Op.nilCheck (Operand.tmp 54), type := 0, pos := "read.go:113", after := #[{ on := 1, ground := Ground.data }], guard := none }, { dst := some 56, op := Op.fieldAddr 44 (Operand.tmp 55) 0, type := 0, pos := "read.go:113", after := #[{ on := 2, ground := Ground.data }], guard := none }, { dst := some 57, op := Op.load 9 (Operand.tmp 56), type := 9, pos := "read.go:113", after := #[{ on := 3, ground := Ground.data }], guard := none }, { dst := some 58, op := Op.move (Operand.tmp 0), type := 54, pos := "read.go:113", after := #[], guard := none }, { dst := some 59, op := Op.nilCheck (Operand.tmp 58), type := 0, pos := "read.go:113", after := #[{ on := 5, ground := Ground.data }], guard := none }, { dst := some 60, op := Op.fieldAddr 44 (Operand.tmp 59) 1, type := 0, pos := "read.go:113", after := #[{ on := 6, ground := Ground.data }], guard := none }, { dst := some 61, op := Op.load 3 (Operand.tmp 60), type := 3, pos := "read.go:113", after := #[{ on := 7, ground := Ground.data }], guard := none }, { dst := some 62, op := Op.move (Operand.tmp 0), type := 54, pos := "read.go:113", after := #[], guard := none }, { dst := some 63, op := Op.nilCheck (Operand.tmp 62), type := 0, pos := "read.go:113", after := #[{ on := 9, ground := Ground.data }], guard := none }, { dst := some 64, op := Op.fieldAddr 44 (Operand.tmp 63) 1, type := 0, pos := "read.go:113", after := #[{ on := 10, ground := Ground.data }], guard := none }, { dst := some 65, op := Op.load 3 (Operand.tmp 64), type := 3, pos := "read.go:113", after := #[{ on := 11, ground := Ground.data }], guard := none }, { dst := some 66, op := Op.move (Operand.tmp 5), type := 3, pos := "read.go:113", after := #[], guard := none }, { dst := some 67, op := Op.binOp BinOp.add 3 (Operand.tmp 65) (Operand.tmp 66) 3, type := 3, pos := "read.go:113", after := #[{ on := 12, ground := Ground.data }, { on := 13, ground := Ground.data }], guard := none }, { dst := some 68, op := Op.slice 9 (Operand.tmp 57) (some (Operand.tmp 61)) (some (Operand.tmp 67)) none, type := 9, pos := "read.go:113", after := #[{ on := 4, ground := Ground.data }, { on := 8, ground := Ground.data }, { on := 14, ground := Ground.data }], guard := none }, { dst := some 69, op := Op.nilCheck (Operand.tmp 53), type := 0, pos := "read.go:113", after := #[{ on := 0, ground := Ground.data }, { on := 0, ground := Ground.phase }, { on := 1, ground := Ground.phase }, { on := 2, ground := Ground.phase }, { on := 3, ground := Ground.phase }, { on := 4, ground := Ground.phase }, { on := 5, ground := Ground.phase }, { on := 6, ground := Ground.phase }, { on := 7, ground := Ground.phase }, { on := 8, ground := Ground.phase }, { on := 9, ground := Ground.phase }, { on := 10, ground := Ground.phase }, { on := 11, ground := Ground.phase }, { on := 12, ground := Ground.phase }, { on := 13, ground := Ground.phase }, { on := 14, ground := Ground.phase }, { on := 15, ground := Ground.phase }], guard := none }, { dst := some 70, op := Op.fieldAddr 44 (Operand.tmp 69) 2, type := 0, pos := "read.go:113", after := #[{ on := 16, ground := Ground.data }, { on := 0, ground := Ground.phase }, { on := 1, ground := Ground.phase }, { on := 2, ground := Ground.phase }, { on := 3, ground := Ground.phase }, { on := 4, ground := Ground.phase }, { on := 5, ground := Ground.phase }, { on := 6, ground := Ground.phase }, { on := 7, ground := Ground.phase }, { on := 8, ground := Ground.phase }, { on := 9, ground := Ground.phase }, { on := 10, ground := Ground.phase }, { on := 11, ground := Ground.phase }, { on := 12, ground := Ground.phase }, { on := 13, ground := Ground.phase }, { on := 14, ground := Ground.phase }, { on := 15, ground := Ground.phase }], guard := none }, { dst := some 71, op := Op.fieldAddr 23 (Operand.tmp 70) 2, type := 0, pos := "read.go:113", after := #[{ on := 17, ground := Ground.data }, { on := 0, ground := Ground.phase }, { on := 1, ground := Ground.phase }, { on := 2, ground := Ground.phase }, { on := 3, ground := Ground.phase }, { on := 4, ground := Ground.phase }, { on := 5, ground := Ground.phase }, { on := 6, ground := Ground.phase }, { on := 7, ground := Ground.phase }, { on := 8, ground := Ground.phase }, { on := 9, ground := Ground.phase }, { on := 10, ground := Ground.phase }, { on := 11, ground := Ground.phase }, { on := 12, ground := Ground.phase }, { on := 13, ground := Ground.phase }, { on := 14, ground := Ground.phase }, { on := 15, ground := Ground.phase }], guard := none }, { dst := none, op := Op.store 9 (Operand.tmp 71) (Operand.tmp 68), type := 0, pos := "read.go:113", after := #[{ on := 18, ground := Ground.data }, { on := 15, ground := Ground.data }, { on := 0, ground := Ground.phase }, { on := 1, ground := Ground.phase }, { on := 2, ground := Ground.phase }, { on := 3, ground := Ground.phase }, { on := 4, ground := Ground.phase }, { on := 5, ground := Ground.phase }, { on := 6, ground := Ground.phase }, { on := 7, ground := Ground.phase }, { on := 8, ground := Ground.phase }, { on := 9, ground := Ground.phase }, { on := 10, ground := Ground.phase }, { on := 11, ground := Ground.phase }, { on := 12, ground := Ground.phase }, { on := 13, ground := Ground.phase }, { on := 14, ground := Ground.phase }, { on := 15, ground := Ground.phase }], guard := none }] true).wp Tryd.prog Q { tmps := #[.pointer (some ⟨g, 0, none⟩), x1, x2, x3, x4, iv (sz : Int), x6, x7, x8, x9, x10, x11, x12, x13, x14, x15, x16, x17, x18, x19, x20, x21, x22, x23, x24, x25, x26, x27, x28, x29, x30, x31, x32, x33, x34, x35, x36, x37, x38, x39, x40, x41, x42, x43, x44, x45, x46, x47, x48, x49, x50, x51, x52, x53, x54, x55, x56, x57, x58, x59, x60, x61, x62, x63, x64, x65, x66, x67, x68, x69, x70, x71, x72, x73, x74, x75, x76, x77, x78, x79], defers := ds } A := by
  refine Code.wp_mono (Q := fun x a' w' => match x with | .normal => Q .normal a' w' | _ => False) (by intro x a' w' h; cases x <;> first | exact h | exact h.elim) ?_
  refine wp_region_held (S := fun V => GK2 A g s a V) (by kernel_rfl) ?_
  have hS0 : Hid (GK2 A g s a A.drew) := ⟨⟨rfl, rfl, rfl, Nat.le_refl _, fun _ _ _ => rfl⟩, HB.out.cell rfl, HB.out.cell rfl⟩
  change wpAnyH Tryd.prog .any _ _ (fun V => GK2 A g s a V) 20 (Array.replicate 20 false) _ A.drew
  obtain ⟨V0, hV0⟩ : ∃ V0, A.drew = V0 := ⟨_, rfl⟩
  rw [hV0]
  rw [hV0] at hS0
  have hX0 : Hid (Blk V0 g 44 (rdc s (a : Int) st ty bo cl)) := by rw [← hV0]; exact HB.out
  clear hV0
  refine wpAnyH_take (i := 0) (oi := { dst := some 53, op := Op.move (Operand.tmp 0), type := 54, pos := "read.go:113", after := #[], guard := none }) (v := .pointer (some ⟨g, 0, none⟩)) rfl (by kernel_rfl) (by kernel_rfl) (by kernel_rfl) (fun _ _ _ h => h.elim) (Or.inl ⟨by rfl, ?y1⟩) hS0.out ?_
  case y1 =>
    intro V hV
    go_simp
  simp only [Act.put, List.setIfInBounds_toArray, List.set_cons_zero, List.set_cons_succ]
  refine wpAnyH_take (i := 1) (oi := { dst := some 54, op := Op.move (Operand.tmp 0), type := 54, pos := "read.go:113", after := #[], guard := none }) (v := .pointer (some ⟨g, 0, none⟩)) rfl (by kernel_rfl) (by kernel_rfl) (by kernel_rfl) (fun _ _ _ h => h.elim) (Or.inl ⟨by rfl, ?y2⟩) hS0.out ?_
  case y2 =>
    intro V hV
    go_simp
  simp only [Act.put, List.setIfInBounds_toArray, List.set_cons_zero, List.set_cons_succ]
  refine wpAnyH_take (i := 2) (oi := { dst := some 55, op := Op.nilCheck (Operand.tmp 54), type := 0, pos := "read.go:113", after := #[{ on := 1, ground := Ground.data }], guard := none }) (v := .pointer (some ⟨g, 0, none⟩)) rfl (by kernel_rfl) (by kernel_rfl) (by kernel_rfl) (fun _ _ _ h => h.elim) (Or.inl ⟨by rfl, ?y3⟩) hS0.out ?_
  case y3 =>
    intro V hV
    go_simp
  simp only [Act.put, List.setIfInBounds_toArray, List.set_cons_zero, List.set_cons_succ]
  refine wpAnyH_take (i := 3) (oi := { dst := some 56, op := Op.fieldAddr 44 (Operand.tmp 55) 0, type := 0, pos := "read.go:113", after := #[{ on := 2, ground := Ground.data }], guard := none }) (v := .pointer (some ⟨g, 0, none⟩)) rfl (by kernel_rfl) (by kernel_rfl) (by kernel_rfl) (fun _ _ _ h => h.elim) (Or.inl ⟨by rfl, ?y4⟩) hS0.out ?_
  case y4 =>
    intro V hV
    go_simp
  simp only [Act.put, List.setIfInBounds_toArray, List.set_cons_zero, List.set_cons_succ]
  refine wpAnyH_take (i := 4) (oi := { dst := some 57, op := Op.load 9 (Operand.tmp 56), type := 9, pos := "read.go:113", after := #[{ on := 3, ground := Ground.data }], guard := none }) (v := .string s) rfl (by kernel_rfl) (by kernel_rfl) (by kernel_rfl) (fun _ _ _ h => h.elim) (Or.inl ⟨by rfl, ?y5⟩) hS0.out ?_
  case y5 =>
    intro V hV
    have hc : V.cell? ⟨g, 0, none⟩ = some (.string s) := (show GK2 A g s a V from hV).2.1
    go_simp
  simp only [Act.put, List.setIfInBounds_toArray, List.set_cons_zero, List.set_cons_succ]
  refine wpAnyH_take (i := 5) (oi := { dst := some 58, op := Op.move (Operand.tmp 0), type := 54, pos := "read.go:113", after := #[], guard := none }) (v := .pointer (some ⟨g, 0, none⟩)) rfl (by kernel_rfl) (by kernel_rfl) (by kernel_rfl) (fun _ _ _ h => h.elim) (Or.inl ⟨by rfl, ?y6⟩) hS0.out ?_
  case y6 =>
    intro V hV
    go_simp
  simp only [Act.put, List.setIfInBounds_toArray, List.set_cons_zero, List.set_cons_succ]
  refine wpAnyH_take (i := 6) (oi := { dst := some 59, op := Op.nilCheck (Operand.tmp 58), type := 0, pos := "read.go:113", after := #[{ on := 5, ground := Ground.data }], guard := none }) (v := .pointer (some ⟨g, 0, none⟩)) rfl (by kernel_rfl) (by kernel_rfl) (by kernel_rfl) (fun _ _ _ h => h.elim) (Or.inl ⟨by rfl, ?y7⟩) hS0.out ?_
  case y7 =>
    intro V hV
    go_simp
  simp only [Act.put, List.setIfInBounds_toArray, List.set_cons_zero, List.set_cons_succ]
  refine wpAnyH_take (i := 7) (oi := { dst := some 60, op := Op.fieldAddr 44 (Operand.tmp 59) 1, type := 0, pos := "read.go:113", after := #[{ on := 6, ground := Ground.data }], guard := none }) (v := .pointer (some ⟨g, 1, none⟩)) rfl (by kernel_rfl) (by kernel_rfl) (by kernel_rfl) (fun _ _ _ h => h.elim) (Or.inl ⟨by rfl, ?y8⟩) hS0.out ?_
  case y8 =>
    intro V hV
    go_simp
  simp only [Act.put, List.setIfInBounds_toArray, List.set_cons_zero, List.set_cons_succ]
  refine wpAnyH_take (i := 8) (oi := { dst := some 61, op := Op.load 3 (Operand.tmp 60), type := 3, pos := "read.go:113", after := #[{ on := 7, ground := Ground.data }], guard := none }) (v := iv (a : Int)) rfl (by kernel_rfl) (by kernel_rfl) (by kernel_rfl) (fun _ _ _ h => h.elim) (Or.inl ⟨by rfl, ?y9⟩) hS0.out ?_
  case y9 =>
    intro V hV
    have hc : V.cell? ⟨g, 1, none⟩ = some (iv (a : Int)) := (show GK2 A g s a V from hV).2.2
    go_simp
  simp only [Act.put, List.setIfInBounds_toArray, List.set_cons_zero, List.set_cons_succ]
  refine wpAnyH_take (i := 9) (oi := { dst := some 62, op := Op.move (Operand.tmp 0), type := 54, pos := "read.go:113", after := #[], guard := none }) (v := .pointer (some ⟨g, 0, none⟩)) rfl (by kernel_rfl) (by kernel_rfl) (by kernel_rfl) (fun _ _ _ h => h.elim) (Or.inl ⟨by rfl, ?y10⟩) hS0.out ?_
  case y10 =>
    intro V hV
    go_simp
  simp only [Act.put, List.setIfInBounds_toArray, List.set_cons_zero, List.set_cons_succ]
  refine wpAnyH_take (i := 10) (oi := { dst := some 63, op := Op.nilCheck (Operand.tmp 62), type := 0, pos := "read.go:113", after := #[{ on := 9, ground := Ground.data }], guard := none }) (v := .pointer (some ⟨g, 0, none⟩)) rfl (by kernel_rfl) (by kernel_rfl) (by kernel_rfl) (fun _ _ _ h => h.elim) (Or.inl ⟨by rfl, ?y11⟩) hS0.out ?_
  case y11 =>
    intro V hV
    go_simp
  simp only [Act.put, List.setIfInBounds_toArray, List.set_cons_zero, List.set_cons_succ]
  refine wpAnyH_take (i := 11) (oi := { dst := some 64, op := Op.fieldAddr 44 (Operand.tmp 63) 1, type := 0, pos := "read.go:113", after := #[{ on := 10, ground := Ground.data }], guard := none }) (v := .pointer (some ⟨g, 1, none⟩)) rfl (by kernel_rfl) (by kernel_rfl) (by kernel_rfl) (fun _ _ _ h => h.elim) (Or.inl ⟨by rfl, ?y12⟩) hS0.out ?_
  case y12 =>
    intro V hV
    go_simp
  simp only [Act.put, List.setIfInBounds_toArray, List.set_cons_zero, List.set_cons_succ]
  refine wpAnyH_take (i := 12) (oi := { dst := some 65, op := Op.load 3 (Operand.tmp 64), type := 3, pos := "read.go:113", after := #[{ on := 11, ground := Ground.data }], guard := none }) (v := iv (a : Int)) rfl (by kernel_rfl) (by kernel_rfl) (by kernel_rfl) (fun _ _ _ h => h.elim) (Or.inl ⟨by rfl, ?y13⟩) hS0.out ?_
  case y13 =>
    intro V hV
    have hc : V.cell? ⟨g, 1, none⟩ = some (iv (a : Int)) := (show GK2 A g s a V from hV).2.2
    go_simp
  simp only [Act.put, List.setIfInBounds_toArray, List.set_cons_zero, List.set_cons_succ]
  refine wpAnyH_take (i := 13) (oi := { dst := some 66, op := Op.move (Operand.tmp 5), type := 3, pos := "read.go:113", after := #[], guard := none }) (v := iv (sz : Int)) rfl (by kernel_rfl) (by kernel_rfl) (by kernel_rfl) (fun _ _ _ h => h.elim) (Or.inl ⟨by rfl, ?y14⟩) hS0.out ?_
  case y14 =>
    intro V hV
    go_simp
  simp only [Act.put, List.setIfInBounds_toArray, List.set_cons_zero, List.set_cons_succ]
  refine wpAnyH_take (i := 14) (oi := { dst := some 67, op := Op.binOp BinOp.add 3 (Operand.tmp 65) (Operand.tmp 66) 3, type := 3, pos := "read.go:113", after := #[{ on := 12, ground := Ground.data }, { on := 13, ground := Ground.data }], guard := none }) (v := iv ((a + sz : Nat) : Int)) rfl (by kernel_rfl) (by kernel_rfl) (by kernel_rfl) (fun _ _ _ h => h.elim) (Or.inl ⟨by rfl, ?y15⟩) hS0.out ?_
  case y15 =>
    intro V hV
    exact yl_add V _ _ _ _ rfl rfl rfl HZ.out.2
  simp only [Act.put, List.setIfInBounds_toArray, List.set_cons_zero, List.set_cons_succ]
  refine wpAnyH_take (i := 15) (oi := { dst := some 68, op := Op.slice 9 (Operand.tmp 57) (some (Operand.tmp 61)) (some (Operand.tmp 67)) none, type := 9, pos := "read.go:113", after := #[{ on := 4, ground := Ground.data }, { on := 8, ground := Ground.data }, { on := 14, ground := Ground.data }], guard := none }) (v := .string (s.extract a (a + sz))) rfl (by kernel_rfl) (by kernel_rfl) (by kernel_rfl) (fun _ _ _ h => h.elim) (Or.inl ⟨by rfl, ?y16⟩) hS0.out ?_
  case y16 =>
    intro V hV
    exact yl_mid V _ _ _ _ _ _ rfl rfl rfl rfl (Nat.le_add_right _ _) HZ.out.1.1 (Nat.le_trans HZ.out.1.2 (by decide))
  simp only [Act.put, List.setIfInBounds_toArray, List.set_cons_zero, List.set_cons_succ]
  refine wpAnyH_take (i := 16) (oi := { dst := some 69, op := Op.nilCheck (Operand.tmp 53), type := 0, pos := "read.go:113", after := #[{ on := 0, ground := Ground.data }, { on := 0, ground := Ground.phase }, { on := 1, ground := Ground.phase }, { on := 2, ground := Ground.phase }, { on := 3, ground := Ground.phase }, { on := 4, ground := Ground.phase }, { on := 5, ground := Ground.phase }, { on := 6, ground := Ground.phase }, { on := 7, ground := Ground.phase }, { on := 8, ground := Ground.phase }, { on := 9, ground := Ground.phase }, { on := 10, ground := Ground.phase }, { on := 11, ground := Ground.phase }, { on := 12, ground := Ground.phase }, { on := 13, ground := Ground.phase }, { on := 14, ground := Ground.phase }, { on := 15, ground := Ground.phase }], guard := none }) (v := .pointer (some ⟨g, 0, none⟩)) rfl (by kernel_rfl) (by kernel_rfl) (by kernel_rfl) (fun _ _ _ h => h.elim) (Or.inl ⟨by rfl, ?y17⟩) hS0.out ?_
  case y17 =>
    intro V hV
    go_simp
  simp only [Act.put, List.setIfInBounds_toArray, List.set_cons_zero, List.set_cons_succ]
  refine wpAnyH_take (i := 17) (oi := { dst := some 70, op := Op.fieldAddr 44 (Operand.tmp 69) 2, type := 0, pos := "read.go:113", after := #[{ on := 16, ground := Ground.data }, { on := 0, ground := Ground.phase }, { on := 1, ground := Ground.phase }, { on := 2, ground := Ground.phase }, { on := 3, ground := Ground.phase }, { on := 4, ground := Ground.phase }, { on := 5, ground := Ground.phase }, { on := 6, ground := Ground.phase }, { on := 7, ground := Ground.phase }, { on := 8, ground := Ground.phase }, { on := 9, ground := Ground.phase }, { on := 10, ground := Ground.phase }, { on := 11, ground := Ground.phase }, { on := 12, ground := Ground.phase }, { on := 13, ground := Ground.phase }, { on := 14, ground := Ground.phase }, { on := 15, ground := Ground.phase }], guard := none }) (v := .pointer (some ⟨g, 2, none⟩)) rfl (by kernel_rfl) (by kernel_rfl) (by kernel_rfl) (fun _ _ _ h => h.elim) (Or.inl ⟨by rfl, ?y18⟩) hS0.out ?_
  case y18 =>
    intro V hV
    go_simp
  simp only [Act.put, List.setIfInBounds_toArray, List.set_cons_zero, List.set_cons_succ]
  refine wpAnyH_take (i := 18) (oi := { dst := some 71, op := Op.fieldAddr 23 (Operand.tmp 70) 2, type := 0, pos := "read.go:113", after := #[{ on := 17, ground := Ground.data }, { on := 0, ground := Ground.phase }, { on := 1, ground := Ground.phase }, { on := 2, ground := Ground.phase }, { on := 3, ground := Ground.phase }, { on := 4, ground := Ground.phase }, { on := 5, ground := Ground.phase }, { on := 6, ground := Ground.phase }, { on := 7, ground := Ground.phase }, { on := 8, ground := Ground.phase }, { on := 9, ground := Ground.phase }, { on := 10, ground := Ground.phase }, { on := 11, ground := Ground.phase }, { on := 12, ground := Ground.phase }, { on := 13, ground := Ground.phase }, { on := 14, ground := Ground.phase }, { on := 15, ground := Ground.phase }], guard := none }) (v := .pointer (some ⟨g, 4, none⟩)) rfl (by kernel_rfl) (by kernel_rfl) (by kernel_rfl) (fun _ _ _ h => h.elim) (Or.inl ⟨by rfl, ?y19⟩) hS0.out ?_
  case y19 =>
    intro V hV
    go_simp
  simp only [Act.put, List.setIfInBounds_toArray, List.set_cons_zero, List.set_cons_succ]
  refine wpAnyH_ready (rs := [19]) (by kernel_rfl) (by simp) (AllReadyH.cons (i := 19) (o := { dst := none, op := Op.store 9 (Operand.tmp 71) (Operand.tmp 68), type := 0, pos := "read.go:113", after := #[{ on := 18, ground := Ground.data }, { on := 15, ground := Ground.data }, { on := 0, ground := Ground.phase }, { on := 1, ground := Ground.phase }, { on := 2, ground := Ground.phase }, { on := 3, ground := Ground.phase }, { on := 4, ground := Ground.phase }, { on := 5, ground := Ground.phase }, { on := 6, ground := Ground.phase }, { on := 7, ground := Ground.phase }, { on := 8, ground := Ground.phase }, { on := 9, ground := Ground.phase }, { on := 10, ground := Ground.phase }, { on := 11, ground := Ground.phase }, { on := 12, ground := Ground.phase }, { on := 13, ground := Ground.phase }, { on := 14, ground := Ground.phase }, { on := 15, ground := Ground.phase }], guard := none }) rfl ?_ AllReadyH.nil)
  · intro K1 hK1
    rw [if_pos (by rfl)]
    have hc : V0.cell? ⟨g, 4, none⟩ = some (.string bo) := hX0.out.cell rfl
    have hf : V0.frozen? ⟨g, 4, none⟩ = false := hX0.out.free 4
    go_wp2
    clear hc hf
    obtain ⟨V1, hv1⟩ : ∃ X, V0.setCell ⟨g, 4, none⟩ (.string (s.extract a (a + sz))) = X := ⟨_, rfl⟩
    have hX1 : Hid (Blk V1 g 44 (rdc s (a : Int) st ty (s.extract a (a + sz)) cl)) := by show Blk _ _ _ _; rw [← hv1]; exact hX0.out.set 4 _
    have hS1 : Hid (GK2 A g s a V1) := ⟨by rw [← hv1]; exact grown_tr hS0.out.1 (grown_setCell _ _ _ _), hX1.out.cell rfl, hX1.out.cell rfl⟩
    rw [hv1]
    clear hv1
    refine hK1.out _ _ hS1.out ?_
    clear hK1
    intro _
    try simp only [Act.put, List.setIfInBounds_toArray, List.set_cons_zero, List.set_cons_succ]
    refine wpAnyH_done (by kernel_rfl) ?_ _
    exact hQ V1 hX1.out hS1.out.1
#print axioms bd12
end Go.Proofs.YtkpepfeiimphpaaDoor.Oct
