/-
  Layer 7 (tree): the statement of the closure of 'from' that hands out a pair, whatever its order.
-/
import Derived.Test.YtnagknlfboadkaaMap
import Derived.Test.YtnagknlfboadkaaHeld
import Derived.RangeFuncSeq
import Derived.RangeFuncNested
import Derived.RangeFuncCalls
namespace Go.Proofs.Ytnagknlfboadkaa.Oct
open Go.RowKit
attribute [local go_sem] Oper.semAt_some
set_option maxRecDepth 100000 in
set_option maxHeartbeats 2000000 in
theorem reg11 {Q : Exit → Act → World → Prop} {y0 y2 y4 y5 y7 y8 y9 y10 y11 y12 y13 y14 y15 y16 y17 y18 y19 y20 y21 y22 y23 y24 y25 y26 y27 y28 y29 y30 y31 y32 y33 y34 y35 y36 y37 y38 y39 y40 y41 y42 y43 y44 y45 y46 y47 y48 y49 y50 y51 y52 y53 y54 y55 y56 y57 y58 y59 y60 y61 y62 y63 y64 y65 y66 y67 y68 y69 y70 y71 y72 y73 : Value} {ds : List Deferred} {A : World} {dd l1 m₀ Bn nd g off n cap i : Nat} {x1 x2 : ByteArray} {R : Ending → World → Prop}
    (cy : A.cell? ⟨m₀, 0, none⟩ = some (.func (.yield l1) #[] #[])) (cn : A.cell? ⟨Bn, 0, none⟩ = some (.pointer (some ⟨nd, 0, none⟩))) (c0 : A.cell? ⟨nd, 0, none⟩ = some (.slice (some ⟨g, off, none⟩) n cap)) (e0 : A.cell? ⟨g, off + i * 2, none⟩ = some (.string x1)) (e1 : A.cell? ⟨g, off + i * 2 + 1, none⟩ = some (.string x2)) (hi : (i : Int) < (n : Int))
    (hY : YieldAt Fence.wide (dd - 1) Try.prog l1 #[.string x1, .string x2] A.drew R)
    (hR : ∀ e B, R e B → ∃ v : Bool, e = .returned (.bool v) ∧ B.cell? ⟨m₀, 0, none⟩ = some (.func (.yield l1) #[] #[]) ∧ B.cell? ⟨Bn, 0, none⟩ = some (.pointer (some ⟨nd, 0, none⟩)) ∧ B.cell? ⟨nd, 0, none⟩ = some (.slice (some ⟨g, off, none⟩) n cap) ∧ B.cell? ⟨g, off + i * 2, none⟩ = some (.string x1) ∧ B.cell? ⟨g, off + i * 2 + 1, none⟩ = some (.string x2))
    (hQ : ∀ v B, R (.returned (.bool v)) B → Q .normal { tmps := #[y0, .pointer (some ⟨Bn, 0, none⟩), y2, .pointer (some ⟨m₀, 0, none⟩), y4, y5, .int .i64 (i : Int), y7, y8, y9, y10, y11, y12, y13, y14, y15, y16, y17, y18, y19, y20, y21, y22, y23, y24, y25, y26, y27, y28, y29, y30, y31, y32, y33, y34, y35, y36, y37, y38, y39, y40, y41, y42, y43, y44, y45, .int .i64 (i : Int), .pointer (some ⟨nd, 0, none⟩), .pointer (some ⟨nd, 0, none⟩), .pointer (some ⟨nd, 0, none⟩), .slice (some ⟨g, off, none⟩) n cap, .int .i64 (n : Int), .bool true, .bool true, .func (.yield l1) #[] #[], .pointer (some ⟨nd, 0, none⟩), .pointer (some ⟨nd, 0, none⟩), .pointer (some ⟨nd, 0, none⟩), .slice (some ⟨g, off, none⟩) n cap, .int .i64 (i : Int), .pointer (some ⟨g, off + i * 2, none⟩), .pointer (some ⟨g, off + i * 2, none⟩), .string x1, .pointer (some ⟨nd, 0, none⟩), .pointer (some ⟨nd, 0, none⟩), .pointer (some ⟨nd, 0, none⟩), .slice (some ⟨g, off, none⟩) n cap, .int .i64 (i : Int), .pointer (some ⟨g, off + i * 2, none⟩), .pointer (some ⟨g, off + i * 2 + 1, none⟩), .string x2, .bool v, .bool (!v), .bool (!v)], defers := ds } B) :
    (Code.region 11 #[{ dst := some 46, op := Op.move (Operand.tmp 6), type := 3, pos := "node.go:78", after := #[], guard := none }, { dst := some 47, op := Op.load 46 (Operand.tmp 1), type := 46, pos := "node.go:78", after := #[], guard := none }, { dst := some 48, op := Op.nilCheck (Operand.tmp 47), type := 0, pos := "node.go:78", after := #[{ on := 1, ground := Ground.data }], guard := none }, { dst := some 49, op := Op.fieldAddr 67 (Operand.tmp 48) 0, type := 0, pos := "node.go:78", after := #[{ on := 2, ground := Ground.data }], guard := none }, { dst := some 50, op := Op.load 27 (Operand.tmp 49), type := 27, pos := "node.go:78", after := #[{ on := 3, ground := Ground.data }], guard := none }, { dst := some 51, op := Op.call { callee := Callee.builtin Builtin.len, args := #[Operand.tmp 50], argTypes := #[27] }, type := 3, pos := "node.go:78", after := #[{ on := 4, ground := Ground.data }], guard := none }, { dst := some 52, op := Op.binOp BinOp.lss 3 (Operand.tmp 46) (Operand.tmp 51) 3, type := 4, pos := "node.go:78", after := #[{ on := 0, ground := Ground.data }, { on := 5, ground := Ground.data }], guard := none }, { dst := some 53, op := Op.move (Operand.tmp 52), type := 4, pos := "node.go:78", after := #[{ on := 6, ground := Ground.data }], guard := none }, { dst := some 54, op := Op.load 42 (Operand.tmp 3), type := 42, pos := "node.go:78", after := #[{ on := 7, ground := Ground.guard }], guard := some (7, true) }, { dst := some 55, op := Op.load 46 (Operand.tmp 1), type := 46, pos := "node.go:78", after := #[{ on := 7, ground := Ground.guard }], guard := some (7, true) }, { dst := some 56, op := Op.nilCheck (Operand.tmp 55), type := 0, pos := "node.go:78", after := #[{ on := 9, ground := Ground.data }, { on := 7, ground := Ground.guard }], guard := some (7, true) }, { dst := some 57, op := Op.fieldAddr 67 (Operand.tmp 56) 0, type := 0, pos := "node.go:78", after := #[{ on := 10, ground := Ground.data }, { on := 7, ground := Ground.guard }], guard := some (7, true) }, { dst := some 58, op := Op.load 27 (Operand.tmp 57), type := 27, pos := "node.go:78", after := #[{ on := 11, ground := Ground.data }, { on := 7, ground := Ground.guard }], guard := some (7, true) }, { dst := some 59, op := Op.move (Operand.tmp 6), type := 3, pos := "node.go:78", after := #[{ on := 7, ground := Ground.guard }], guard := some (7, true) }, { dst := some 60, op := Op.indexAddr 27 (Operand.tmp 58) (Operand.tmp 59), type := 0, pos := "node.go:78", after := #[{ on := 12, ground := Ground.data }, { on := 13, ground := Ground.data }, { on := 7, ground := Ground.guard }], guard := some (7, true) }, { dst := some 61, op := Op.fieldAddr 40 (Operand.tmp 60) 0, type := 0, pos := "node.go:78", after := #[{ on := 14, ground := Ground.data }, { on := 7, ground := Ground.guard }], guard := some (7, true) }, { dst := some 62, op := Op.load 9 (Operand.tmp 61), type := 9, pos := "node.go:78", after := #[{ on := 15, ground := Ground.data }, { on := 7, ground := Ground.guard }], guard := some (7, true) }, { dst := some 63, op := Op.load 46 (Operand.tmp 1), type := 46, pos := "node.go:78", after := #[{ on := 7, ground := Ground.guard }], guard := some (7, true) }, { dst := some 64, op := Op.nilCheck (Operand.tmp 63), type := 0, pos := "node.go:78", after := #[{ on := 17, ground := Ground.data }, { on := 7, ground := Ground.guard }], guard := some (7, true) }, { dst := some 65, op := Op.fieldAddr 67 (Operand.tmp 64) 0, type := 0, pos := "node.go:78", after := #[{ on := 18, ground := Ground.data }, { on := 7, ground := Ground.guard }], guard := some (7, true) }, { dst := some 66, op := Op.load 27 (Operand.tmp 65), type := 27, pos := "node.go:78", after := #[{ on := 19, ground := Ground.data }, { on := 7, ground := Ground.guard }], guard := some (7, true) }, { dst := some 67, op := Op.move (Operand.tmp 6), type := 3, pos := "node.go:78", after := #[{ on := 7, ground := Ground.guard }], guard := some (7, true) }, { dst := some 68, op := Op.indexAddr 27 (Operand.tmp 66) (Operand.tmp 67), type := 0, pos := "node.go:78", after := #[{ on := 20, ground := Ground.data }, { on := 21, ground := Ground.data }, { on := 7, ground := Ground.guard }], guard := some (7, true) }, { dst := some 69, op := Op.fieldAddr 40 (Operand.tmp 68) 1, type := 0, pos := "node.go:78", after := #[{ on := 22, ground := Ground.data }, { on := 7, ground := Ground.guard }], guard := some (7, true) }, { dst := some 70, op := Op.load 9 (Operand.tmp 69), type := 9, pos := "node.go:78", after := #[{ on := 23, ground := Ground.data }, { on := 7, ground := Ground.guard }], guard := some (7, true) }, { dst := some 71, op := Op.call { callee := Callee.value (Operand.tmp 54), args := #[Operand.tmp 62, Operand.tmp 70], argTypes := #[9, 9] }, type := 4, pos := "node.go:78", after := #[{ on := 8, ground := Ground.data }, { on := 16, ground := Ground.data }, { on := 24, ground := Ground.data }, { on := 7, ground := Ground.chain }, { on := 7, ground := Ground.guard }], guard := some (7, true) }, { dst := some 72, op := Op.unOp UnOp.not 4 (Operand.tmp 71), type := 4, pos := "node.go:78", after := #[{ on := 25, ground := Ground.data }, { on := 7, ground := Ground.guard }], guard := some (7, true) }, { dst := some 73, op := Op.pick (Operand.tmp 53) (Operand.tmp 72) (Operand.const (Value.bool false)), type := 4, pos := "node.go:78", after := #[{ on := 7, ground := Ground.data }, { on := 26, ground := Ground.data }], guard := none }] true).wpIn Fence.wide dd Try.prog Q { tmps := #[y0, .pointer (some ⟨Bn, 0, none⟩), y2, .pointer (some ⟨m₀, 0, none⟩), y4, y5, .int .i64 (i : Int), y7, y8, y9, y10, y11, y12, y13, y14, y15, y16, y17, y18, y19, y20, y21, y22, y23, y24, y25, y26, y27, y28, y29, y30, y31, y32, y33, y34, y35, y36, y37, y38, y39, y40, y41, y42, y43, y44, y45, y46, y47, y48, y49, y50, y51, y52, y53, y54, y55, y56, y57, y58, y59, y60, y61, y62, y63, y64, y65, y66, y67, y68, y69, y70, y71, y72, y73], defers := ds } A := by
  refine wpIn_mono (Q := fun x a' w' => match x with | .normal => Q .normal a' w' | _ => False) ?_ (by intro x a' w' h; cases x <;> first | exact h | exact h.elim)
  obtain ⟨S, hSd⟩ : ∃ S : World → Prop, S = fun W => W.cell? ⟨m₀, 0, none⟩ = some (.func (.yield l1) #[] #[]) ∧ W.cell? ⟨Bn, 0, none⟩ = some (.pointer (some ⟨nd, 0, none⟩)) ∧ W.cell? ⟨nd, 0, none⟩ = some (.slice (some ⟨g, off, none⟩) n cap) ∧ W.cell? ⟨g, off + i * 2, none⟩ = some (.string x1) ∧ W.cell? ⟨g, off + i * 2 + 1, none⟩ = some (.string x2) := ⟨_, rfl⟩
  refine region_S (S := S) (by kernel_rfl) ?_
  have hS : S A.drew := by rw [hSd]; exact ⟨cy, cn, c0, e0, e1⟩
  obtain ⟨fn, tms, asg, bdy, hy, hRd⟩ := hY
  have hi2 : i < n := by omega
  change anyS Fence.wide dd Try.prog .any _ _ S 28 (Array.replicate 28 false) _ A.drew
  refine anyS_take (i := 0) (oi := { dst := some 46, op := Op.move (Operand.tmp 6), type := 3, pos := "node.go:78", after := #[], guard := none }) (v := .int .i64 (i : Int)) rfl rfl (by kernel_rfl) (by kernel_rfl) (by kernel_rfl) (fun _ _ _ h => h.elim) ⟨Or.inl ⟨by rfl, ?z0⟩, fun _ => rfl⟩ hS ?_
  case z0 =>
    intro W hW
    rw [hSd] at hW; obtain ⟨s1, s2, s3, s4, s5⟩ := hW
    go_simp
  simp only [Act.put, List.setIfInBounds_toArray, List.set_cons_zero, List.set_cons_succ]
  refine anyS_take (i := 1) (oi := { dst := some 47, op := Op.load 46 (Operand.tmp 1), type := 46, pos := "node.go:78", after := #[], guard := none }) (v := .pointer (some ⟨nd, 0, none⟩)) rfl rfl (by kernel_rfl) (by kernel_rfl) (by kernel_rfl) (fun _ _ _ h => h.elim) ⟨Or.inl ⟨by rfl, ?z1⟩, fun _ => rfl⟩ hS ?_
  case z1 =>
    intro W hW
    rw [hSd] at hW; obtain ⟨s1, s2, s3, s4, s5⟩ := hW
    go_simp
  simp only [Act.put, List.setIfInBounds_toArray, List.set_cons_zero, List.set_cons_succ]
  refine anyS_take (i := 2) (oi := { dst := some 48, op := Op.nilCheck (Operand.tmp 47), type := 0, pos := "node.go:78", after := #[{ on := 1, ground := Ground.data }], guard := none }) (v := .pointer (some ⟨nd, 0, none⟩)) rfl rfl (by kernel_rfl) (by kernel_rfl) (by kernel_rfl) (fun _ _ _ h => h.elim) ⟨Or.inl ⟨by rfl, ?z2⟩, fun _ => rfl⟩ hS ?_
  case z2 =>
    intro W hW
    rw [hSd] at hW; obtain ⟨s1, s2, s3, s4, s5⟩ := hW
    go_simp
  simp only [Act.put, List.setIfInBounds_toArray, List.set_cons_zero, List.set_cons_succ]
  refine anyS_take (i := 3) (oi := { dst := some 49, op := Op.fieldAddr 67 (Operand.tmp 48) 0, type := 0, pos := "node.go:78", after := #[{ on := 2, ground := Ground.data }], guard := none }) (v := .pointer (some ⟨nd, 0, none⟩)) rfl rfl (by kernel_rfl) (by kernel_rfl) (by kernel_rfl) (fun _ _ _ h => h.elim) ⟨Or.inl ⟨by rfl, ?z3⟩, fun _ => rfl⟩ hS ?_
  case z3 =>
    intro W hW
    rw [hSd] at hW; obtain ⟨s1, s2, s3, s4, s5⟩ := hW
    go_simp
  simp only [Act.put, List.setIfInBounds_toArray, List.set_cons_zero, List.set_cons_succ]
  refine anyS_take (i := 4) (oi := { dst := some 50, op := Op.load 27 (Operand.tmp 49), type := 27, pos := "node.go:78", after := #[{ on := 3, ground := Ground.data }], guard := none }) (v := .slice (some ⟨g, off, none⟩) n cap) rfl rfl (by kernel_rfl) (by kernel_rfl) (by kernel_rfl) (fun _ _ _ h => h.elim) ⟨Or.inl ⟨by rfl, ?z4⟩, fun _ => rfl⟩ hS ?_
  case z4 =>
    intro W hW
    rw [hSd] at hW; obtain ⟨s1, s2, s3, s4, s5⟩ := hW
    go_simp
  simp only [Act.put, List.setIfInBounds_toArray, List.set_cons_zero, List.set_cons_succ]
  refine anyS_take (i := 5) (oi := { dst := some 51, op := Op.call { callee := Callee.builtin Builtin.len, args := #[Operand.tmp 50], argTypes := #[27] }, type := 3, pos := "node.go:78", after := #[{ on := 4, ground := Ground.data }], guard := none }) (v := .int .i64 (n : Int)) rfl rfl (by kernel_rfl) (by kernel_rfl) (by kernel_rfl) (fun _ _ _ h => h.elim) ⟨Or.inl ⟨by rfl, ?z5⟩, fun _ => rfl⟩ hS ?_
  case z5 =>
    intro W hW
    rw [hSd] at hW; obtain ⟨s1, s2, s3, s4, s5⟩ := hW
    go_simp
  simp only [Act.put, List.setIfInBounds_toArray, List.set_cons_zero, List.set_cons_succ]
  refine anyS_take (i := 6) (oi := { dst := some 52, op := Op.binOp BinOp.lss 3 (Operand.tmp 46) (Operand.tmp 51) 3, type := 4, pos := "node.go:78", after := #[{ on := 0, ground := Ground.data }, { on := 5, ground := Ground.data }], guard := none }) (v := .bool true) rfl rfl (by kernel_rfl) (by kernel_rfl) (by kernel_rfl) (fun _ _ _ h => h.elim) ⟨Or.inl ⟨by rfl, ?z6⟩, fun _ => rfl⟩ hS ?_
  case z6 =>
    intro W hW
    rw [hSd] at hW; obtain ⟨s1, s2, s3, s4, s5⟩ := hW
    go_simp
  simp only [Act.put, List.setIfInBounds_toArray, List.set_cons_zero, List.set_cons_succ]
  refine anyS_take (i := 7) (oi := { dst := some 53, op := Op.move (Operand.tmp 52), type := 4, pos := "node.go:78", after := #[{ on := 6, ground := Ground.data }], guard := none }) (v := .bool true) rfl rfl (by kernel_rfl) (by kernel_rfl) (by kernel_rfl) (fun _ _ _ h => h.elim) ⟨Or.inl ⟨by rfl, ?z7⟩, fun _ => rfl⟩ hS ?_
  case z7 =>
    intro W hW
    rw [hSd] at hW; obtain ⟨s1, s2, s3, s4, s5⟩ := hW
    go_simp
  simp only [Act.put, List.setIfInBounds_toArray, List.set_cons_zero, List.set_cons_succ]
  refine anyS_take (i := 8) (oi := { dst := some 54, op := Op.load 42 (Operand.tmp 3), type := 42, pos := "node.go:78", after := #[{ on := 7, ground := Ground.guard }], guard := some (7, true) }) (v := .func (.yield l1) #[] #[]) rfl rfl (by kernel_rfl) (by kernel_rfl) (by kernel_rfl) (fun _ _ _ h => h.elim) ⟨Or.inl ⟨by rfl, ?z8⟩, fun _ => rfl⟩ hS ?_
  case z8 =>
    intro W hW
    rw [hSd] at hW; obtain ⟨s1, s2, s3, s4, s5⟩ := hW
    go_simp
  simp only [Act.put, List.setIfInBounds_toArray, List.set_cons_zero, List.set_cons_succ]
  refine anyS_take (i := 9) (oi := { dst := some 55, op := Op.load 46 (Operand.tmp 1), type := 46, pos := "node.go:78", after := #[{ on := 7, ground := Ground.guard }], guard := some (7, true) }) (v := .pointer (some ⟨nd, 0, none⟩)) rfl rfl (by kernel_rfl) (by kernel_rfl) (by kernel_rfl) (fun _ _ _ h => h.elim) ⟨Or.inl ⟨by rfl, ?z9⟩, fun _ => rfl⟩ hS ?_
  case z9 =>
    intro W hW
    rw [hSd] at hW; obtain ⟨s1, s2, s3, s4, s5⟩ := hW
    go_simp
  simp only [Act.put, List.setIfInBounds_toArray, List.set_cons_zero, List.set_cons_succ]
  refine anyS_take (i := 10) (oi := { dst := some 56, op := Op.nilCheck (Operand.tmp 55), type := 0, pos := "node.go:78", after := #[{ on := 9, ground := Ground.data }, { on := 7, ground := Ground.guard }], guard := some (7, true) }) (v := .pointer (some ⟨nd, 0, none⟩)) rfl rfl (by kernel_rfl) (by kernel_rfl) (by kernel_rfl) (fun _ _ _ h => h.elim) ⟨Or.inl ⟨by rfl, ?z10⟩, fun _ => rfl⟩ hS ?_
  case z10 =>
    intro W hW
    rw [hSd] at hW; obtain ⟨s1, s2, s3, s4, s5⟩ := hW
    go_simp
  simp only [Act.put, List.setIfInBounds_toArray, List.set_cons_zero, List.set_cons_succ]
  refine anyS_take (i := 11) (oi := { dst := some 57, op := Op.fieldAddr 67 (Operand.tmp 56) 0, type := 0, pos := "node.go:78", after := #[{ on := 10, ground := Ground.data }, { on := 7, ground := Ground.guard }], guard := some (7, true) }) (v := .pointer (some ⟨nd, 0, none⟩)) rfl rfl (by kernel_rfl) (by kernel_rfl) (by kernel_rfl) (fun _ _ _ h => h.elim) ⟨Or.inl ⟨by rfl, ?z11⟩, fun _ => rfl⟩ hS ?_
  case z11 =>
    intro W hW
    rw [hSd] at hW; obtain ⟨s1, s2, s3, s4, s5⟩ := hW
    go_simp
  simp only [Act.put, List.setIfInBounds_toArray, List.set_cons_zero, List.set_cons_succ]
  refine anyS_take (i := 12) (oi := { dst := some 58, op := Op.load 27 (Operand.tmp 57), type := 27, pos := "node.go:78", after := #[{ on := 11, ground := Ground.data }, { on := 7, ground := Ground.guard }], guard := some (7, true) }) (v := .slice (some ⟨g, off, none⟩) n cap) rfl rfl (by kernel_rfl) (by kernel_rfl) (by kernel_rfl) (fun _ _ _ h => h.elim) ⟨Or.inl ⟨by rfl, ?z12⟩, fun _ => rfl⟩ hS ?_
  case z12 =>
    intro W hW
    rw [hSd] at hW; obtain ⟨s1, s2, s3, s4, s5⟩ := hW
    go_simp
  simp only [Act.put, List.setIfInBounds_toArray, List.set_cons_zero, List.set_cons_succ]
  refine anyS_take (i := 13) (oi := { dst := some 59, op := Op.move (Operand.tmp 6), type := 3, pos := "node.go:78", after := #[{ on := 7, ground := Ground.guard }], guard := some (7, true) }) (v := .int .i64 (i : Int)) rfl rfl (by kernel_rfl) (by kernel_rfl) (by kernel_rfl) (fun _ _ _ h => h.elim) ⟨Or.inl ⟨by rfl, ?z13⟩, fun _ => rfl⟩ hS ?_
  case z13 =>
    intro W hW
    rw [hSd] at hW; obtain ⟨s1, s2, s3, s4, s5⟩ := hW
    go_simp
  simp only [Act.put, List.setIfInBounds_toArray, List.set_cons_zero, List.set_cons_succ]
  refine anyS_take (i := 14) (oi := { dst := some 60, op := Op.indexAddr 27 (Operand.tmp 58) (Operand.tmp 59), type := 0, pos := "node.go:78", after := #[{ on := 12, ground := Ground.data }, { on := 13, ground := Ground.data }, { on := 7, ground := Ground.guard }], guard := some (7, true) }) (v := .pointer (some ⟨g, off + i * 2, none⟩)) rfl rfl (by kernel_rfl) (by kernel_rfl) (by kernel_rfl) (fun _ _ _ h => h.elim) ⟨Or.inl ⟨by rfl, ?z14⟩, fun _ => rfl⟩ hS ?_
  case z14 =>
    intro W hW
    rw [hSd] at hW; obtain ⟨s1, s2, s3, s4, s5⟩ := hW
    go_simp
  simp only [Act.put, List.setIfInBounds_toArray, List.set_cons_zero, List.set_cons_succ]
  refine anyS_take (i := 15) (oi := { dst := some 61, op := Op.fieldAddr 40 (Operand.tmp 60) 0, type := 0, pos := "node.go:78", after := #[{ on := 14, ground := Ground.data }, { on := 7, ground := Ground.guard }], guard := some (7, true) }) (v := .pointer (some ⟨g, off + i * 2, none⟩)) rfl rfl (by kernel_rfl) (by kernel_rfl) (by kernel_rfl) (fun _ _ _ h => h.elim) ⟨Or.inl ⟨by rfl, ?z15⟩, fun _ => rfl⟩ hS ?_
  case z15 =>
    intro W hW
    rw [hSd] at hW; obtain ⟨s1, s2, s3, s4, s5⟩ := hW
    go_simp
  simp only [Act.put, List.setIfInBounds_toArray, List.set_cons_zero, List.set_cons_succ]
  refine anyS_take (i := 16) (oi := { dst := some 62, op := Op.load 9 (Operand.tmp 61), type := 9, pos := "node.go:78", after := #[{ on := 15, ground := Ground.data }, { on := 7, ground := Ground.guard }], guard := some (7, true) }) (v := .string x1) rfl rfl (by kernel_rfl) (by kernel_rfl) (by kernel_rfl) (fun _ _ _ h => h.elim) ⟨Or.inl ⟨by rfl, ?z16⟩, fun _ => rfl⟩ hS ?_
  case z16 =>
    intro W hW
    rw [hSd] at hW; obtain ⟨s1, s2, s3, s4, s5⟩ := hW
    go_simp
  simp only [Act.put, List.setIfInBounds_toArray, List.set_cons_zero, List.set_cons_succ]
  refine anyS_take (i := 17) (oi := { dst := some 63, op := Op.load 46 (Operand.tmp 1), type := 46, pos := "node.go:78", after := #[{ on := 7, ground := Ground.guard }], guard := some (7, true) }) (v := .pointer (some ⟨nd, 0, none⟩)) rfl rfl (by kernel_rfl) (by kernel_rfl) (by kernel_rfl) (fun _ _ _ h => h.elim) ⟨Or.inl ⟨by rfl, ?z17⟩, fun _ => rfl⟩ hS ?_
  case z17 =>
    intro W hW
    rw [hSd] at hW; obtain ⟨s1, s2, s3, s4, s5⟩ := hW
    go_simp
  simp only [Act.put, List.setIfInBounds_toArray, List.set_cons_zero, List.set_cons_succ]
  refine anyS_take (i := 18) (oi := { dst := some 64, op := Op.nilCheck (Operand.tmp 63), type := 0, pos := "node.go:78", after := #[{ on := 17, ground := Ground.data }, { on := 7, ground := Ground.guard }], guard := some (7, true) }) (v := .pointer (some ⟨nd, 0, none⟩)) rfl rfl (by kernel_rfl) (by kernel_rfl) (by kernel_rfl) (fun _ _ _ h => h.elim) ⟨Or.inl ⟨by rfl, ?z18⟩, fun _ => rfl⟩ hS ?_
  case z18 =>
    intro W hW
    rw [hSd] at hW; obtain ⟨s1, s2, s3, s4, s5⟩ := hW
    go_simp
  simp only [Act.put, List.setIfInBounds_toArray, List.set_cons_zero, List.set_cons_succ]
  refine anyS_take (i := 19) (oi := { dst := some 65, op := Op.fieldAddr 67 (Operand.tmp 64) 0, type := 0, pos := "node.go:78", after := #[{ on := 18, ground := Ground.data }, { on := 7, ground := Ground.guard }], guard := some (7, true) }) (v := .pointer (some ⟨nd, 0, none⟩)) rfl rfl (by kernel_rfl) (by kernel_rfl) (by kernel_rfl) (fun _ _ _ h => h.elim) ⟨Or.inl ⟨by rfl, ?z19⟩, fun _ => rfl⟩ hS ?_
  case z19 =>
    intro W hW
    rw [hSd] at hW; obtain ⟨s1, s2, s3, s4, s5⟩ := hW
    go_simp
  simp only [Act.put, List.setIfInBounds_toArray, List.set_cons_zero, List.set_cons_succ]
  refine anyS_take (i := 20) (oi := { dst := some 66, op := Op.load 27 (Operand.tmp 65), type := 27, pos := "node.go:78", after := #[{ on := 19, ground := Ground.data }, { on := 7, ground := Ground.guard }], guard := some (7, true) }) (v := .slice (some ⟨g, off, none⟩) n cap) rfl rfl (by kernel_rfl) (by kernel_rfl) (by kernel_rfl) (fun _ _ _ h => h.elim) ⟨Or.inl ⟨by rfl, ?z20⟩, fun _ => rfl⟩ hS ?_
  case z20 =>
    intro W hW
    rw [hSd] at hW; obtain ⟨s1, s2, s3, s4, s5⟩ := hW
    go_simp
  simp only [Act.put, List.setIfInBounds_toArray, List.set_cons_zero, List.set_cons_succ]
  refine anyS_take (i := 21) (oi := { dst := some 67, op := Op.move (Operand.tmp 6), type := 3, pos := "node.go:78", after := #[{ on := 7, ground := Ground.guard }], guard := some (7, true) }) (v := .int .i64 (i : Int)) rfl rfl (by kernel_rfl) (by kernel_rfl) (by kernel_rfl) (fun _ _ _ h => h.elim) ⟨Or.inl ⟨by rfl, ?z21⟩, fun _ => rfl⟩ hS ?_
  case z21 =>
    intro W hW
    rw [hSd] at hW; obtain ⟨s1, s2, s3, s4, s5⟩ := hW
    go_simp
  simp only [Act.put, List.setIfInBounds_toArray, List.set_cons_zero, List.set_cons_succ]
  refine anyS_take (i := 22) (oi := { dst := some 68, op := Op.indexAddr 27 (Operand.tmp 66) (Operand.tmp 67), type := 0, pos := "node.go:78", after := #[{ on := 20, ground := Ground.data }, { on := 21, ground := Ground.data }, { on := 7, ground := Ground.guard }], guard := some (7, true) }) (v := .pointer (some ⟨g, off + i * 2, none⟩)) rfl rfl (by kernel_rfl) (by kernel_rfl) (by kernel_rfl) (fun _ _ _ h => h.elim) ⟨Or.inl ⟨by rfl, ?z22⟩, fun _ => rfl⟩ hS ?_
  case z22 =>
    intro W hW
    rw [hSd] at hW; obtain ⟨s1, s2, s3, s4, s5⟩ := hW
    go_simp
  simp only [Act.put, List.setIfInBounds_toArray, List.set_cons_zero, List.set_cons_succ]
  refine anyS_take (i := 23) (oi := { dst := some 69, op := Op.fieldAddr 40 (Operand.tmp 68) 1, type := 0, pos := "node.go:78", after := #[{ on := 22, ground := Ground.data }, { on := 7, ground := Ground.guard }], guard := some (7, true) }) (v := .pointer (some ⟨g, off + i * 2 + 1, none⟩)) rfl rfl (by kernel_rfl) (by kernel_rfl) (by kernel_rfl) (fun _ _ _ h => h.elim) ⟨Or.inl ⟨by rfl, ?z23⟩, fun _ => rfl⟩ hS ?_
  case z23 =>
    intro W hW
    rw [hSd] at hW; obtain ⟨s1, s2, s3, s4, s5⟩ := hW
    go_simp
  simp only [Act.put, List.setIfInBounds_toArray, List.set_cons_zero, List.set_cons_succ]
  refine anyS_take (i := 24) (oi := { dst := some 70, op := Op.load 9 (Operand.tmp 69), type := 9, pos := "node.go:78", after := #[{ on := 23, ground := Ground.data }, { on := 7, ground := Ground.guard }], guard := some (7, true) }) (v := .string x2) rfl rfl (by kernel_rfl) (by kernel_rfl) (by kernel_rfl) (fun _ _ _ h => h.elim) ⟨Or.inl ⟨by rfl, ?z24⟩, fun _ => rfl⟩ hS ?_
  case z24 =>
    intro W hW
    rw [hSd] at hW; obtain ⟨s1, s2, s3, s4, s5⟩ := hW
    go_simp
  simp only [Act.put, List.setIfInBounds_toArray, List.set_cons_zero, List.set_cons_succ]
  refine anyS_one (i := 25) (by kernel_rfl) (wpOpIn_step (o := { dst := some 71, op := Op.call { callee := Callee.value (Operand.tmp 54), args := #[Operand.tmp 62, Operand.tmp 70], argTypes := #[9, 9] }, type := 4, pos := "node.go:78", after := #[{ on := 8, ground := Ground.data }, { on := 16, ground := Ground.data }, { on := 24, ground := Ground.data }, { on := 7, ground := Ground.chain }, { on := 7, ground := Ground.guard }], guard := some (7, true) }) rfl ?_)
  intro K' hK'
  rw [if_pos (by rfl)]
  refine ⟨fun _ _ => trivial, ?_⟩
  have hsem : ∀ a : Act, a.eval (.tmp 54) = .func (.yield l1) #[] #[] → a.eval (.tmp 62) = .string x1 → a.eval (.tmp 70) = .string x2 → (Oper.semAt Fence.wide.round a.eval { dst := some 71, op := Op.call { callee := Callee.value (Operand.tmp 54), args := #[Operand.tmp 62, Operand.tmp 70], argTypes := #[9, 9] }, type := 4, pos := "node.go:78", after := #[{ on := 8, ground := Ground.data }, { on := 16, ground := Ground.data }, { on := 24, ground := Ground.data }, { on := 7, ground := Ground.chain }, { on := 7, ground := Ground.guard }], guard := some (7, true) }).run Try.prog A.drew = .ok (.round l1 fn tms asg bdy) A.drew := by
    intro a h1 h2 h3
    rw [show Fence.wide.round = none from rfl, Oper.semAt_none]
    simp only [execOp, resolve, h1, h2, h3, List.map_toArray, List.map_cons, List.map_nil]
    go_simp
  rw [hsem _ rfl rfl rfl]
  refine ⟨fun h => (by cases h), hRd.mono ?_⟩
  rintro e B hRB
  obtain ⟨v, rfl, hB⟩ := hR e B hRB
  refine hK' _ _ ⟨by rw [hSd]; exact hB, ?_⟩
  clear hK' hS
  have hS : S B := by rw [hSd]; exact hB
  simp only [Act.put, List.setIfInBounds_toArray, List.set_cons_zero, List.set_cons_succ]
  refine anyS_take (i := 26) (oi := { dst := some 72, op := Op.unOp UnOp.not 4 (Operand.tmp 71), type := 4, pos := "node.go:78", after := #[{ on := 25, ground := Ground.data }, { on := 7, ground := Ground.guard }], guard := some (7, true) }) (v := .bool (!v)) rfl rfl (by kernel_rfl) (by kernel_rfl) (by kernel_rfl) (fun _ _ _ h => h.elim) ⟨Or.inl ⟨by rfl, ?z26⟩, fun _ => rfl⟩ hS ?_
  case z26 =>
    intro W hW
    rw [hSd] at hW; obtain ⟨s1, s2, s3, s4, s5⟩ := hW
    go_simp
  simp only [Act.put, List.setIfInBounds_toArray, List.set_cons_zero, List.set_cons_succ]
  refine anyS_take (i := 27) (oi := { dst := some 73, op := Op.pick (Operand.tmp 53) (Operand.tmp 72) (Operand.const (Value.bool false)), type := 4, pos := "node.go:78", after := #[{ on := 7, ground := Ground.data }, { on := 26, ground := Ground.data }], guard := none }) (v := .bool (!v)) rfl rfl (by kernel_rfl) (by kernel_rfl) (by kernel_rfl) (fun _ _ _ h => h.elim) ⟨Or.inl ⟨by rfl, ?z27⟩, fun _ => rfl⟩ hS ?_
  case z27 =>
    intro W hW
    rw [hSd] at hW; obtain ⟨s1, s2, s3, s4, s5⟩ := hW
    go_simp
  simp only [Act.put, List.setIfInBounds_toArray, List.set_cons_zero, List.set_cons_succ]
  refine anyS_done (by kernel_rfl) ?_ _
  exact hQ v B hRB
#print axioms reg11
set_option maxRecDepth 100000 in
set_option maxHeartbeats 2000000 in
theorem reg11n {Q : Exit → Act → World → Prop} {y0 y2 y4 y5 y7 y8 y9 y10 y11 y12 y13 y14 y15 y16 y17 y18 y19 y20 y21 y22 y23 y24 y25 y26 y27 y28 y29 y30 y31 y32 y33 y34 y35 y36 y37 y38 y39 y40 y41 y42 y43 y44 y45 y46 y47 y48 y49 y50 y51 y52 y53 y54 y55 y56 y57 y58 y59 y60 y61 y62 y63 y64 y65 y66 y67 y68 y69 y70 y71 y72 y73 : Value} {ds : List Deferred} {A : World} {dd m₀ Bn nd n cap i : Nat} {ao : Option Addr}
    (cn : A.cell? ⟨Bn, 0, none⟩ = some (.pointer (some ⟨nd, 0, none⟩))) (c0 : A.cell? ⟨nd, 0, none⟩ = some (.slice ao n cap)) (hi : ¬ (i : Int) < (n : Int))
    (hQ : Q .normal { tmps := #[y0, .pointer (some ⟨Bn, 0, none⟩), y2, .pointer (some ⟨m₀, 0, none⟩), y4, y5, .int .i64 (i : Int), y7, y8, y9, y10, y11, y12, y13, y14, y15, y16, y17, y18, y19, y20, y21, y22, y23, y24, y25, y26, y27, y28, y29, y30, y31, y32, y33, y34, y35, y36, y37, y38, y39, y40, y41, y42, y43, y44, y45, .int .i64 (i : Int), .pointer (some ⟨nd, 0, none⟩), .pointer (some ⟨nd, 0, none⟩), .pointer (some ⟨nd, 0, none⟩), .slice ao n cap, .int .i64 (n : Int), .bool false, .bool false, undef, undef, undef, undef, undef, undef, undef, undef, undef, undef, undef, undef, undef, undef, undef, undef, undef, undef, undef, .bool false], defers := ds } A.drew) :
    (Code.region 11 #[{ dst := some 46, op := Op.move (Operand.tmp 6), type := 3, pos := "node.go:78", after := #[], guard := none }, { dst := some 47, op := Op.load 46 (Operand.tmp 1), type := 46, pos := "node.go:78", after := #[], guard := none }, { dst := some 48, op := Op.nilCheck (Operand.tmp 47), type := 0, pos := "node.go:78", after := #[{ on := 1, ground := Ground.data }], guard := none }, { dst := some 49, op := Op.fieldAddr 67 (Operand.tmp 48) 0, type := 0, pos := "node.go:78", after := #[{ on := 2, ground := Ground.data }], guard := none }, { dst := some 50, op := Op.load 27 (Operand.tmp 49), type := 27, pos := "node.go:78", after := #[{ on := 3, ground := Ground.data }], guard := none }, { dst := some 51, op := Op.call { callee := Callee.builtin Builtin.len, args := #[Operand.tmp 50], argTypes := #[27] }, type := 3, pos := "node.go:78", after := #[{ on := 4, ground := Ground.data }], guard := none }, { dst := some 52, op := Op.binOp BinOp.lss 3 (Operand.tmp 46) (Operand.tmp 51) 3, type := 4, pos := "node.go:78", after := #[{ on := 0, ground := Ground.data }, { on := 5, ground := Ground.data }], guard := none }, { dst := some 53, op := Op.move (Operand.tmp 52), type := 4, pos := "node.go:78", after := #[{ on := 6, ground := Ground.data }], guard := none }, { dst := some 54, op := Op.load 42 (Operand.tmp 3), type := 42, pos := "node.go:78", after := #[{ on := 7, ground := Ground.guard }], guard := some (7, true) }, { dst := some 55, op := Op.load 46 (Operand.tmp 1), type := 46, pos := "node.go:78", after := #[{ on := 7, ground := Ground.guard }], guard := some (7, true) }, { dst := some 56, op := Op.nilCheck (Operand.tmp 55), type := 0, pos := "node.go:78", after := #[{ on := 9, ground := Ground.data }, { on := 7, ground := Ground.guard }], guard := some (7, true) }, { dst := some 57, op := Op.fieldAddr 67 (Operand.tmp 56) 0, type := 0, pos := "node.go:78", after := #[{ on := 10, ground := Ground.data }, { on := 7, ground := Ground.guard }], guard := some (7, true) }, { dst := some 58, op := Op.load 27 (Operand.tmp 57), type := 27, pos := "node.go:78", after := #[{ on := 11, ground := Ground.data }, { on := 7, ground := Ground.guard }], guard := some (7, true) }, { dst := some 59, op := Op.move (Operand.tmp 6), type := 3, pos := "node.go:78", after := #[{ on := 7, ground := Ground.guard }], guard := some (7, true) }, { dst := some 60, op := Op.indexAddr 27 (Operand.tmp 58) (Operand.tmp 59), type := 0, pos := "node.go:78", after := #[{ on := 12, ground := Ground.data }, { on := 13, ground := Ground.data }, { on := 7, ground := Ground.guard }], guard := some (7, true) }, { dst := some 61, op := Op.fieldAddr 40 (Operand.tmp 60) 0, type := 0, pos := "node.go:78", after := #[{ on := 14, ground := Ground.data }, { on := 7, ground := Ground.guard }], guard := some (7, true) }, { dst := some 62, op := Op.load 9 (Operand.tmp 61), type := 9, pos := "node.go:78", after := #[{ on := 15, ground := Ground.data }, { on := 7, ground := Ground.guard }], guard := some (7, true) }, { dst := some 63, op := Op.load 46 (Operand.tmp 1), type := 46, pos := "node.go:78", after := #[{ on := 7, ground := Ground.guard }], guard := some (7, true) }, { dst := some 64, op := Op.nilCheck (Operand.tmp 63), type := 0, pos := "node.go:78", after := #[{ on := 17, ground := Ground.data }, { on := 7, ground := Ground.guard }], guard := some (7, true) }, { dst := some 65, op := Op.fieldAddr 67 (Operand.tmp 64) 0, type := 0, pos := "node.go:78", after := #[{ on := 18, ground := Ground.data }, { on := 7, ground := Ground.guard }], guard := some (7, true) }, { dst := some 66, op := Op.load 27 (Operand.tmp 65), type := 27, pos := "node.go:78", after := #[{ on := 19, ground := Ground.data }, { on := 7, ground := Ground.guard }], guard := some (7, true) }, { dst := some 67, op := Op.move (Operand.tmp 6), type := 3, pos := "node.go:78", after := #[{ on := 7, ground := Ground.guard }], guard := some (7, true) }, { dst := some 68, op := Op.indexAddr 27 (Operand.tmp 66) (Operand.tmp 67), type := 0, pos := "node.go:78", after := #[{ on := 20, ground := Ground.data }, { on := 21, ground := Ground.data }, { on := 7, ground := Ground.guard }], guard := some (7, true) }, { dst := some 69, op := Op.fieldAddr 40 (Operand.tmp 68) 1, type := 0, pos := "node.go:78", after := #[{ on := 22, ground := Ground.data }, { on := 7, ground := Ground.guard }], guard := some (7, true) }, { dst := some 70, op := Op.load 9 (Operand.tmp 69), type := 9, pos := "node.go:78", after := #[{ on := 23, ground := Ground.data }, { on := 7, ground := Ground.guard }], guard := some (7, true) }, { dst := some 71, op := Op.call { callee := Callee.value (Operand.tmp 54), args := #[Operand.tmp 62, Operand.tmp 70], argTypes := #[9, 9] }, type := 4, pos := "node.go:78", after := #[{ on := 8, ground := Ground.data }, { on := 16, ground := Ground.data }, { on := 24, ground := Ground.data }, { on := 7, ground := Ground.chain }, { on := 7, ground := Ground.guard }], guard := some (7, true) }, { dst := some 72, op := Op.unOp UnOp.not 4 (Operand.tmp 71), type := 4, pos := "node.go:78", after := #[{ on := 25, ground := Ground.data }, { on := 7, ground := Ground.guard }], guard := some (7, true) }, { dst := some 73, op := Op.pick (Operand.tmp 53) (Operand.tmp 72) (Operand.const (Value.bool false)), type := 4, pos := "node.go:78", after := #[{ on := 7, ground := Ground.data }, { on := 26, ground := Ground.data }], guard := none }] true).wpIn Fence.wide dd Try.prog Q { tmps := #[y0, .pointer (some ⟨Bn, 0, none⟩), y2, .pointer (some ⟨m₀, 0, none⟩), y4, y5, .int .i64 (i : Int), y7, y8, y9, y10, y11, y12, y13, y14, y15, y16, y17, y18, y19, y20, y21, y22, y23, y24, y25, y26, y27, y28, y29, y30, y31, y32, y33, y34, y35, y36, y37, y38, y39, y40, y41, y42, y43, y44, y45, y46, y47, y48, y49, y50, y51, y52, y53, y54, y55, y56, y57, y58, y59, y60, y61, y62, y63, y64, y65, y66, y67, y68, y69, y70, y71, y72, y73], defers := ds } A := by
  refine wpIn_mono (Q := fun x a' w' => match x with | .normal => Q .normal a' w' | _ => False) ?_ (by intro x a' w' h; cases x <;> first | exact h | exact h.elim)
  obtain ⟨S, hSd⟩ : ∃ S : World → Prop, S = fun W => W.cell? ⟨Bn, 0, none⟩ = some (.pointer (some ⟨nd, 0, none⟩)) ∧ W.cell? ⟨nd, 0, none⟩ = some (.slice ao n cap) := ⟨_, rfl⟩
  refine region_S (S := S) (by kernel_rfl) ?_
  have hS : S A.drew := by rw [hSd]; exact ⟨cn, c0⟩
  change anyS Fence.wide dd Try.prog .any _ _ S 28 (Array.replicate 28 false) _ A.drew
  refine anyS_take (i := 0) (oi := { dst := some 46, op := Op.move (Operand.tmp 6), type := 3, pos := "node.go:78", after := #[], guard := none }) (v := .int .i64 (i : Int)) rfl rfl (by kernel_rfl) (by kernel_rfl) (by kernel_rfl) (fun _ _ _ h => h.elim) ⟨Or.inl ⟨by rfl, ?z0⟩, fun _ => rfl⟩ hS ?_
  case z0 =>
    intro W hW
    rw [hSd] at hW; obtain ⟨s2, s3⟩ := hW
    go_simp
  simp only [Act.put, List.setIfInBounds_toArray, List.set_cons_zero, List.set_cons_succ]
  refine anyS_take (i := 1) (oi := { dst := some 47, op := Op.load 46 (Operand.tmp 1), type := 46, pos := "node.go:78", after := #[], guard := none }) (v := .pointer (some ⟨nd, 0, none⟩)) rfl rfl (by kernel_rfl) (by kernel_rfl) (by kernel_rfl) (fun _ _ _ h => h.elim) ⟨Or.inl ⟨by rfl, ?z1⟩, fun _ => rfl⟩ hS ?_
  case z1 =>
    intro W hW
    rw [hSd] at hW; obtain ⟨s2, s3⟩ := hW
    go_simp
  simp only [Act.put, List.setIfInBounds_toArray, List.set_cons_zero, List.set_cons_succ]
  refine anyS_take (i := 2) (oi := { dst := some 48, op := Op.nilCheck (Operand.tmp 47), type := 0, pos := "node.go:78", after := #[{ on := 1, ground := Ground.data }], guard := none }) (v := .pointer (some ⟨nd, 0, none⟩)) rfl rfl (by kernel_rfl) (by kernel_rfl) (by kernel_rfl) (fun _ _ _ h => h.elim) ⟨Or.inl ⟨by rfl, ?z2⟩, fun _ => rfl⟩ hS ?_
  case z2 =>
    intro W hW
    rw [hSd] at hW; obtain ⟨s2, s3⟩ := hW
    go_simp
  simp only [Act.put, List.setIfInBounds_toArray, List.set_cons_zero, List.set_cons_succ]
  refine anyS_take (i := 3) (oi := { dst := some 49, op := Op.fieldAddr 67 (Operand.tmp 48) 0, type := 0, pos := "node.go:78", after := #[{ on := 2, ground := Ground.data }], guard := none }) (v := .pointer (some ⟨nd, 0, none⟩)) rfl rfl (by kernel_rfl) (by kernel_rfl) (by kernel_rfl) (fun _ _ _ h => h.elim) ⟨Or.inl ⟨by rfl, ?z3⟩, fun _ => rfl⟩ hS ?_
  case z3 =>
    intro W hW
    rw [hSd] at hW; obtain ⟨s2, s3⟩ := hW
    go_simp
  simp only [Act.put, List.setIfInBounds_toArray, List.set_cons_zero, List.set_cons_succ]
  refine anyS_take (i := 4) (oi := { dst := some 50, op := Op.load 27 (Operand.tmp 49), type := 27, pos := "node.go:78", after := #[{ on := 3, ground := Ground.data }], guard := none }) (v := .slice ao n cap) rfl rfl (by kernel_rfl) (by kernel_rfl) (by kernel_rfl) (fun _ _ _ h => h.elim) ⟨Or.inl ⟨by rfl, ?z4⟩, fun _ => rfl⟩ hS ?_
  case z4 =>
    intro W hW
    rw [hSd] at hW; obtain ⟨s2, s3⟩ := hW
    go_simp
  simp only [Act.put, List.setIfInBounds_toArray, List.set_cons_zero, List.set_cons_succ]
  refine anyS_take (i := 5) (oi := { dst := some 51, op := Op.call { callee := Callee.builtin Builtin.len, args := #[Operand.tmp 50], argTypes := #[27] }, type := 3, pos := "node.go:78", after := #[{ on := 4, ground := Ground.data }], guard := none }) (v := .int .i64 (n : Int)) rfl rfl (by kernel_rfl) (by kernel_rfl) (by kernel_rfl) (fun _ _ _ h => h.elim) ⟨Or.inl ⟨by rfl, ?z5⟩, fun _ => rfl⟩ hS ?_
  case z5 =>
    intro W hW
    rw [hSd] at hW; obtain ⟨s2, s3⟩ := hW
    go_simp
  simp only [Act.put, List.setIfInBounds_toArray, List.set_cons_zero, List.set_cons_succ]
  refine anyS_take (i := 6) (oi := { dst := some 52, op := Op.binOp BinOp.lss 3 (Operand.tmp 46) (Operand.tmp 51) 3, type := 4, pos := "node.go:78", after := #[{ on := 0, ground := Ground.data }, { on := 5, ground := Ground.data }], guard := none }) (v := .bool false) rfl rfl (by kernel_rfl) (by kernel_rfl) (by kernel_rfl) (fun _ _ _ h => h.elim) ⟨Or.inl ⟨by rfl, ?z6⟩, fun _ => rfl⟩ hS ?_
  case z6 =>
    intro W hW
    rw [hSd] at hW; obtain ⟨s2, s3⟩ := hW
    go_simp
  simp only [Act.put, List.setIfInBounds_toArray, List.set_cons_zero, List.set_cons_succ]
  refine anyS_take (i := 7) (oi := { dst := some 53, op := Op.move (Operand.tmp 52), type := 4, pos := "node.go:78", after := #[{ on := 6, ground := Ground.data }], guard := none }) (v := .bool false) rfl rfl (by kernel_rfl) (by kernel_rfl) (by kernel_rfl) (fun _ _ _ h => h.elim) ⟨Or.inl ⟨by rfl, ?z7⟩, fun _ => rfl⟩ hS ?_
  case z7 =>
    intro W hW
    rw [hSd] at hW; obtain ⟨s2, s3⟩ := hW
    go_simp
  simp only [Act.put, List.setIfInBounds_toArray, List.set_cons_zero, List.set_cons_succ]
  refine anyS_take (i := 8) (oi := { dst := some 54, op := Op.load 42 (Operand.tmp 3), type := 42, pos := "node.go:78", after := #[{ on := 7, ground := Ground.guard }], guard := some (7, true) }) (v := undef) rfl rfl (by kernel_rfl) (by kernel_rfl) (by kernel_rfl) (fun _ _ _ h => h.elim) ⟨Or.inr ⟨by rfl, rfl⟩, fun _ => rfl⟩ hS ?_
  simp only [Act.put, List.setIfInBounds_toArray, List.set_cons_zero, List.set_cons_succ]
  refine anyS_take (i := 9) (oi := { dst := some 55, op := Op.load 46 (Operand.tmp 1), type := 46, pos := "node.go:78", after := #[{ on := 7, ground := Ground.guard }], guard := some (7, true) }) (v := undef) rfl rfl (by kernel_rfl) (by kernel_rfl) (by kernel_rfl) (fun _ _ _ h => h.elim) ⟨Or.inr ⟨by rfl, rfl⟩, fun _ => rfl⟩ hS ?_
  simp only [Act.put, List.setIfInBounds_toArray, List.set_cons_zero, List.set_cons_succ]
  refine anyS_take (i := 10) (oi := { dst := some 56, op := Op.nilCheck (Operand.tmp 55), type := 0, pos := "node.go:78", after := #[{ on := 9, ground := Ground.data }, { on := 7, ground := Ground.guard }], guard := some (7, true) }) (v := undef) rfl rfl (by kernel_rfl) (by kernel_rfl) (by kernel_rfl) (fun _ _ _ h => h.elim) ⟨Or.inr ⟨by rfl, rfl⟩, fun _ => rfl⟩ hS ?_
  simp only [Act.put, List.setIfInBounds_toArray, List.set_cons_zero, List.set_cons_succ]
  refine anyS_take (i := 11) (oi := { dst := some 57, op := Op.fieldAddr 67 (Operand.tmp 56) 0, type := 0, pos := "node.go:78", after := #[{ on := 10, ground := Ground.data }, { on := 7, ground := Ground.guard }], guard := some (7, true) }) (v := undef) rfl rfl (by kernel_rfl) (by kernel_rfl) (by kernel_rfl) (fun _ _ _ h => h.elim) ⟨Or.inr ⟨by rfl, rfl⟩, fun _ => rfl⟩ hS ?_
  simp only [Act.put, List.setIfInBounds_toArray, List.set_cons_zero, List.set_cons_succ]
  refine anyS_take (i := 12) (oi := { dst := some 58, op := Op.load 27 (Operand.tmp 57), type := 27, pos := "node.go:78", after := #[{ on := 11, ground := Ground.data }, { on := 7, ground := Ground.guard }], guard := some (7, true) }) (v := undef) rfl rfl (by kernel_rfl) (by kernel_rfl) (by kernel_rfl) (fun _ _ _ h => h.elim) ⟨Or.inr ⟨by rfl, rfl⟩, fun _ => rfl⟩ hS ?_
  simp only [Act.put, List.setIfInBounds_toArray, List.set_cons_zero, List.set_cons_succ]
  refine anyS_take (i := 13) (oi := { dst := some 59, op := Op.move (Operand.tmp 6), type := 3, pos := "node.go:78", after := #[{ on := 7, ground := Ground.guard }], guard := some (7, true) }) (v := undef) rfl rfl (by kernel_rfl) (by kernel_rfl) (by kernel_rfl) (fun _ _ _ h => h.elim) ⟨Or.inr ⟨by rfl, rfl⟩, fun _ => rfl⟩ hS ?_
  simp only [Act.put, List.setIfInBounds_toArray, List.set_cons_zero, List.set_cons_succ]
  refine anyS_take (i := 14) (oi := { dst := some 60, op := Op.indexAddr 27 (Operand.tmp 58) (Operand.tmp 59), type := 0, pos := "node.go:78", after := #[{ on := 12, ground := Ground.data }, { on := 13, ground := Ground.data }, { on := 7, ground := Ground.guard }], guard := some (7, true) }) (v := undef) rfl rfl (by kernel_rfl) (by kernel_rfl) (by kernel_rfl) (fun _ _ _ h => h.elim) ⟨Or.inr ⟨by rfl, rfl⟩, fun _ => rfl⟩ hS ?_
  simp only [Act.put, List.setIfInBounds_toArray, List.set_cons_zero, List.set_cons_succ]
  refine anyS_take (i := 15) (oi := { dst := some 61, op := Op.fieldAddr 40 (Operand.tmp 60) 0, type := 0, pos := "node.go:78", after := #[{ on := 14, ground := Ground.data }, { on := 7, ground := Ground.guard }], guard := some (7, true) }) (v := undef) rfl rfl (by kernel_rfl) (by kernel_rfl) (by kernel_rfl) (fun _ _ _ h => h.elim) ⟨Or.inr ⟨by rfl, rfl⟩, fun _ => rfl⟩ hS ?_
  simp only [Act.put, List.setIfInBounds_toArray, List.set_cons_zero, List.set_cons_succ]
  refine anyS_take (i := 16) (oi := { dst := some 62, op := Op.load 9 (Operand.tmp 61), type := 9, pos := "node.go:78", after := #[{ on := 15, ground := Ground.data }, { on := 7, ground := Ground.guard }], guard := some (7, true) }) (v := undef) rfl rfl (by kernel_rfl) (by kernel_rfl) (by kernel_rfl) (fun _ _ _ h => h.elim) ⟨Or.inr ⟨by rfl, rfl⟩, fun _ => rfl⟩ hS ?_
  simp only [Act.put, List.setIfInBounds_toArray, List.set_cons_zero, List.set_cons_succ]
  refine anyS_take (i := 17) (oi := { dst := some 63, op := Op.load 46 (Operand.tmp 1), type := 46, pos := "node.go:78", after := #[{ on := 7, ground := Ground.guard }], guard := some (7, true) }) (v := undef) rfl rfl (by kernel_rfl) (by kernel_rfl) (by kernel_rfl) (fun _ _ _ h => h.elim) ⟨Or.inr ⟨by rfl, rfl⟩, fun _ => rfl⟩ hS ?_
  simp only [Act.put, List.setIfInBounds_toArray, List.set_cons_zero, List.set_cons_succ]
  refine anyS_take (i := 18) (oi := { dst := some 64, op := Op.nilCheck (Operand.tmp 63), type := 0, pos := "node.go:78", after := #[{ on := 17, ground := Ground.data }, { on := 7, ground := Ground.guard }], guard := some (7, true) }) (v := undef) rfl rfl (by kernel_rfl) (by kernel_rfl) (by kernel_rfl) (fun _ _ _ h => h.elim) ⟨Or.inr ⟨by rfl, rfl⟩, fun _ => rfl⟩ hS ?_
  simp only [Act.put, List.setIfInBounds_toArray, List.set_cons_zero, List.set_cons_succ]
  refine anyS_take (i := 19) (oi := { dst := some 65, op := Op.fieldAddr 67 (Operand.tmp 64) 0, type := 0, pos := "node.go:78", after := #[{ on := 18, ground := Ground.data }, { on := 7, ground := Ground.guard }], guard := some (7, true) }) (v := undef) rfl rfl (by kernel_rfl) (by kernel_rfl) (by kernel_rfl) (fun _ _ _ h => h.elim) ⟨Or.inr ⟨by rfl, rfl⟩, fun _ => rfl⟩ hS ?_
  simp only [Act.put, List.setIfInBounds_toArray, List.set_cons_zero, List.set_cons_succ]
  refine anyS_take (i := 20) (oi := { dst := some 66, op := Op.load 27 (Operand.tmp 65), type := 27, pos := "node.go:78", after := #[{ on := 19, ground := Ground.data }, { on := 7, ground := Ground.guard }], guard := some (7, true) }) (v := undef) rfl rfl (by kernel_rfl) (by kernel_rfl) (by kernel_rfl) (fun _ _ _ h => h.elim) ⟨Or.inr ⟨by rfl, rfl⟩, fun _ => rfl⟩ hS ?_
  simp only [Act.put, List.setIfInBounds_toArray, List.set_cons_zero, List.set_cons_succ]
  refine anyS_take (i := 21) (oi := { dst := some 67, op := Op.move (Operand.tmp 6), type := 3, pos := "node.go:78", after := #[{ on := 7, ground := Ground.guard }], guard := some (7, true) }) (v := undef) rfl rfl (by kernel_rfl) (by kernel_rfl) (by kernel_rfl) (fun _ _ _ h => h.elim) ⟨Or.inr ⟨by rfl, rfl⟩, fun _ => rfl⟩ hS ?_
  simp only [Act.put, List.setIfInBounds_toArray, List.set_cons_zero, List.set_cons_succ]
  refine anyS_take (i := 22) (oi := { dst := some 68, op := Op.indexAddr 27 (Operand.tmp 66) (Operand.tmp 67), type := 0, pos := "node.go:78", after := #[{ on := 20, ground := Ground.data }, { on := 21, ground := Ground.data }, { on := 7, ground := Ground.guard }], guard := some (7, true) }) (v := undef) rfl rfl (by kernel_rfl) (by kernel_rfl) (by kernel_rfl) (fun _ _ _ h => h.elim) ⟨Or.inr ⟨by rfl, rfl⟩, fun _ => rfl⟩ hS ?_
  simp only [Act.put, List.setIfInBounds_toArray, List.set_cons_zero, List.set_cons_succ]
  refine anyS_take (i := 23) (oi := { dst := some 69, op := Op.fieldAddr 40 (Operand.tmp 68) 1, type := 0, pos := "node.go:78", after := #[{ on := 22, ground := Ground.data }, { on := 7, ground := Ground.guard }], guard := some (7, true) }) (v := undef) rfl rfl (by kernel_rfl) (by kernel_rfl) (by kernel_rfl) (fun _ _ _ h => h.elim) ⟨Or.inr ⟨by rfl, rfl⟩, fun _ => rfl⟩ hS ?_
  simp only [Act.put, List.setIfInBounds_toArray, List.set_cons_zero, List.set_cons_succ]
  refine anyS_take (i := 24) (oi := { dst := some 70, op := Op.load 9 (Operand.tmp 69), type := 9, pos := "node.go:78", after := #[{ on := 23, ground := Ground.data }, { on := 7, ground := Ground.guard }], guard := some (7, true) }) (v := undef) rfl rfl (by kernel_rfl) (by kernel_rfl) (by kernel_rfl) (fun _ _ _ h => h.elim) ⟨Or.inr ⟨by rfl, rfl⟩, fun _ => rfl⟩ hS ?_
  simp only [Act.put, List.setIfInBounds_toArray, List.set_cons_zero, List.set_cons_succ]
  refine anyS_take (i := 25) (oi := { dst := some 71, op := Op.call { callee := Callee.value (Operand.tmp 54), args := #[Operand.tmp 62, Operand.tmp 70], argTypes := #[9, 9] }, type := 4, pos := "node.go:78", after := #[{ on := 8, ground := Ground.data }, { on := 16, ground := Ground.data }, { on := 24, ground := Ground.data }, { on := 7, ground := Ground.chain }, { on := 7, ground := Ground.guard }], guard := some (7, true) }) (v := undef) rfl rfl (by kernel_rfl) (by kernel_rfl) (by kernel_rfl) (fun _ _ _ h => h.elim) ⟨Or.inr ⟨by rfl, rfl⟩, fun _ => rfl⟩ hS ?_
  simp only [Act.put, List.setIfInBounds_toArray, List.set_cons_zero, List.set_cons_succ]
  refine anyS_take (i := 26) (oi := { dst := some 72, op := Op.unOp UnOp.not 4 (Operand.tmp 71), type := 4, pos := "node.go:78", after := #[{ on := 25, ground := Ground.data }, { on := 7, ground := Ground.guard }], guard := some (7, true) }) (v := undef) rfl rfl (by kernel_rfl) (by kernel_rfl) (by kernel_rfl) (fun _ _ _ h => h.elim) ⟨Or.inr ⟨by rfl, rfl⟩, fun _ => rfl⟩ hS ?_
  simp only [Act.put, List.setIfInBounds_toArray, List.set_cons_zero, List.set_cons_succ]
  refine anyS_take (i := 27) (oi := { dst := some 73, op := Op.pick (Operand.tmp 53) (Operand.tmp 72) (Operand.const (Value.bool false)), type := 4, pos := "node.go:78", after := #[{ on := 7, ground := Ground.data }, { on := 26, ground := Ground.data }], guard := none }) (v := .bool false) rfl rfl (by kernel_rfl) (by kernel_rfl) (by kernel_rfl) (fun _ _ _ h => h.elim) ⟨Or.inl ⟨by rfl, ?z27⟩, fun _ => rfl⟩ hS ?_
  case z27 =>
    intro W hW
    rw [hSd] at hW; obtain ⟨s2, s3⟩ := hW
    go_simp
  simp only [Act.put, List.setIfInBounds_toArray, List.set_cons_zero, List.set_cons_succ]
  refine anyS_done (by kernel_rfl) ?_ _
  exact hQ
#print axioms reg11n
end Go.Proofs.Ytnagknlfboadkaa.Oct
