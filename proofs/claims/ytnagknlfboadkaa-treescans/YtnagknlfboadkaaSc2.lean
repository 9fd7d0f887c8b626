/-
  Layer 7 (tree): the statement of the closure of 'from' that hands out a pair, whatever its order.
  Layer 7 (tree): the statement of the closure of 'from' that takes a kid's iterator, whatever its order.
  A range over a function whose body may leave: what stands between two rounds is told by a place (a number); what is handed out is told by a list. Of no program.
  Layer 7 (tree): the closure of 'from', over a leaf.
  Layer 7 (tree): the closure of 'Scan', over a leaf.
  Trees of pairs, all of whose leaves are equally deep: what they hold, as one list; pairs put in and taken out. Of no program.
  Trees all of whose leaves are equally deep: their pairs as one list; nodes cut, joined, and mended. Of no program.
  Trees: where a key stands in a node's kids; what becomes of the list. Of no program.
-/
import Derived.Test.YtnagknlfboadkaaSc1
import Derived.RangeFuncSeq
import Derived.RangeFuncNested
import Derived.RangeFuncCalls
import Derived.RangeFuncBound
import Derived.RangeFuncLeaves
import Derived.WalkKit
import Derived.Sort.QuietIn
import Derived.Shelf.Abstract
import Derived.Shelf.RegionOpen
import Derived.OwnWalkIn
import Derived.TacticsInMore
import Derived.LoopNIn
import Derived.LoopIn
/- Layer 7 (tree): the statement of the closure of 'from' that hands out a pair, whatever its order. -/
namespace Go.Proofs.Ytnagknlfboadkaa.Oct
open Go.RowKit
attribute [local go_sem] Oper.semAt_some
set_option maxRecDepth 100000 in
set_option maxHeartbeats 2000000 in
theorem reg11 {Q : Exit → Act → World → Prop} {y0 y2 y4 y5 y7 y8 y9 y10 y11 y12 y13 y14 y15 y16 y17 y18 y19 y20 y21 y22 y23 y24 y25 y26 y27 y28 y29 y30 y31 y32 y33 y34 y35 y36 y37 y38 y39 y40 y41 y42 y43 y44 y45 y46 y47 y48 y49 y50 y51 y52 y53 y54 y55 y56 y57 y58 y59 y60 y61 y62 y63 y64 y65 y66 y67 y68 y69 y70 y71 y72 y73 : Value} {ds : List Deferred} {A : World} {dd l1 m₀ Bn nd g off n cap i : Nat} {x1 x2 : ByteArray} {R : Ending → World → Prop}
    (cy : A.cell? ⟨m₀, 0, none⟩ = some (.func (.yield l1) #[] #[])) (cn : A.cell? ⟨Bn, 0, none⟩ = some (.pointer (some ⟨nd, 0, none⟩))) (c0 : A.cell? ⟨nd, 0, none⟩ = some (.slice (some ⟨g, off, none⟩) n cap)) (e0 : A.cell? ⟨g, off + i * 2, none⟩ = some (.string x1)) (e1 : A.cell? ⟨g, off + i * 2 + 1, none⟩ = some (.string x2)) (hi : (i : Int) < (n : Int))
    (hY : YieldAt Fence.wide (dd - 1) Try.prog l1 #[.string x1, .string x2] A.drew R)
    (hR : ∀ e B, R e B → ∃ v : Bool, e = .returned (.bool v) ∧ B.cell? ⟨m₀, 0, none⟩ = some (.func (.yield l1) #[] #[]) ∧ B.cell? ⟨Bn, 0, none⟩ = some (.pointer (some ⟨nd, 0, none⟩)) ∧ B.cell? ⟨nd, 0, none⟩ = some (.slice (some ⟨g, off, none⟩) n cap) ∧ B.cell? ⟨g, off + i * 2, none⟩ = some (.string x1) ∧ B.cell? ⟨g, off + i * 2 + 1, none⟩ = some (.string x2))
    (hQ : ∀ v B, R (.returned (.bool v)) B → Q .normal { tmps := #[y0, .pointer (some ⟨Bn, 0, none⟩), y2, .pointer (some ⟨m₀, 0, none⟩), y4, y5, .int .i64 (i : Int), y7, y8, y9, y10, y11, y12, y13, y14, y15, y16, y17, y18, y19, y20, y21, y22, y23, y24, y25, y26, y27, y28, y29, y30, y31, y32, y33, y34, y35, y36, y37, y38, y39, y40, y41, y42, y43, y44, y45, .int .i64 (i : Int), .pointer (some ⟨nd, 0, none⟩), .pointer (some ⟨nd, 0, none⟩), .pointer (some ⟨nd, 0, none⟩), .slice (some ⟨g, off, none⟩) n cap, .int .i64 (n : Int), .bool true, .bool true, .func (.yield l1) #[] #[], .pointer (some ⟨nd, 0, none⟩), .pointer (some ⟨nd, 0, none⟩), .pointer (some ⟨nd, 0, none⟩), .slice (some ⟨g, off, none⟩) n cap, .int .i64 (i : Int), .pointer (some ⟨g, off + i * 2, none⟩), .pointer (some ⟨g, off + i * 2, none⟩), .string x1, .pointer (some ⟨nd, 0, none⟩), .pointer (some ⟨nd, 0, none⟩), .pointer (some ⟨nd, 0, none⟩), .slice (some ⟨g, off, none⟩) n cap, .int .i64 (i : Int), .pointer (some ⟨g, off + i * 2, none⟩), .pointer (some ⟨g, off + i * 2 + 1, none⟩), .string x2, .bool v, .bool (!v), .bool (!v)], defers := ds } B) :
    (Code.region 11 #[{ dst := some 46, op := Op.move (Operand.tmp 6), type := 3, pos := "node.go:78", after := #[], guard := none }, { dst := some 47, op := Op.load 46 (Operand.tmp 1), type := 46, pos := "node.go:78", after := #[], guard := none }, { dst := some 48, op := Op.nilCheck (Operand.tmp 47), type := 0, pos := "node.go:78", after := #[{ on := 1, ground := Ground.data }], guard := none }, { dst := some 49, op := Op.fieldAddr 67 (Operand.tmp 48) 0, type := 0, pos := "node.go:78", after := #[{ on := 2, ground := Ground.data }], guard := none }, { dst := some 50, op := Op.load 27 (Operand.tmp 49), type := 27, pos := "node.go:78", after := #[{ on := 3, ground := Ground.data }], guard := none }, { dst := some 51, op := Op.call { callee := Callee.builtin Builtin.len, args := #[Operand.tmp 50], argTypes := #[27] }, type := 3, pos := "node.go:78", after := #[{ on := 4, ground := Ground.data }], guard := none }, { dst := some 52, op := Op.binOp BinOp.lss 3 (Operand.tmp 46) (Operand.tmp 51) 3, type := 4, pos := "node.go:78", after := #[{ on := 0, ground := Ground.data }, { on := 5, ground := Ground.data }], guard := none }, { dst := some 53, op := Op.move (Operand.tmp 52), type := 4, pos := "node.go:78", after := #[{ on := 6, ground := Ground.data }], guard := none }, { dst := some 54, op := Op.load 42 (Operand.tmp 3), type := 42, pos := "node.go:78", after := #[{ on := 7, ground := Ground.guard }], guard := some (7, true) }, { dst := some 55, op := Op.load 46 (Operand.tmp 1), type := 46, pos := "node.go:78", after := #[{ on := 7, ground := Ground.guard }], guard := some (7, true) }, { dst := some 56, op := Op.nilCheck (Operand.tmp 55), type := 0, pos := "node.go:78", after := #[{ on := 9, ground := Ground.data }, { on := 7, ground := Ground.guard }], guard := some (7, true) }, { dst := some 57, op := Op.fieldAddr 67 (Operand.tmp 56) 0, type := 0, pos := "node.go:78", after := #[{ on := 10, ground := Ground.data }, { on := 7, ground := Ground.guard }], guard := some (7, true) }, { dst := some 58, op := Op.load 27 (Operand.tmp 57), type := 27, pos := "node.go:78", after := #[{ on := 11, ground := Ground.data }, { on := 7, ground := Ground.guard }], guard := some (7, true) }, { dst := some 59, op := Op.move (Operand.tmp 6), type := 3, pos := "node.go:78", after := #[{ on := 7, ground := Ground.guard }], guard := some (7, true) }, { dst := some 60, op := Op.indexAddr 27 (Operand.tmp 58) (Operand.tmp 59), type := 0, pos := "node.go:78", after := #[{ on := 12, ground := Ground.data }, { on := 13, ground := Ground.data }, { on := 7, ground := Ground.guard }], guard := some (7, true) }, { dst := some 61, op := Op.fieldAddr 40 (Operand.tmp 60) 0, type := 0, pos := "node.go:78", after := #[{ on := 14, ground := Ground.data }, { on := 7, ground := Ground.guard }], guard := some (7, true) }, { dst := some 62, op := Op.load 9 (Operand.tmp 61), type := 9, pos := "node.go:78", after := #[{ on := 15, ground := Ground.data }, { on := 7, ground := Ground.guard }], guard := some (7, true) }, { dst := some 63, op := Op.load 46 (Operand.tmp 1), type := 46, pos := "node.go:78", after := #[{ on := 7, ground := Ground.guard }], guard := some (7, true) }, { dst := some 64, op := Op.nilCheck (Operand.tmp 63), type := 0, pos := "node.go:78", after := #[{ on := 17, ground := Ground.data }, { on := 7, ground := Ground.guard }], guard := some (7, true) }, { dst := some 65, op := Op.fieldAddr 67 (Operand.tmp 64) 0, type := 0, pos := "node.go:78", after := #[{ on := 18, ground := Ground.data }, { on := 7, ground := Ground.guard }], guard := some (7, true) }, { dst := some 66, op := Op.load 27 (Operand.tmp 65), type := 27, pos := "node.go:78", after := #[{ on := 19, ground := Ground.data }, { on := 7, ground := Ground.guard }], guard := some (7, true) }, { dst := some 67, op := Op.move (Operand.tmp 6), type := 3, pos := "node.go:78", after := #[{ on := 7, ground := Ground.guard }], guard := some (7, true) }, { dst := some 68, op := Op.indexAddr 27 (Operand.tmp 66) (Operand.tmp 67), type := 0, pos := "node.go:78", after := #[{ on := 20, ground := Ground.data }, { on := 21, ground := Ground.data }, { on := 7, ground := Ground.guard }], guard := some (7, true) }, { dst := some 69, op := Op.fieldAddr 40 (Operand.tmp 68) 1, type := 0, pos := "node.go:78", after := #[{ on := 22, ground := Ground.data }, { on := 7, ground := Ground.guard }], guard := some (7, true) }, { dst := some 70, op := Op.load 9 (Operand.tmp 69), type := 9, pos := "node.go:78", after := #[{ on := 23, ground := Ground.data }, { on := 7, ground := Ground.guard }], guard := some (7, true) }, { dst := some 71, op := Op.call { callee := Callee.value (Operand.tmp 54), args := #[Operand.tmp 62, Operand.tmp 70], argTypes := #[9, 9] }, type := 4, pos := "node.go:78", after := #[{ on := 8, ground := Ground.data }, { on := 16, ground := Ground.data }, { on := 24, ground := Ground.data }, { on := 7, ground := Ground.chain }, { on := 7, ground := Ground.guard }], guard := some (7, true) }, { dst := some 72, op := Op.unOp UnOp.not 4 (Operand.tmp 71), type := 4, pos := "node.go:78", after := #[{ on := 25, ground := Ground.data }, { on := 7, ground := Ground.guard }], guard := some (7, true) }, { dst := some 73, op := Op.pick (Operand.tmp 53) (Operand.tmp 72) (Operand.const (Value.bool false)), type := 4, pos := "node.go:78", after := #[{ on := 7, ground := Ground.data }, { on := 26, ground := Ground.data }], guard := none }] true).wpIn Fence.wide dd Try.prog Q { tmps := #[y0, .pointer (some ⟨Bn, 0, none⟩), y2, .pointer (some ⟨m₀, 0, none⟩), y4, y5, .int .i64 (i : Int), y7, y8, y9, y10, y11, y12, y13, y14, y15, y16, y17, y18, y19, y20, y21, y22, y23, y24, y25, y26, y27, y28, y29, y30, y31, y32, y33, y34, y35, y36, y37, y38, y39, y40, y41, y42, y43, y44, y45, y46, y47, y48, y49, y50, y51, y52, y53, y54, y55, y56, y57, y58, y59, y60, y61, y62, y63, y64, y65, y66, y67, y68, y69, y70, y71, y72, y73], defers := ds } A := by
  refine wpIn_mono (Q := fun x a' w' => match x with | .normal => Q .normal a' w' | _ => False) ?_ (by intro x a' w' h; cases x <;> first | exact h | exact h.elim)
  obtain ⟨S, hSd⟩ : ∃ S : World → Prop, S = fun W => W.cell? ⟨m₀, 0, none⟩ = some (.func (.yield l1) #[] #[]) ∧ W.cell? ⟨Bn, 0, none⟩ = some (.pointer (some ⟨nd, 0, none⟩)) ∧ W.cell? ⟨nd, 0, none⟩ = some (.slice (some ⟨g, off, none⟩) n cap) ∧ W.cell? ⟨g, off + i * 2, none⟩ = some (.string x1) ∧ W.cell? ⟨g, off + i * 2 + 1, none⟩ = some (.string x2) := ⟨_, rfl⟩
  refine region_S (S := S) (by kernel_rfl) ?_
  have hS : S A.drew := by rw [hSd]; exact ⟨cy, cn, c0, e0, e1⟩
  obtain ⟨fn, tms, asg, bdy, hy, hRd⟩ := hY
  have hi2 : i < n := by omega
  change anyS Fence.wide dd Try.prog .any _ _ S 28 (Array.replicate 28 false) _ A.drew
  refine anyS_take (i := 0) (oi := { dst := some 46, op := Op.move (Operand.tmp 6), type := 3, pos := "node.go:78", after := #[], guard := none }) (v := .int .i64 (i : Int)) rfl rfl (by kernel_rfl) (by kernel_rfl) (by kernel_rfl) (fun _ _ _ h => h.elim) ⟨Or.inl ⟨by rfl, ?z0⟩, fun _ => rfl⟩ hS ?_
  case z0 =>
    intro W hW
    rw [hSd] at hW; obtain ⟨s1, s2, s3, s4, s5⟩ := hW
    go_simp
  simp only [Act.put, List.setIfInBounds_toArray, List.set_cons_zero, List.set_cons_succ]
  refine anyS_take (i := 1) (oi := { dst := some 47, op := Op.load 46 (Operand.tmp 1), type := 46, pos := "node.go:78", after := #[], guard := none }) (v := .pointer (some ⟨nd, 0, none⟩)) rfl rfl (by kernel_rfl) (by kernel_rfl) (by kernel_rfl) (fun _ _ _ h => h.elim) ⟨Or.inl ⟨by rfl, ?z1⟩, fun _ => rfl⟩ hS ?_
  case z1 =>
    intro W hW
    rw [hSd] at hW; obtain ⟨s1, s2, s3, s4, s5⟩ := hW
    go_simp
  simp only [Act.put, List.setIfInBounds_toArray, List.set_cons_zero, List.set_cons_succ]
  refine anyS_take (i := 2) (oi := { dst := some 48, op := Op.nilCheck (Operand.tmp 47), type := 0, pos := "node.go:78", after := #[{ on := 1, ground := Ground.data }], guard := none }) (v := .pointer (some ⟨nd, 0, none⟩)) rfl rfl (by kernel_rfl) (by kernel_rfl) (by kernel_rfl) (fun _ _ _ h => h.elim) ⟨Or.inl ⟨by rfl, ?z2⟩, fun _ => rfl⟩ hS ?_
  case z2 =>
    intro W hW
    rw [hSd] at hW; obtain ⟨s1, s2, s3, s4, s5⟩ := hW
    go_simp
  simp only [Act.put, List.setIfInBounds_toArray, List.set_cons_zero, List.set_cons_succ]
  refine anyS_take (i := 3) (oi := { dst := some 49, op := Op.fieldAddr 67 (Operand.tmp 48) 0, type := 0, pos := "node.go:78", after := #[{ on := 2, ground := Ground.data }], guard := none }) (v := .pointer (some ⟨nd, 0, none⟩)) rfl rfl (by kernel_rfl) (by kernel_rfl) (by kernel_rfl) (fun _ _ _ h => h.elim) ⟨Or.inl ⟨by rfl, ?z3⟩, fun _ => rfl⟩ hS ?_
  case z3 =>
    intro W hW
    rw [hSd] at hW; obtain ⟨s1, s2, s3, s4, s5⟩ := hW
    go_simp
  simp only [Act.put, List.setIfInBounds_toArray, List.set_cons_zero, List.set_cons_succ]
  refine anyS_take (i := 4) (oi := { dst := some 50, op := Op.load 27 (Operand.tmp 49), type := 27, pos := "node.go:78", after := #[{ on := 3, ground := Ground.data }], guard := none }) (v := .slice (some ⟨g, off, none⟩) n cap) rfl rfl (by kernel_rfl) (by kernel_rfl) (by kernel_rfl) (fun _ _ _ h => h.elim) ⟨Or.inl ⟨by rfl, ?z4⟩, fun _ => rfl⟩ hS ?_
  case z4 =>
    intro W hW
    rw [hSd] at hW; obtain ⟨s1, s2, s3, s4, s5⟩ := hW
    go_simp
  simp only [Act.put, List.setIfInBounds_toArray, List.set_cons_zero, List.set_cons_succ]
  refine anyS_take (i := 5) (oi := { dst := some 51, op := Op.call { callee := Callee.builtin Builtin.len, args := #[Operand.tmp 50], argTypes := #[27] }, type := 3, pos := "node.go:78", after := #[{ on := 4, ground := Ground.data }], guard := none }) (v := .int .i64 (n : Int)) rfl rfl (by kernel_rfl) (by kernel_rfl) (by kernel_rfl) (fun _ _ _ h => h.elim) ⟨Or.inl ⟨by rfl, ?z5⟩, fun _ => rfl⟩ hS ?_
  case z5 =>
    intro W hW
    rw [hSd] at hW; obtain ⟨s1, s2, s3, s4, s5⟩ := hW
    go_simp
  simp only [Act.put, List.setIfInBounds_toArray, List.set_cons_zero, List.set_cons_succ]
  refine anyS_take (i := 6) (oi := { dst := some 52, op := Op.binOp BinOp.lss 3 (Operand.tmp 46) (Operand.tmp 51) 3, type := 4, pos := "node.go:78", after := #[{ on := 0, ground := Ground.data }, { on := 5, ground := Ground.data }], guard := none }) (v := .bool true) rfl rfl (by kernel_rfl) (by kernel_rfl) (by kernel_rfl) (fun _ _ _ h => h.elim) ⟨Or.inl ⟨by rfl, ?z6⟩, fun _ => rfl⟩ hS ?_
  case z6 =>
    intro W hW
    rw [hSd] at hW; obtain ⟨s1, s2, s3, s4, s5⟩ := hW
    go_simp
  simp only [Act.put, List.setIfInBounds_toArray, List.set_cons_zero, List.set_cons_succ]
  refine anyS_take (i := 7) (oi := { dst := some 53, op := Op.move (Operand.tmp 52), type := 4, pos := "node.go:78", after := #[{ on := 6, ground := Ground.data }], guard := none }) (v := .bool true) rfl rfl (by kernel_rfl) (by kernel_rfl) (by kernel_rfl) (fun _ _ _ h => h.elim) ⟨Or.inl ⟨by rfl, ?z7⟩, fun _ => rfl⟩ hS ?_
  case z7 =>
    intro W hW
    rw [hSd] at hW; obtain ⟨s1, s2, s3, s4, s5⟩ := hW
    go_simp
  simp only [Act.put, List.setIfInBounds_toArray, List.set_cons_zero, List.set_cons_succ]
  refine anyS_take (i := 8) (oi := { dst := some 54, op := Op.load 42 (Operand.tmp 3), type := 42, pos := "node.go:78", after := #[{ on := 7, ground := Ground.guard }], guard := some (7, true) }) (v := .func (.yield l1) #[] #[]) rfl rfl (by kernel_rfl) (by kernel_rfl) (by kernel_rfl) (fun _ _ _ h => h.elim) ⟨Or.inl ⟨by rfl, ?z8⟩, fun _ => rfl⟩ hS ?_
  case z8 =>
    intro W hW
    rw [hSd] at hW; obtain ⟨s1, s2, s3, s4, s5⟩ := hW
    go_simp
  simp only [Act.put, List.setIfInBounds_toArray, List.set_cons_zero, List.set_cons_succ]
  refine anyS_take (i := 9) (oi := { dst := some 55, op := Op.load 46 (Operand.tmp 1), type := 46, pos := "node.go:78", after := #[{ on := 7, ground := Ground.guard }], guard := some (7, true) }) (v := .pointer (some ⟨nd, 0, none⟩)) rfl rfl (by kernel_rfl) (by kernel_rfl) (by kernel_rfl) (fun _ _ _ h => h.elim) ⟨Or.inl ⟨by rfl, ?z9⟩, fun _ => rfl⟩ hS ?_
  case z9 =>
    intro W hW
    rw [hSd] at hW; obtain ⟨s1, s2, s3, s4, s5⟩ := hW
    go_simp
  simp only [Act.put, List.setIfInBounds_toArray, List.set_cons_zero, List.set_cons_succ]
  refine anyS_take (i := 10) (oi := { dst := some 56, op := Op.nilCheck (Operand.tmp 55), type := 0, pos := "node.go:78", after := #[{ on := 9, ground := Ground.data }, { on := 7, ground := Ground.guard }], guard := some (7, true) }) (v := .pointer (some ⟨nd, 0, none⟩)) rfl rfl (by kernel_rfl) (by kernel_rfl) (by kernel_rfl) (fun _ _ _ h => h.elim) ⟨Or.inl ⟨by rfl, ?z10⟩, fun _ => rfl⟩ hS ?_
  case z10 =>
    intro W hW
    rw [hSd] at hW; obtain ⟨s1, s2, s3, s4, s5⟩ := hW
    go_simp
  simp only [Act.put, List.setIfInBounds_toArray, List.set_cons_zero, List.set_cons_succ]
  refine anyS_take (i := 11) (oi := { dst := some 57, op := Op.fieldAddr 67 (Operand.tmp 56) 0, type := 0, pos := "node.go:78", after := #[{ on := 10, ground := Ground.data }, { on := 7, ground := Ground.guard }], guard := some (7, true) }) (v := .pointer (some ⟨nd, 0, none⟩)) rfl rfl (by kernel_rfl) (by kernel_rfl) (by kernel_rfl) (fun _ _ _ h => h.elim) ⟨Or.inl ⟨by rfl, ?z11⟩, fun _ => rfl⟩ hS ?_
  case z11 =>
    intro W hW
    rw [hSd] at hW; obtain ⟨s1, s2, s3, s4, s5⟩ := hW
    go_simp
  simp only [Act.put, List.setIfInBounds_toArray, List.set_cons_zero, List.set_cons_succ]
  refine anyS_take (i := 12) (oi := { dst := some 58, op := Op.load 27 (Operand.tmp 57), type := 27, pos := "node.go:78", after := #[{ on := 11, ground := Ground.data }, { on := 7, ground := Ground.guard }], guard := some (7, true) }) (v := .slice (some ⟨g, off, none⟩) n cap) rfl rfl (by kernel_rfl) (by kernel_rfl) (by kernel_rfl) (fun _ _ _ h => h.elim) ⟨Or.inl ⟨by rfl, ?z12⟩, fun _ => rfl⟩ hS ?_
  case z12 =>
    intro W hW
    rw [hSd] at hW; obtain ⟨s1, s2, s3, s4, s5⟩ := hW
    go_simp
  simp only [Act.put, List.setIfInBounds_toArray, List.set_cons_zero, List.set_cons_succ]
  refine anyS_take (i := 13) (oi := { dst := some 59, op := Op.move (Operand.tmp 6), type := 3, pos := "node.go:78", after := #[{ on := 7, ground := Ground.guard }], guard := some (7, true) }) (v := .int .i64 (i : Int)) rfl rfl (by kernel_rfl) (by kernel_rfl) (by kernel_rfl) (fun _ _ _ h => h.elim) ⟨Or.inl ⟨by rfl, ?z13⟩, fun _ => rfl⟩ hS ?_
  case z13 =>
    intro W hW
    rw [hSd] at hW; obtain ⟨s1, s2, s3, s4, s5⟩ := hW
    go_simp
  simp only [Act.put, List.setIfInBounds_toArray, List.set_cons_zero, List.set_cons_succ]
  refine anyS_take (i := 14) (oi := { dst := some 60, op := Op.indexAddr 27 (Operand.tmp 58) (Operand.tmp 59), type := 0, pos := "node.go:78", after := #[{ on := 12, ground := Ground.data }, { on := 13, ground := Ground.data }, { on := 7, ground := Ground.guard }], guard := some (7, true) }) (v := .pointer (some ⟨g, off + i * 2, none⟩)) rfl rfl (by kernel_rfl) (by kernel_rfl) (by kernel_rfl) (fun _ _ _ h => h.elim) ⟨Or.inl ⟨by rfl, ?z14⟩, fun _ => rfl⟩ hS ?_
  case z14 =>
    intro W hW
    rw [hSd] at hW; obtain ⟨s1, s2, s3, s4, s5⟩ := hW
    go_simp
  simp only [Act.put, List.setIfInBounds_toArray, List.set_cons_zero, List.set_cons_succ]
  refine anyS_take (i := 15) (oi := { dst := some 61, op := Op.fieldAddr 40 (Operand.tmp 60) 0, type := 0, pos := "node.go:78", after := #[{ on := 14, ground := Ground.data }, { on := 7, ground := Ground.guard }], guard := some (7, true) }) (v := .pointer (some ⟨g, off + i * 2, none⟩)) rfl rfl (by kernel_rfl) (by kernel_rfl) (by kernel_rfl) (fun _ _ _ h => h.elim) ⟨Or.inl ⟨by rfl, ?z15⟩, fun _ => rfl⟩ hS ?_
  case z15 =>
    intro W hW
    rw [hSd] at hW; obtain ⟨s1, s2, s3, s4, s5⟩ := hW
    go_simp
  simp only [Act.put, List.setIfInBounds_toArray, List.set_cons_zero, List.set_cons_succ]
  refine anyS_take (i := 16) (oi := { dst := some 62, op := Op.load 9 (Operand.tmp 61), type := 9, pos := "node.go:78", after := #[{ on := 15, ground := Ground.data }, { on := 7, ground := Ground.guard }], guard := some (7, true) }) (v := .string x1) rfl rfl (by kernel_rfl) (by kernel_rfl) (by kernel_rfl) (fun _ _ _ h => h.elim) ⟨Or.inl ⟨by rfl, ?z16⟩, fun _ => rfl⟩ hS ?_
  case z16 =>
    intro W hW
    rw [hSd] at hW; obtain ⟨s1, s2, s3, s4, s5⟩ := hW
    go_simp
  simp only [Act.put, List.setIfInBounds_toArray, List.set_cons_zero, List.set_cons_succ]
  refine anyS_take (i := 17) (oi := { dst := some 63, op := Op.load 46 (Operand.tmp 1), type := 46, pos := "node.go:78", after := #[{ on := 7, ground := Ground.guard }], guard := some (7, true) }) (v := .pointer (some ⟨nd, 0, none⟩)) rfl rfl (by kernel_rfl) (by kernel_rfl) (by kernel_rfl) (fun _ _ _ h => h.elim) ⟨Or.inl ⟨by rfl, ?z17⟩, fun _ => rfl⟩ hS ?_
  case z17 =>
    intro W hW
    rw [hSd] at hW; obtain ⟨s1, s2, s3, s4, s5⟩ := hW
    go_simp
  simp only [Act.put, List.setIfInBounds_toArray, List.set_cons_zero, List.set_cons_succ]
  refine anyS_take (i := 18) (oi := { dst := some 64, op := Op.nilCheck (Operand.tmp 63), type := 0, pos := "node.go:78", after := #[{ on := 17, ground := Ground.data }, { on := 7, ground := Ground.guard }], guard := some (7, true) }) (v := .pointer (some ⟨nd, 0, none⟩)) rfl rfl (by kernel_rfl) (by kernel_rfl) (by kernel_rfl) (fun _ _ _ h => h.elim) ⟨Or.inl ⟨by rfl, ?z18⟩, fun _ => rfl⟩ hS ?_
  case z18 =>
    intro W hW
    rw [hSd] at hW; obtain ⟨s1, s2, s3, s4, s5⟩ := hW
    go_simp
  simp only [Act.put, List.setIfInBounds_toArray, List.set_cons_zero, List.set_cons_succ]
  refine anyS_take (i := 19) (oi := { dst := some 65, op := Op.fieldAddr 67 (Operand.tmp 64) 0, type := 0, pos := "node.go:78", after := #[{ on := 18, ground := Ground.data }, { on := 7, ground := Ground.guard }], guard := some (7, true) }) (v := .pointer (some ⟨nd, 0, none⟩)) rfl rfl (by kernel_rfl) (by kernel_rfl) (by kernel_rfl) (fun _ _ _ h => h.elim) ⟨Or.inl ⟨by rfl, ?z19⟩, fun _ => rfl⟩ hS ?_
  case z19 =>
    intro W hW
    rw [hSd] at hW; obtain ⟨s1, s2, s3, s4, s5⟩ := hW
    go_simp
  simp only [Act.put, List.setIfInBounds_toArray, List.set_cons_zero, List.set_cons_succ]
  refine anyS_take (i := 20) (oi := { dst := some 66, op := Op.load 27 (Operand.tmp 65), type := 27, pos := "node.go:78", after := #[{ on := 19, ground := Ground.data }, { on := 7, ground := Ground.guard }], guard := some (7, true) }) (v := .slice (some ⟨g, off, none⟩) n cap) rfl rfl (by kernel_rfl) (by kernel_rfl) (by kernel_rfl) (fun _ _ _ h => h.elim) ⟨Or.inl ⟨by rfl, ?z20⟩, fun _ => rfl⟩ hS ?_
  case z20 =>
    intro W hW
    rw [hSd] at hW; obtain ⟨s1, s2, s3, s4, s5⟩ := hW
    go_simp
  simp only [Act.put, List.setIfInBounds_toArray, List.set_cons_zero, List.set_cons_succ]
  refine anyS_take (i := 21) (oi := { dst := some 67, op := Op.move (Operand.tmp 6), type := 3, pos := "node.go:78", after := #[{ on := 7, ground := Ground.guard }], guard := some (7, true) }) (v := .int .i64 (i : Int)) rfl rfl (by kernel_rfl) (by kernel_rfl) (by kernel_rfl) (fun _ _ _ h => h.elim) ⟨Or.inl ⟨by rfl, ?z21⟩, fun _ => rfl⟩ hS ?_
  case z21 =>
    intro W hW
    rw [hSd] at hW; obtain ⟨s1, s2, s3, s4, s5⟩ := hW
    go_simp
  simp only [Act.put, List.setIfInBounds_toArray, List.set_cons_zero, List.set_cons_succ]
  refine anyS_take (i := 22) (oi := { dst := some 68, op := Op.indexAddr 27 (Operand.tmp 66) (Operand.tmp 67), type := 0, pos := "node.go:78", after := #[{ on := 20, ground := Ground.data }, { on := 21, ground := Ground.data }, { on := 7, ground := Ground.guard }], guard := some (7, true) }) (v := .pointer (some ⟨g, off + i * 2, none⟩)) rfl rfl (by kernel_rfl) (by kernel_rfl) (by kernel_rfl) (fun _ _ _ h => h.elim) ⟨Or.inl ⟨by rfl, ?z22⟩, fun _ => rfl⟩ hS ?_
  case z22 =>
    intro W hW
    rw [hSd] at hW; obtain ⟨s1, s2, s3, s4, s5⟩ := hW
    go_simp
  simp only [Act.put, List.setIfInBounds_toArray, List.set_cons_zero, List.set_cons_succ]
  refine anyS_take (i := 23) (oi := { dst := some 69, op := Op.fieldAddr 40 (Operand.tmp 68) 1, type := 0, pos := "node.go:78", after := #[{ on := 22, ground := Ground.data }, { on := 7, ground := Ground.guard }], guard := some (7, true) }) (v := .pointer (some ⟨g, off + i * 2 + 1, none⟩)) rfl rfl (by kernel_rfl) (by kernel_rfl) (by kernel_rfl) (fun _ _ _ h => h.elim) ⟨Or.inl ⟨by rfl, ?z23⟩, fun _ => rfl⟩ hS ?_
  case z23 =>
    intro W hW
    rw [hSd] at hW; obtain ⟨s1, s2, s3, s4, s5⟩ := hW
    go_simp
  simp only [Act.put, List.setIfInBounds_toArray, List.set_cons_zero, List.set_cons_succ]
  refine anyS_take (i := 24) (oi := { dst := some 70, op := Op.load 9 (Operand.tmp 69), type := 9, pos := "node.go:78", after := #[{ on := 23, ground := Ground.data }, { on := 7, ground := Ground.guard }], guard := some (7, true) }) (v := .string x2) rfl rfl (by kernel_rfl) (by kernel_rfl) (by kernel_rfl) (fun _ _ _ h => h.elim) ⟨Or.inl ⟨by rfl, ?z24⟩, fun _ => rfl⟩ hS ?_
  case z24 =>
    intro W hW
    rw [hSd] at hW; obtain ⟨s1, s2, s3, s4, s5⟩ := hW
    go_simp
  simp only [Act.put, List.setIfInBounds_toArray, List.set_cons_zero, List.set_cons_succ]
  refine anyS_one (i := 25) (by kernel_rfl) (wpOpIn_step (o := { dst := some 71, op := Op.call { callee := Callee.value (Operand.tmp 54), args := #[Operand.tmp 62, Operand.tmp 70], argTypes := #[9, 9] }, type := 4, pos := "node.go:78", after := #[{ on := 8, ground := Ground.data }, { on := 16, ground := Ground.data }, { on := 24, ground := Ground.data }, { on := 7, ground := Ground.chain }, { on := 7, ground := Ground.guard }], guard := some (7, true) }) rfl ?_)
  intro K' hK'
  rw [if_pos (by rfl)]
  refine ⟨fun _ _ => trivial, ?_⟩
  have hsem : ∀ a : Act, a.eval (.tmp 54) = .func (.yield l1) #[] #[] → a.eval (.tmp 62) = .string x1 → a.eval (.tmp 70) = .string x2 → (Oper.semAt Fence.wide.round a.eval { dst := some 71, op := Op.call { callee := Callee.value (Operand.tmp 54), args := #[Operand.tmp 62, Operand.tmp 70], argTypes := #[9, 9] }, type := 4, pos := "node.go:78", after := #[{ on := 8, ground := Ground.data }, { on := 16, ground := Ground.data }, { on := 24, ground := Ground.data }, { on := 7, ground := Ground.chain }, { on := 7, ground := Ground.guard }], guard := some (7, true) }).run Try.prog A.drew = .ok (.round l1 fn tms asg bdy) A.drew := by
    intro a h1 h2 h3
    rw [show Fence.wide.round = none from rfl, Oper.semAt_none]
    simp only [execOp, resolve, h1, h2, h3, List.map_toArray, List.map_cons, List.map_nil]
    go_simp
  rw [hsem _ rfl rfl rfl]
  refine ⟨fun h => (by cases h), hRd.mono ?_⟩
  rintro e B hRB
  obtain ⟨v, rfl, hB⟩ := hR e B hRB
  refine hK' _ _ ⟨by rw [hSd]; exact hB, ?_⟩
  clear hK' hS
  have hS : S B := by rw [hSd]; exact hB
  simp only [Act.put, List.setIfInBounds_toArray, List.set_cons_zero, List.set_cons_succ]
  refine anyS_take (i := 26) (oi := { dst := some 72, op := Op.unOp UnOp.not 4 (Operand.tmp 71), type := 4, pos := "node.go:78", after := #[{ on := 25, ground := Ground.data }, { on := 7, ground := Ground.guard }], guard := some (7, true) }) (v := .bool (!v)) rfl rfl (by kernel_rfl) (by kernel_rfl) (by kernel_rfl) (fun _ _ _ h => h.elim) ⟨Or.inl ⟨by rfl, ?z26⟩, fun _ => rfl⟩ hS ?_
  case z26 =>
    intro W hW
    rw [hSd] at hW; obtain ⟨s1, s2, s3, s4, s5⟩ := hW
    go_simp
  simp only [Act.put, List.setIfInBounds_toArray, List.set_cons_zero, List.set_cons_succ]
  refine anyS_take (i := 27) (oi := { dst := some 73, op := Op.pick (Operand.tmp 53) (Operand.tmp 72) (Operand.const (Value.bool false)), type := 4, pos := "node.go:78", after := #[{ on := 7, ground := Ground.data }, { on := 26, ground := Ground.data }], guard := none }) (v := .bool (!v)) rfl rfl (by kernel_rfl) (by kernel_rfl) (by kernel_rfl) (fun _ _ _ h => h.elim) ⟨Or.inl ⟨by rfl, ?z27⟩, fun _ => rfl⟩ hS ?_
  case z27 =>
    intro W hW
    rw [hSd] at hW; obtain ⟨s1, s2, s3, s4, s5⟩ := hW
    go_simp
  simp only [Act.put, List.setIfInBounds_toArray, List.set_cons_zero, List.set_cons_succ]
  refine anyS_done (by kernel_rfl) ?_ _
  exact hQ v B hRB
set_option maxRecDepth 100000 in
set_option maxHeartbeats 2000000 in
theorem reg11n {Q : Exit → Act → World → Prop} {y0 y2 y4 y5 y7 y8 y9 y10 y11 y12 y13 y14 y15 y16 y17 y18 y19 y20 y21 y22 y23 y24 y25 y26 y27 y28 y29 y30 y31 y32 y33 y34 y35 y36 y37 y38 y39 y40 y41 y42 y43 y44 y45 y46 y47 y48 y49 y50 y51 y52 y53 y54 y55 y56 y57 y58 y59 y60 y61 y62 y63 y64 y65 y66 y67 y68 y69 y70 y71 y72 y73 : Value} {ds : List Deferred} {A : World} {dd m₀ Bn nd n cap i : Nat} {ao : Option Addr}
    (cn : A.cell? ⟨Bn, 0, none⟩ = some (.pointer (some ⟨nd, 0, none⟩))) (c0 : A.cell? ⟨nd, 0, none⟩ = some (.slice ao n cap)) (hi : ¬ (i : Int) < (n : Int))
    (hQ : Q .normal { tmps := #[y0, .pointer (some ⟨Bn, 0, none⟩), y2, .pointer (some ⟨m₀, 0, none⟩), y4, y5, .int .i64 (i : Int), y7, y8, y9, y10, y11, y12, y13, y14, y15, y16, y17, y18, y19, y20, y21, y22, y23, y24, y25, y26, y27, y28, y29, y30, y31, y32, y33, y34, y35, y36, y37, y38, y39, y40, y41, y42, y43, y44, y45, .int .i64 (i : Int), .pointer (some ⟨nd, 0, none⟩), .pointer (some ⟨nd, 0, none⟩), .pointer (some ⟨nd, 0, none⟩), .slice ao n cap, .int .i64 (n : Int), .bool false, .bool false, undef, undef, undef, undef, undef, undef, undef, undef, undef, undef, undef, undef, undef, undef, undef, undef, undef, undef, undef, .bool false], defers := ds } A.drew) :
    (Code.region 11 #[{ dst := some 46, op := Op.move (Operand.tmp 6), type := 3, pos := "node.go:78", after := #[], guard := none }, { dst := some 47, op := Op.load 46 (Operand.tmp 1), type := 46, pos := "node.go:78", after := #[], guard := none }, { dst := some 48, op := Op.nilCheck (Operand.tmp 47), type := 0, pos := "node.go:78", after := #[{ on := 1, ground := Ground.data }], guard := none }, { dst := some 49, op := Op.fieldAddr 67 (Operand.tmp 48) 0, type := 0, pos := "node.go:78", after := #[{ on := 2, ground := Ground.data }], guard := none }, { dst := some 50, op := Op.load 27 (Operand.tmp 49), type := 27, pos := "node.go:78", after := #[{ on := 3, ground := Ground.data }], guard := none }, { dst := some 51, op := Op.call { callee := Callee.builtin Builtin.len, args := #[Operand.tmp 50], argTypes := #[27] }, type := 3, pos := "node.go:78", after := #[{ on := 4, ground := Ground.data }], guard := none }, { dst := some 52, op := Op.binOp BinOp.lss 3 (Operand.tmp 46) (Operand.tmp 51) 3, type := 4, pos := "node.go:78", after := #[{ on := 0, ground := Ground.data }, { on := 5, ground := Ground.data }], guard := none }, { dst := some 53, op := Op.move (Operand.tmp 52), type := 4, pos := "node.go:78", after := #[{ on := 6, ground := Ground.data }], guard := none }, { dst := some 54, op := Op.load 42 (Operand.tmp 3), type := 42, pos := "node.go:78", after := #[{ on := 7, ground := Ground.guard }], guard := some (7, true) }, { dst := some 55, op := Op.load 46 (Operand.tmp 1), type := 46, pos := "node.go:78", after := #[{ on := 7, ground := Ground.guard }], guard := some (7, true) }, { dst := some 56, op := Op.nilCheck (Operand.tmp 55), type := 0, pos := "node.go:78", after := #[{ on := 9, ground := Ground.data }, { on := 7, ground := Ground.guard }], guard := some (7, true) }, { dst := some 57, op := Op.fieldAddr 67 (Operand.tmp 56) 0, type := 0, pos := "node.go:78", after := #[{ on := 10, ground := Ground.data }, { on := 7, ground := Ground.guard }], guard := some (7, true) }, { dst := some 58, op := Op.load 27 (Operand.tmp 57), type := 27, pos := "node.go:78", after := #[{ on := 11, ground := Ground.data }, { on := 7, ground := Ground.guard }], guard := some (7, true) }, { dst := some 59, op := Op.move (Operand.tmp 6), type := 3, pos := "node.go:78", after := #[{ on := 7, ground := Ground.guard }], guard := some (7, true) }, { dst := some 60, op := Op.indexAddr 27 (Operand.tmp 58) (Operand.tmp 59), type := 0, pos := "node.go:78", after := #[{ on := 12, ground := Ground.data }, { on := 13, ground := Ground.data }, { on := 7, ground := Ground.guard }], guard := some (7, true) }, { dst := some 61, op := Op.fieldAddr 40 (Operand.tmp 60) 0, type := 0, pos := "node.go:78", after := #[{ on := 14, ground := Ground.data }, { on := 7, ground := Ground.guard }], guard := some (7, true) }, { dst := some 62, op := Op.load 9 (Operand.tmp 61), type := 9, pos := "node.go:78", after := #[{ on := 15, ground := Ground.data }, { on := 7, ground := Ground.guard }], guard := some (7, true) }, { dst := some 63, op := Op.load 46 (Operand.tmp 1), type := 46, pos := "node.go:78", after := #[{ on := 7, ground := Ground.guard }], guard := some (7, true) }, { dst := some 64, op := Op.nilCheck (Operand.tmp 63), type := 0, pos := "node.go:78", after := #[{ on := 17, ground := Ground.data }, { on := 7, ground := Ground.guard }], guard := some (7, true) }, { dst := some 65, op := Op.fieldAddr 67 (Operand.tmp 64) 0, type := 0, pos := "node.go:78", after := #[{ on := 18, ground := Ground.data }, { on := 7, ground := Ground.guard }], guard := some (7, true) }, { dst := some 66, op := Op.load 27 (Operand.tmp 65), type := 27, pos := "node.go:78", after := #[{ on := 19, ground := Ground.data }, { on := 7, ground := Ground.guard }], guard := some (7, true) }, { dst := some 67, op := Op.move (Operand.tmp 6), type := 3, pos := "node.go:78", after := #[{ on := 7, ground := Ground.guard }], guard := some (7, true) }, { dst := some 68, op := Op.indexAddr 27 (Operand.tmp 66) (Operand.tmp 67), type := 0, pos := "node.go:78", after := #[{ on := 20, ground := Ground.data }, { on := 21, ground := Ground.data }, { on := 7, ground := Ground.guard }], guard := some (7, true) }, { dst := some 69, op := Op.fieldAddr 40 (Operand.tmp 68) 1, type := 0, pos := "node.go:78", after := #[{ on := 22, ground := Ground.data }, { on := 7, ground := Ground.guard }], guard := some (7, true) }, { dst := some 70, op := Op.load 9 (Operand.tmp 69), type := 9, pos := "node.go:78", after := #[{ on := 23, ground := Ground.data }, { on := 7, ground := Ground.guard }], guard := some (7, true) }, { dst := some 71, op := Op.call { callee := Callee.value (Operand.tmp 54), args := #[Operand.tmp 62, Operand.tmp 70], argTypes := #[9, 9] }, type := 4, pos := "node.go:78", after := #[{ on := 8, ground := Ground.data }, { on := 16, ground := Ground.data }, { on := 24, ground := Ground.data }, { on := 7, ground := Ground.chain }, { on := 7, ground := Ground.guard }], guard := some (7, true) }, { dst := some 72, op := Op.unOp UnOp.not 4 (Operand.tmp 71), type := 4, pos := "node.go:78", after := #[{ on := 25, ground := Ground.data }, { on := 7, ground := Ground.guard }], guard := some (7, true) }, { dst := some 73, op := Op.pick (Operand.tmp 53) (Operand.tmp 72) (Operand.const (Value.bool false)), type := 4, pos := "node.go:78", after := #[{ on := 7, ground := Ground.data }, { on := 26, ground := Ground.data }], guard := none }] true).wpIn Fence.wide dd Try.prog Q { tmps := #[y0, .pointer (some ⟨Bn, 0, none⟩), y2, .pointer (some ⟨m₀, 0, none⟩), y4, y5, .int .i64 (i : Int), y7, y8, y9, y10, y11, y12, y13, y14, y15, y16, y17, y18, y19, y20, y21, y22, y23, y24, y25, y26, y27, y28, y29, y30, y31, y32, y33, y34, y35, y36, y37, y38, y39, y40, y41, y42, y43, y44, y45, y46, y47, y48, y49, y50, y51, y52, y53, y54, y55, y56, y57, y58, y59, y60, y61, y62, y63, y64, y65, y66, y67, y68, y69, y70, y71, y72, y73], defers := ds } A := by
  refine wpIn_mono (Q := fun x a' w' => match x with | .normal => Q .normal a' w' | _ => False) ?_ (by intro x a' w' h; cases x <;> first | exact h | exact h.elim)
  obtain ⟨S, hSd⟩ : ∃ S : World → Prop, S = fun W => W.cell? ⟨Bn, 0, none⟩ = some (.pointer (some ⟨nd, 0, none⟩)) ∧ W.cell? ⟨nd, 0, none⟩ = some (.slice ao n cap) := ⟨_, rfl⟩
  refine region_S (S := S) (by kernel_rfl) ?_
  have hS : S A.drew := by rw [hSd]; exact ⟨cn, c0⟩
  change anyS Fence.wide dd Try.prog .any _ _ S 28 (Array.replicate 28 false) _ A.drew
  refine anyS_take (i := 0) (oi := { dst := some 46, op := Op.move (Operand.tmp 6), type := 3, pos := "node.go:78", after := #[], guard := none }) (v := .int .i64 (i : Int)) rfl rfl (by kernel_rfl) (by kernel_rfl) (by kernel_rfl) (fun _ _ _ h => h.elim) ⟨Or.inl ⟨by rfl, ?z0⟩, fun _ => rfl⟩ hS ?_
  case z0 =>
    intro W hW
    rw [hSd] at hW; obtain ⟨s2, s3⟩ := hW
    go_simp
  simp only [Act.put, List.setIfInBounds_toArray, List.set_cons_zero, List.set_cons_succ]
  refine anyS_take (i := 1) (oi := { dst := some 47, op := Op.load 46 (Operand.tmp 1), type := 46, pos := "node.go:78", after := #[], guard := none }) (v := .pointer (some ⟨nd, 0, none⟩)) rfl rfl (by kernel_rfl) (by kernel_rfl) (by kernel_rfl) (fun _ _ _ h => h.elim) ⟨Or.inl ⟨by rfl, ?z1⟩, fun _ => rfl⟩ hS ?_
  case z1 =>
    intro W hW
    rw [hSd] at hW; obtain ⟨s2, s3⟩ := hW
    go_simp
  simp only [Act.put, List.setIfInBounds_toArray, List.set_cons_zero, List.set_cons_succ]
  refine anyS_take (i := 2) (oi := { dst := some 48, op := Op.nilCheck (Operand.tmp 47), type := 0, pos := "node.go:78", after := #[{ on := 1, ground := Ground.data }], guard := none }) (v := .pointer (some ⟨nd, 0, none⟩)) rfl rfl (by kernel_rfl) (by kernel_rfl) (by kernel_rfl) (fun _ _ _ h => h.elim) ⟨Or.inl ⟨by rfl, ?z2⟩, fun _ => rfl⟩ hS ?_
  case z2 =>
    intro W hW
    rw [hSd] at hW; obtain ⟨s2, s3⟩ := hW
    go_simp
  simp only [Act.put, List.setIfInBounds_toArray, List.set_cons_zero, List.set_cons_succ]
  refine anyS_take (i := 3) (oi := { dst := some 49, op := Op.fieldAddr 67 (Operand.tmp 48) 0, type := 0, pos := "node.go:78", after := #[{ on := 2, ground := Ground.data }], guard := none }) (v := .pointer (some ⟨nd, 0, none⟩)) rfl rfl (by kernel_rfl) (by kernel_rfl) (by kernel_rfl) (fun _ _ _ h => h.elim) ⟨Or.inl ⟨by rfl, ?z3⟩, fun _ => rfl⟩ hS ?_
  case z3 =>
    intro W hW
    rw [hSd] at hW; obtain ⟨s2, s3⟩ := hW
    go_simp
  simp only [Act.put, List.setIfInBounds_toArray, List.set_cons_zero, List.set_cons_succ]
  refine anyS_take (i := 4) (oi := { dst := some 50, op := Op.load 27 (Operand.tmp 49), type := 27, pos := "node.go:78", after := #[{ on := 3, ground := Ground.data }], guard := none }) (v := .slice ao n cap) rfl rfl (by kernel_rfl) (by kernel_rfl) (by kernel_rfl) (fun _ _ _ h => h.elim) ⟨Or.inl ⟨by rfl, ?z4⟩, fun _ => rfl⟩ hS ?_
  case z4 =>
    intro W hW
    rw [hSd] at hW; obtain ⟨s2, s3⟩ := hW
    go_simp
  simp only [Act.put, List.setIfInBounds_toArray, List.set_cons_zero, List.set_cons_succ]
  refine anyS_take (i := 5) (oi := { dst := some 51, op := Op.call { callee := Callee.builtin Builtin.len, args := #[Operand.tmp 50], argTypes := #[27] }, type := 3, pos := "node.go:78", after := #[{ on := 4, ground := Ground.data }], guard := none }) (v := .int .i64 (n : Int)) rfl rfl (by kernel_rfl) (by kernel_rfl) (by kernel_rfl) (fun _ _ _ h => h.elim) ⟨Or.inl ⟨by rfl, ?z5⟩, fun _ => rfl⟩ hS ?_
  case z5 =>
    intro W hW
    rw [hSd] at hW; obtain ⟨s2, s3⟩ := hW
    go_simp
  simp only [Act.put, List.setIfInBounds_toArray, List.set_cons_zero, List.set_cons_succ]
  refine anyS_take (i := 6) (oi := { dst := some 52, op := Op.binOp BinOp.lss 3 (Operand.tmp 46) (Operand.tmp 51) 3, type := 4, pos := "node.go:78", after := #[{ on := 0, ground := Ground.data }, { on := 5, ground := Ground.data }], guard := none }) (v := .bool false) rfl rfl (by kernel_rfl) (by kernel_rfl) (by kernel_rfl) (fun _ _ _ h => h.elim) ⟨Or.inl ⟨by rfl, ?z6⟩, fun _ => rfl⟩ hS ?_
  case z6 =>
    intro W hW
    rw [hSd] at hW; obtain ⟨s2, s3⟩ := hW
    go_simp
  simp only [Act.put, List.setIfInBounds_toArray, List.set_cons_zero, List.set_cons_succ]
  refine anyS_take (i := 7) (oi := { dst := some 53, op := Op.move (Operand.tmp 52), type := 4, pos := "node.go:78", after := #[{ on := 6, ground := Ground.data }], guard := none }) (v := .bool false) rfl rfl (by kernel_rfl) (by kernel_rfl) (by kernel_rfl) (fun _ _ _ h => h.elim) ⟨Or.inl ⟨by rfl, ?z7⟩, fun _ => rfl⟩ hS ?_
  case z7 =>
    intro W hW
    rw [hSd] at hW; obtain ⟨s2, s3⟩ := hW
    go_simp
  simp only [Act.put, List.setIfInBounds_toArray, List.set_cons_zero, List.set_cons_succ]
  refine anyS_take (i := 8) (oi := { dst := some 54, op := Op.load 42 (Operand.tmp 3), type := 42, pos := "node.go:78", after := #[{ on := 7, ground := Ground.guard }], guard := some (7, true) }) (v := undef) rfl rfl (by kernel_rfl) (by kernel_rfl) (by kernel_rfl) (fun _ _ _ h => h.elim) ⟨Or.inr ⟨by rfl, rfl⟩, fun _ => rfl⟩ hS ?_
  simp only [Act.put, List.setIfInBounds_toArray, List.set_cons_zero, List.set_cons_succ]
  refine anyS_take (i := 9) (oi := { dst := some 55, op := Op.load 46 (Operand.tmp 1), type := 46, pos := "node.go:78", after := #[{ on := 7, ground := Ground.guard }], guard := some (7, true) }) (v := undef) rfl rfl (by kernel_rfl) (by kernel_rfl) (by kernel_rfl) (fun _ _ _ h => h.elim) ⟨Or.inr ⟨by rfl, rfl⟩, fun _ => rfl⟩ hS ?_
  simp only [Act.put, List.setIfInBounds_toArray, List.set_cons_zero, List.set_cons_succ]
  refine anyS_take (i := 10) (oi := { dst := some 56, op := Op.nilCheck (Operand.tmp 55), type := 0, pos := "node.go:78", after := #[{ on := 9, ground := Ground.data }, { on := 7, ground := Ground.guard }], guard := some (7, true) }) (v := undef) rfl rfl (by kernel_rfl) (by kernel_rfl) (by kernel_rfl) (fun _ _ _ h => h.elim) ⟨Or.inr ⟨by rfl, rfl⟩, fun _ => rfl⟩ hS ?_
  simp only [Act.put, List.setIfInBounds_toArray, List.set_cons_zero, List.set_cons_succ]
  refine anyS_take (i := 11) (oi := { dst := some 57, op := Op.fieldAddr 67 (Operand.tmp 56) 0, type := 0, pos := "node.go:78", after := #[{ on := 10, ground := Ground.data }, { on := 7, ground := Ground.guard }], guard := some (7, true) }) (v := undef) rfl rfl (by kernel_rfl) (by kernel_rfl) (by kernel_rfl) (fun _ _ _ h => h.elim) ⟨Or.inr ⟨by rfl, rfl⟩, fun _ => rfl⟩ hS ?_
  simp only [Act.put, List.setIfInBounds_toArray, List.set_cons_zero, List.set_cons_succ]
  refine anyS_take (i := 12) (oi := { dst := some 58, op := Op.load 27 (Operand.tmp 57), type := 27, pos := "node.go:78", after := #[{ on := 11, ground := Ground.data }, { on := 7, ground := Ground.guard }], guard := some (7, true) }) (v := undef) rfl rfl (by kernel_rfl) (by kernel_rfl) (by kernel_rfl) (fun _ _ _ h => h.elim) ⟨Or.inr ⟨by rfl, rfl⟩, fun _ => rfl⟩ hS ?_
  simp only [Act.put, List.setIfInBounds_toArray, List.set_cons_zero, List.set_cons_succ]
  refine anyS_take (i := 13) (oi := { dst := some 59, op := Op.move (Operand.tmp 6), type := 3, pos := "node.go:78", after := #[{ on := 7, ground := Ground.guard }], guard := some (7, true) }) (v := undef) rfl rfl (by kernel_rfl) (by kernel_rfl) (by kernel_rfl) (fun _ _ _ h => h.elim) ⟨Or.inr ⟨by rfl, rfl⟩, fun _ => rfl⟩ hS ?_
  simp only [Act.put, List.setIfInBounds_toArray, List.set_cons_zero, List.set_cons_succ]
  refine anyS_take (i := 14) (oi := { dst := some 60, op := Op.indexAddr 27 (Operand.tmp 58) (Operand.tmp 59), type := 0, pos := "node.go:78", after := #[{ on := 12, ground := Ground.data }, { on := 13, ground := Ground.data }, { on := 7, ground := Ground.guard }], guard := some (7, true) }) (v := undef) rfl rfl (by kernel_rfl) (by kernel_rfl) (by kernel_rfl) (fun _ _ _ h => h.elim) ⟨Or.inr ⟨by rfl, rfl⟩, fun _ => rfl⟩ hS ?_
  simp only [Act.put, List.setIfInBounds_toArray, List.set_cons_zero, List.set_cons_succ]
  refine anyS_take (i := 15) (oi := { dst := some 61, op := Op.fieldAddr 40 (Operand.tmp 60) 0, type := 0, pos := "node.go:78", after := #[{ on := 14, ground := Ground.data }, { on := 7, ground := Ground.guard }], guard := some (7, true) }) (v := undef) rfl rfl (by kernel_rfl) (by kernel_rfl) (by kernel_rfl) (fun _ _ _ h => h.elim) ⟨Or.inr ⟨by rfl, rfl⟩, fun _ => rfl⟩ hS ?_
  simp only [Act.put, List.setIfInBounds_toArray, List.set_cons_zero, List.set_cons_succ]
  refine anyS_take (i := 16) (oi := { dst := some 62, op := Op.load 9 (Operand.tmp 61), type := 9, pos := "node.go:78", after := #[{ on := 15, ground := Ground.data }, { on := 7, ground := Ground.guard }], guard := some (7, true) }) (v := undef) rfl rfl (by kernel_rfl) (by kernel_rfl) (by kernel_rfl) (fun _ _ _ h => h.elim) ⟨Or.inr ⟨by rfl, rfl⟩, fun _ => rfl⟩ hS ?_
  simp only [Act.put, List.setIfInBounds_toArray, List.set_cons_zero, List.set_cons_succ]
  refine anyS_take (i := 17) (oi := { dst := some 63, op := Op.load 46 (Operand.tmp 1), type := 46, pos := "node.go:78", after := #[{ on := 7, ground := Ground.guard }], guard := some (7, true) }) (v := undef) rfl rfl (by kernel_rfl) (by kernel_rfl) (by kernel_rfl) (fun _ _ _ h => h.elim) ⟨Or.inr ⟨by rfl, rfl⟩, fun _ => rfl⟩ hS ?_
  simp only [Act.put, List.setIfInBounds_toArray, List.set_cons_zero, List.set_cons_succ]
  refine anyS_take (i := 18) (oi := { dst := some 64, op := Op.nilCheck (Operand.tmp 63), type := 0, pos := "node.go:78", after := #[{ on := 17, ground := Ground.data }, { on := 7, ground := Ground.guard }], guard := some (7, true) }) (v := undef) rfl rfl (by kernel_rfl) (by kernel_rfl) (by kernel_rfl) (fun _ _ _ h => h.elim) ⟨Or.inr ⟨by rfl, rfl⟩, fun _ => rfl⟩ hS ?_
  simp only [Act.put, List.setIfInBounds_toArray, List.set_cons_zero, List.set_cons_succ]
  refine anyS_take (i := 19) (oi := { dst := some 65, op := Op.fieldAddr 67 (Operand.tmp 64) 0, type := 0, pos := "node.go:78", after := #[{ on := 18, ground := Ground.data }, { on := 7, ground := Ground.guard }], guard := some (7, true) }) (v := undef) rfl rfl (by kernel_rfl) (by kernel_rfl) (by kernel_rfl) (fun _ _ _ h => h.elim) ⟨Or.inr ⟨by rfl, rfl⟩, fun _ => rfl⟩ hS ?_
  simp only [Act.put, List.setIfInBounds_toArray, List.set_cons_zero, List.set_cons_succ]
  refine anyS_take (i := 20) (oi := { dst := some 66, op := Op.load 27 (Operand.tmp 65), type := 27, pos := "node.go:78", after := #[{ on := 19, ground := Ground.data }, { on := 7, ground := Ground.guard }], guard := some (7, true) }) (v := undef) rfl rfl (by kernel_rfl) (by kernel_rfl) (by kernel_rfl) (fun _ _ _ h => h.elim) ⟨Or.inr ⟨by rfl, rfl⟩, fun _ => rfl⟩ hS ?_
  simp only [Act.put, List.setIfInBounds_toArray, List.set_cons_zero, List.set_cons_succ]
  refine anyS_take (i := 21) (oi := { dst := some 67, op := Op.move (Operand.tmp 6), type := 3, pos := "node.go:78", after := #[{ on := 7, ground := Ground.guard }], guard := some (7, true) }) (v := undef) rfl rfl (by kernel_rfl) (by kernel_rfl) (by kernel_rfl) (fun _ _ _ h => h.elim) ⟨Or.inr ⟨by rfl, rfl⟩, fun _ => rfl⟩ hS ?_
  simp only [Act.put, List.setIfInBounds_toArray, List.set_cons_zero, List.set_cons_succ]
  refine anyS_take (i := 22) (oi := { dst := some 68, op := Op.indexAddr 27 (Operand.tmp 66) (Operand.tmp 67), type := 0, pos := "node.go:78", after := #[{ on := 20, ground := Ground.data }, { on := 21, ground := Ground.data }, { on := 7, ground := Ground.guard }], guard := some (7, true) }) (v := undef) rfl rfl (by kernel_rfl) (by kernel_rfl) (by kernel_rfl) (fun _ _ _ h => h.elim) ⟨Or.inr ⟨by rfl, rfl⟩, fun _ => rfl⟩ hS ?_
  simp only [Act.put, List.setIfInBounds_toArray, List.set_cons_zero, List.set_cons_succ]
  refine anyS_take (i := 23) (oi := { dst := some 69, op := Op.fieldAddr 40 (Operand.tmp 68) 1, type := 0, pos := "node.go:78", after := #[{ on := 22, ground := Ground.data }, { on := 7, ground := Ground.guard }], guard := some (7, true) }) (v := undef) rfl rfl (by kernel_rfl) (by kernel_rfl) (by kernel_rfl) (fun _ _ _ h => h.elim) ⟨Or.inr ⟨by rfl, rfl⟩, fun _ => rfl⟩ hS ?_
  simp only [Act.put, List.setIfInBounds_toArray, List.set_cons_zero, List.set_cons_succ]
  refine anyS_take (i := 24) (oi := { dst := some 70, op := Op.load 9 (Operand.tmp 69), type := 9, pos := "node.go:78", after := #[{ on := 23, ground := Ground.data }, { on := 7, ground := Ground.guard }], guard := some (7, true) }) (v := undef) rfl rfl (by kernel_rfl) (by kernel_rfl) (by kernel_rfl) (fun _ _ _ h => h.elim) ⟨Or.inr ⟨by rfl, rfl⟩, fun _ => rfl⟩ hS ?_
  simp only [Act.put, List.setIfInBounds_toArray, List.set_cons_zero, List.set_cons_succ]
  refine anyS_take (i := 25) (oi := { dst := some 71, op := Op.call { callee := Callee.value (Operand.tmp 54), args := #[Operand.tmp 62, Operand.tmp 70], argTypes := #[9, 9] }, type := 4, pos := "node.go:78", after := #[{ on := 8, ground := Ground.data }, { on := 16, ground := Ground.data }, { on := 24, ground := Ground.data }, { on := 7, ground := Ground.chain }, { on := 7, ground := Ground.guard }], guard := some (7, true) }) (v := undef) rfl rfl (by kernel_rfl) (by kernel_rfl) (by kernel_rfl) (fun _ _ _ h => h.elim) ⟨Or.inr ⟨by rfl, rfl⟩, fun _ => rfl⟩ hS ?_
  simp only [Act.put, List.setIfInBounds_toArray, List.set_cons_zero, List.set_cons_succ]
  refine anyS_take (i := 26) (oi := { dst := some 72, op := Op.unOp UnOp.not 4 (Operand.tmp 71), type := 4, pos := "node.go:78", after := #[{ on := 25, ground := Ground.data }, { on := 7, ground := Ground.guard }], guard := some (7, true) }) (v := undef) rfl rfl (by kernel_rfl) (by kernel_rfl) (by kernel_rfl) (fun _ _ _ h => h.elim) ⟨Or.inr ⟨by rfl, rfl⟩, fun _ => rfl⟩ hS ?_
  simp only [Act.put, List.setIfInBounds_toArray, List.set_cons_zero, List.set_cons_succ]
  refine anyS_take (i := 27) (oi := { dst := some 73, op := Op.pick (Operand.tmp 53) (Operand.tmp 72) (Operand.const (Value.bool false)), type := 4, pos := "node.go:78", after := #[{ on := 7, ground := Ground.data }, { on := 26, ground := Ground.data }], guard := none }) (v := .bool false) rfl rfl (by kernel_rfl) (by kernel_rfl) (by kernel_rfl) (fun _ _ _ h => h.elim) ⟨Or.inl ⟨by rfl, ?z27⟩, fun _ => rfl⟩ hS ?_
  case z27 =>
    intro W hW
    rw [hSd] at hW; obtain ⟨s2, s3⟩ := hW
    go_simp
  simp only [Act.put, List.setIfInBounds_toArray, List.set_cons_zero, List.set_cons_succ]
  refine anyS_done (by kernel_rfl) ?_ _
  exact hQ
end Go.Proofs.Ytnagknlfboadkaa.Oct

/- Layer 7 (tree): the statement of the closure of 'from' that takes a kid's iterator, whatever its order. -/
namespace Go.Proofs.Ytnagknlfboadkaa.Oct
open Go.RowKit
attribute [local go_sem] Oper.semAt_some
set_option maxRecDepth 100000 in
set_option maxHeartbeats 2000000 in
theorem reg7 {Q : Exit → Act → World → Prop} {y0 y3 y4 y5 y7 y8 y9 y10 y11 y12 y13 y14 y15 y16 y17 y18 y19 y20 y21 y22 y23 y24 y25 y26 y27 y28 y29 y30 y31 y32 y33 y34 y35 y36 y37 y38 y39 y40 y41 y42 y43 y44 y45 y46 y47 y48 y49 y50 y51 y52 y53 y54 y55 y56 y57 y58 y59 y60 y61 y62 y63 y64 y65 y66 y67 y68 y69 y70 y71 y72 y73 : Value} {ds : List Deferred} {A : World} {dd Bn Bk nd g off n cap i kb : Nat} {key : ByteArray} {R : Ending → World → Prop}
    (hc : A.cell? ⟨Bn, 0, none⟩ = some (.pointer (some ⟨nd, 0, none⟩)) ∧ A.cell? ⟨Bk, 0, none⟩ = some (.string key) ∧ A.cell? ⟨nd, 1, none⟩ = some (.slice (some ⟨g, off, none⟩) n cap) ∧ A.cell? ⟨g, off + i, none⟩ = some (.pointer (some ⟨kb, 0, none⟩))) (hi : (i : Int) < (n : Int))
    (hF : CallsIn Fence.wide (dd - 1) Try.prog 29 #[.pointer (some ⟨kb, 0, none⟩), .string key] A.drew R)
    (hR : ∀ e B, R e B → ∃ v : Value, e = .returned v ∧ B.cell? ⟨Bn, 0, none⟩ = some (.pointer (some ⟨nd, 0, none⟩)) ∧ B.cell? ⟨Bk, 0, none⟩ = some (.string key) ∧ B.cell? ⟨nd, 1, none⟩ = some (.slice (some ⟨g, off, none⟩) n cap) ∧ B.cell? ⟨g, off + i, none⟩ = some (.pointer (some ⟨kb, 0, none⟩)))
    (hQ : ∀ v B, R (.returned v) B → Q .normal { tmps := #[y0, .pointer (some ⟨Bn, 0, none⟩), .pointer (some ⟨Bk, 0, none⟩), y3, y4, y5, .int .i64 (i : Int), y7, y8, y9, y10, y11, y12, y13, y14, y15, y16, y17, y18, y19, y20, y21, y22, y23, y24, y25, y26, y27, y28, y29, .pointer (some ⟨nd, 0, none⟩), .pointer (some ⟨nd, 0, none⟩), .pointer (some ⟨nd, 1, none⟩), .slice (some ⟨g, off, none⟩) n cap, .int .i64 (i : Int), .pointer (some ⟨g, off + i, none⟩), .pointer (some ⟨kb, 0, none⟩), .string key, v, y39, y40, y41, y42, y43, y44, y45, y46, y47, y48, y49, y50, y51, y52, y53, y54, y55, y56, y57, y58, y59, y60, y61, y62, y63, y64, y65, y66, y67, y68, y69, y70, y71, y72, y73], defers := ds } B) :
    (Code.region 7 #[{ dst := some 30, op := Op.load 46 (Operand.tmp 1), type := 46, pos := "node.go:72", after := #[], guard := none }, { dst := some 31, op := Op.nilCheck (Operand.tmp 30), type := 0, pos := "node.go:72", after := #[{ on := 0, ground := Ground.data }], guard := none }, { dst := some 32, op := Op.fieldAddr 67 (Operand.tmp 31) 1, type := 0, pos := "node.go:72", after := #[{ on := 1, ground := Ground.data }], guard := none }, { dst := some 33, op := Op.load 65 (Operand.tmp 32), type := 65, pos := "node.go:72", after := #[{ on := 2, ground := Ground.data }], guard := none }, { dst := some 34, op := Op.move (Operand.tmp 6), type := 3, pos := "node.go:72", after := #[], guard := none }, { dst := some 35, op := Op.indexAddr 65 (Operand.tmp 33) (Operand.tmp 34), type := 0, pos := "node.go:72", after := #[{ on := 3, ground := Ground.data }, { on := 4, ground := Ground.data }], guard := none }, { dst := some 36, op := Op.load 46 (Operand.tmp 35), type := 46, pos := "node.go:72", after := #[{ on := 5, ground := Ground.data }], guard := none }, { dst := some 37, op := Op.load 9 (Operand.tmp 2), type := 9, pos := "node.go:72", after := #[], guard := none }, { dst := some 38, op := Op.call { callee := Callee.value (Operand.func 29), args := #[Operand.tmp 36, Operand.tmp 37], argTypes := #[46, 9] }, type := 37, pos := "node.go:72", after := #[{ on := 6, ground := Ground.data }, { on := 7, ground := Ground.data }], guard := none }] true).wpIn Fence.wide dd Try.prog Q { tmps := #[y0, .pointer (some ⟨Bn, 0, none⟩), .pointer (some ⟨Bk, 0, none⟩), y3, y4, y5, .int .i64 (i : Int), y7, y8, y9, y10, y11, y12, y13, y14, y15, y16, y17, y18, y19, y20, y21, y22, y23, y24, y25, y26, y27, y28, y29, y30, y31, y32, y33, y34, y35, y36, y37, y38, y39, y40, y41, y42, y43, y44, y45, y46, y47, y48, y49, y50, y51, y52, y53, y54, y55, y56, y57, y58, y59, y60, y61, y62, y63, y64, y65, y66, y67, y68, y69, y70, y71, y72, y73], defers := ds } A := by
  refine wpIn_mono (Q := fun x a' w' => match x with | .normal => Q .normal a' w' | _ => False) ?_ (by intro x a' w' h; cases x <;> first | exact h | exact h.elim)
  obtain ⟨S, hSd⟩ : ∃ S : World → Prop, S = fun W => W.cell? ⟨Bn, 0, none⟩ = some (.pointer (some ⟨nd, 0, none⟩)) ∧ W.cell? ⟨Bk, 0, none⟩ = some (.string key) ∧ W.cell? ⟨nd, 1, none⟩ = some (.slice (some ⟨g, off, none⟩) n cap) ∧ W.cell? ⟨g, off + i, none⟩ = some (.pointer (some ⟨kb, 0, none⟩)) := ⟨_, rfl⟩
  refine region_S (S := S) (by kernel_rfl) ?_
  have hS : S A.drew := by rw [hSd]; exact hc
  have hi2 : i < n := by omega
  change anyS Fence.wide dd Try.prog .any _ _ S 9 (Array.replicate 9 false) _ A.drew
  refine anyS_take (i := 0) (oi := { dst := some 30, op := Op.load 46 (Operand.tmp 1), type := 46, pos := "node.go:72", after := #[], guard := none }) (v := .pointer (some ⟨nd, 0, none⟩)) rfl rfl (by kernel_rfl) (by kernel_rfl) (by kernel_rfl) (fun _ _ _ h => h.elim) ⟨Or.inl ⟨by rfl, ?z0⟩, fun _ => rfl⟩ hS ?_
  case z0 =>
    intro W hW
    rw [hSd] at hW; obtain ⟨s1, s2, s3, s4⟩ := hW
    go_simp
  simp only [Act.put, List.setIfInBounds_toArray, List.set_cons_zero, List.set_cons_succ]
  refine anyS_take (i := 1) (oi := { dst := some 31, op := Op.nilCheck (Operand.tmp 30), type := 0, pos := "node.go:72", after := #[{ on := 0, ground := Ground.data }], guard := none }) (v := .pointer (some ⟨nd, 0, none⟩)) rfl rfl (by kernel_rfl) (by kernel_rfl) (by kernel_rfl) (fun _ _ _ h => h.elim) ⟨Or.inl ⟨by rfl, ?z1⟩, fun _ => rfl⟩ hS ?_
  case z1 =>
    intro W hW
    rw [hSd] at hW; obtain ⟨s1, s2, s3, s4⟩ := hW
    go_simp
  simp only [Act.put, List.setIfInBounds_toArray, List.set_cons_zero, List.set_cons_succ]
  refine anyS_take (i := 2) (oi := { dst := some 32, op := Op.fieldAddr 67 (Operand.tmp 31) 1, type := 0, pos := "node.go:72", after := #[{ on := 1, ground := Ground.data }], guard := none }) (v := .pointer (some ⟨nd, 1, none⟩)) rfl rfl (by kernel_rfl) (by kernel_rfl) (by kernel_rfl) (fun _ _ _ h => h.elim) ⟨Or.inl ⟨by rfl, ?z2⟩, fun _ => rfl⟩ hS ?_
  case z2 =>
    intro W hW
    rw [hSd] at hW; obtain ⟨s1, s2, s3, s4⟩ := hW
    go_simp
  simp only [Act.put, List.setIfInBounds_toArray, List.set_cons_zero, List.set_cons_succ]
  refine anyS_take (i := 3) (oi := { dst := some 33, op := Op.load 65 (Operand.tmp 32), type := 65, pos := "node.go:72", after := #[{ on := 2, ground := Ground.data }], guard := none }) (v := .slice (some ⟨g, off, none⟩) n cap) rfl rfl (by kernel_rfl) (by kernel_rfl) (by kernel_rfl) (fun _ _ _ h => h.elim) ⟨Or.inl ⟨by rfl, ?z3⟩, fun _ => rfl⟩ hS ?_
  case z3 =>
    intro W hW
    rw [hSd] at hW; obtain ⟨s1, s2, s3, s4⟩ := hW
    go_simp
  simp only [Act.put, List.setIfInBounds_toArray, List.set_cons_zero, List.set_cons_succ]
  refine anyS_take (i := 4) (oi := { dst := some 34, op := Op.move (Operand.tmp 6), type := 3, pos := "node.go:72", after := #[], guard := none }) (v := .int .i64 (i : Int)) rfl rfl (by kernel_rfl) (by kernel_rfl) (by kernel_rfl) (fun _ _ _ h => h.elim) ⟨Or.inl ⟨by rfl, ?z4⟩, fun _ => rfl⟩ hS ?_
  case z4 =>
    intro W hW
    rw [hSd] at hW; obtain ⟨s1, s2, s3, s4⟩ := hW
    go_simp
  simp only [Act.put, List.setIfInBounds_toArray, List.set_cons_zero, List.set_cons_succ]
  refine anyS_take (i := 5) (oi := { dst := some 35, op := Op.indexAddr 65 (Operand.tmp 33) (Operand.tmp 34), type := 0, pos := "node.go:72", after := #[{ on := 3, ground := Ground.data }, { on := 4, ground := Ground.data }], guard := none }) (v := .pointer (some ⟨g, off + i, none⟩)) rfl rfl (by kernel_rfl) (by kernel_rfl) (by kernel_rfl) (fun _ _ _ h => h.elim) ⟨Or.inl ⟨by rfl, ?z5⟩, fun _ => rfl⟩ hS ?_
  case z5 =>
    intro W hW
    rw [hSd] at hW; obtain ⟨s1, s2, s3, s4⟩ := hW
    go_simp
  simp only [Act.put, List.setIfInBounds_toArray, List.set_cons_zero, List.set_cons_succ]
  refine anyS_take (i := 6) (oi := { dst := some 36, op := Op.load 46 (Operand.tmp 35), type := 46, pos := "node.go:72", after := #[{ on := 5, ground := Ground.data }], guard := none }) (v := .pointer (some ⟨kb, 0, none⟩)) rfl rfl (by kernel_rfl) (by kernel_rfl) (by kernel_rfl) (fun _ _ _ h => h.elim) ⟨Or.inl ⟨by rfl, ?z6⟩, fun _ => rfl⟩ hS ?_
  case z6 =>
    intro W hW
    rw [hSd] at hW; obtain ⟨s1, s2, s3, s4⟩ := hW
    go_simp
  simp only [Act.put, List.setIfInBounds_toArray, List.set_cons_zero, List.set_cons_succ]
  refine anyS_take (i := 7) (oi := { dst := some 37, op := Op.load 9 (Operand.tmp 2), type := 9, pos := "node.go:72", after := #[], guard := none }) (v := .string key) rfl rfl (by kernel_rfl) (by kernel_rfl) (by kernel_rfl) (fun _ _ _ h => h.elim) ⟨Or.inl ⟨by rfl, ?z7⟩, fun _ => rfl⟩ hS ?_
  case z7 =>
    intro W hW
    rw [hSd] at hW; obtain ⟨s1, s2, s3, s4⟩ := hW
    go_simp
  simp only [Act.put, List.setIfInBounds_toArray, List.set_cons_zero, List.set_cons_succ]
  refine anyS_one (i := 8) (by kernel_rfl) (wpOpIn_step (o := { dst := some 38, op := Op.call { callee := Callee.value (Operand.func 29), args := #[Operand.tmp 36, Operand.tmp 37], argTypes := #[46, 9] }, type := 37, pos := "node.go:72", after := #[{ on := 6, ground := Ground.data }, { on := 7, ground := Ground.data }], guard := none }) rfl ?_)
  intro K' hK'
  rw [if_pos (by rfl)]
  refine ⟨fun _ _ => trivial, ?_⟩
  have hsem : ∀ a : Act, a.eval (.tmp 36) = .pointer (some ⟨kb, 0, none⟩) → a.eval (.tmp 37) = .string key → (Oper.semAt Fence.wide.round a.eval { dst := some 38, op := Op.call { callee := Callee.value (Operand.func 29), args := #[Operand.tmp 36, Operand.tmp 37], argTypes := #[46, 9] }, type := 37, pos := "node.go:72", after := #[{ on := 6, ground := Ground.data }, { on := 7, ground := Ground.data }], guard := none }).run Try.prog A.drew = .ok (.enter 29 #[.pointer (some ⟨kb, 0, none⟩), .string key]) A.drew := by
    intro a h1 h2
    rw [show Fence.wide.round = none from rfl, Oper.semAt_none]
    simp only [execOp, resolve, h1, h2, List.map_toArray, List.map_cons, List.map_nil]
    go_simp
  rw [hsem _ rfl rfl]
  refine ⟨fun h => (by cases h), hF.mono ?_⟩
  rintro e B hRB
  obtain ⟨v, rfl, hB⟩ := hR e B hRB
  refine hK' _ _ ⟨by rw [hSd]; exact hB, ?_⟩
  simp only [Act.put, List.setIfInBounds_toArray, List.set_cons_zero, List.set_cons_succ]
  refine anyS_done (by kernel_rfl) ?_ _
  exact hQ v B hRB
end Go.Proofs.Ytnagknlfboadkaa.Oct

/- A range over a function whose body may leave: what stands between two rounds is told by a place (a number); what is handed out is told by a list. Of no program. -/
namespace Go.Proofs.Ytnagknlfboadkaa.Oct
open Go.RowKit

theorem below_putObj (B : Nat) (W : World) (l : Nat) (o : Obj) (h : B ≤ l) : Below B W (W.putObj l o) :=
  ⟨rfl, rfl, rfl, by simp, fun _ hk => World.putObj_heap_other (by omega)⟩

/-- cells of pairs -/
def RowAt (A : World) (b : Nat) : Prop := ∃ cs fr, A.heap[b]? = some (.cells cs 40 fr)
/-- blocks from m₀ on, but for those of pairs, lie as they lay -/
def Held (m₀ : Nat) (A B : World) : Prop := A.heap.size ≤ B.heap.size ∧ ∀ b, b < A.heap.size → m₀ ≤ b → ¬ RowAt A b → B.heap[b]? = A.heap[b]?
theorem Held.mono {m₀ m₁ : Nat} {A B : World} (h : Held m₀ A B) (hm : m₀ ≤ m₁) : Held m₁ A B := ⟨h.1, fun b h1 h2 => h.2 b h1 (by omega)⟩
theorem Held.of_below {m₀ : Nat} {A B : World} (h : Below A.heap.size A B) : Held m₀ A B := ⟨h.size, fun b h1 _ _ => h.block b h1⟩
theorem Held.obj {m₀ : Nat} {A B : World} (h : Held m₀ A B) {b : Nat} {o : Obj} (ho : A.heap[b]? = some o) (hn : ∀ cs fr, o ≠ .cells cs 40 fr) (hb : m₀ ≤ b) : B.heap[b]? = some o :=
  (h.2 b (Array.getElem?_eq_some_iff.1 ho).1 hb (by rintro ⟨cs, fr, e⟩; rw [ho] at e; exact hn cs fr (Option.some.inj e))).trans ho
theorem Held.box {m₀ : Nat} {A B : World} (h : Held m₀ A B) {b : Nat} {C : Array Value} {t : TypeId} {fr : Nat × Nat} (ho : A.heap[b]? = some (.cells C t fr)) (hn : t ≠ 40) (hb : m₀ ≤ b) : B.heap[b]? = some (.cells C t fr) :=
  h.obj ho (by rintro cs fr e; cases e; exact hn rfl) hb
theorem Held.trans {m₀ : Nat} {A B C : World} (h : Held m₀ A B) (k : Held m₀ B C) : Held m₀ A C :=
  ⟨Nat.le_trans h.1 k.1, fun b h1 h2 h3 => by
    have e := h.2 b h1 h2 h3
    exact (k.2 b (Nat.lt_of_lt_of_le h1 h.1) h2 (by rintro ⟨cs, fr, e2⟩; exact h3 ⟨cs, fr, by rw [← e]; exact e2⟩)).trans e⟩

/-- what lies below D, and all cells of pairs, lie as they lay -/
structure BelowR (D : Nat) (A B : World) : Prop where
  below : Below D A B
  rows : ∀ b, b < A.heap.size → RowAt A b → B.heap[b]? = A.heap[b]?
theorem BelowR.mono {D D' : Nat} {A B : World} (h : BelowR D A B) (hD : D' ≤ D) : BelowR D' A B := ⟨h.below.mono hD, h.rows⟩
theorem BelowR.full {D : Nat} {A B : World} (h : Below A.heap.size A B) (hD : D ≤ A.heap.size) : BelowR D A B := ⟨h.mono hD, fun b hb _ => h.block b hb⟩
theorem belowR_putObj {D : Nat} {W : World} {l : Nat} {o' : Obj} (o : Obj) (h : D ≤ l) (hl : W.heap[l]? = some o') (hn : ∀ cs fr, o' ≠ .cells cs 40 fr) : BelowR D W (W.putObj l o) :=
  ⟨below_putObj D W l o h, fun b _ hr => World.putObj_heap_other (by
    rintro rfl
    obtain ⟨cs, fr, e⟩ := hr
    rw [hl] at e
    exact hn cs fr (Option.some.inj e))⟩
theorem loop_row {x : Loop} : ∀ cs fr, Obj.loop x ≠ .cells cs 40 fr := by rintro cs fr e; cases e
theorem def_row {x : Option (List Deferred)} : ∀ cs fr, Obj.deferred x ≠ .cells cs 40 fr := by rintro cs fr e; cases e

/-- how the body of a round may be left -/
def leavePost (I : Nat → World → Prop) (Ix : Code → World → Prop) (D : Nat) (s : Nat) (W : World) : Exit → Act → World → Prop
  | .normal, _, W' => I (s + 1) W' ∧ Held D W W'
  | .ret, _, W' => Ix .ret W' ∧ Held D W W'
  | .exit id, _, W' => Ix (.exit id) W' ∧ Held D W W'
  | .goto t, _, W' => Ix (.goto t) W' ∧ Held D W W'
  | .panic _, _, _ => False
  | .outgrown, _, _ => False

theorem rangeLeave {P : Program} {n : Nat} {g : Operand} {ps : Array Tmp} {assign body : Code} {Q : Exit → Act → World → Prop} {a : Act} {w : World} {X : Type} {gf : Nat} {lb : Array Value}
    (hg : a.eval g = .func (.func gf) #[] lb) (eg : ∀ args w, (callFunc gf args).run P w = .ok (.enter gf args) w)
    (enc : Nat → X → Array Value) (hps : ∀ s x, (enc s x).size = ps.size) (xs : List X)
    (I : Nat → World → Prop) (Ix : Code → World → Prop) (hI : ∀ s A B, I s A → BelowR w.heap.size A B → I s B) (hIx : ∀ c A B, Ix c A → BelowR w.heap.size A B → Ix c B)
    (h0 : I 0 w) (a₁ : Nat → X → Act)
    (hassign : ∀ (s : Nat) (x : X) (W : World) (K : Act → World → Prop), K (a₁ s x) W →
      assign.wpIn (Fence.wide.inRound (w.heap.size + 1)) (n - 1 - 1) P (Exit.then K (fun _ _ _ => False)) { tmps := (ps.zip (enc s x)).foldl (fun t (p, v) => t.setIfInBounds p v) a.tmps, defers := [] } W)
    (hbody : ∀ (s : Nat) (x : X) (W : World), I s W → xs[s]? = some x → w.heap.size + 1 < W.heap.size → body.wpIn (Fence.wide.inRound (w.heap.size + 1)) (n - 1 - 1) P
      (leavePost I Ix w.heap.size s W) (a₁ s x) W)
    (hiter : ∀ (J : Nat → World → Prop) (Jx : World → Prop) (W : World), W.heap.size = w.heap.size + 2 → Below w.heap.size w W → (∀ s A B, J s A → BelowR (w.heap.size + 2) A B → J s B) → (∀ A B, Jx A → BelowR (w.heap.size + 2) A B → Jx B) → (∀ s A, J s A → I s A ∧ w.heap.size + 2 ≤ A.heap.size) → (∀ A, Jx A → (∃ c, Ix c A) ∧ w.heap.size + 2 ≤ A.heap.size) →
      (∀ s x A, J s A → xs[s]? = some x → YieldAt Fence.wide (n - 1 - 1) P (w.heap.size + 1) (enc s x) A fun e B => Held (w.heap.size + 2) A B ∧ ((e = .returned (.bool true) ∧ J (s + 1) B) ∨ (e = .returned (.bool false) ∧ Jx B))) → J 0 W →
      CallsIn Fence.wide (n - 1) P gf (#[.func (.yield (w.heap.size + 1)) #[] #[]] ++ lb) W fun e B => (∃ v, e = .returned v) ∧ (J xs.length B ∨ Jx B))
    (hdone : ∀ (W : World), I xs.length W → W.heap[w.heap.size]? = some (.deferred (some [])) → Q .normal { a with defers := { target := .collected w.heap.size, args := #[] } :: a.defers } W)
    (hstop : ∀ (c : Code) (W : World), Ix c W → W.heap[w.heap.size]? = some (.deferred (some [])) → c.wpIn Fence.wide n P Q { a with defers := { target := .collected w.heap.size, args := #[] } :: a.defers } W) :
    (Code.rangeFunc g ps assign body).wpIn Fence.wide n P Q a w := by
  refine wpIn_rangeFunc fun fn hfn => ?_
  obtain ⟨rec, hrec⟩ : ∃ rec : LoopState → Option Code → Loop, rec = fun st pe => { state := st, pending := pe, fn, tmps := a.tmps, params := ps, assign, body, defers := w.heap.size } := ⟨_, rfl⟩
  obtain ⟨W1, hW1⟩ : ∃ W1, (w.alloc (.deferred (some []))).alloc (.loop (rec .ready none)) = W1 := ⟨_, rfl⟩
  have hS1 : W1.heap.size = w.heap.size + 2 := by rw [← hW1]; simp
  have hB1 : Below w.heap.size w W1 := by rw [← hW1]; exact ((Below.refl _ w).alloc (Nat.le_refl _) _).alloc (by simp) _
  have hL1 : W1.heap[w.heap.size + 1]? = some (.loop (rec .ready none)) := by
    have e := World.alloc_heap_new (w.alloc (.deferred (some []))) (.loop (rec .ready none))
    rw [World.size_alloc, hW1] at e
    exact e
  have hD1 : W1.heap[w.heap.size]? = some (.deferred (some [])) := by
    rw [← hW1]
    exact (Below.heap_alloc _ _ _ (by simp)).trans (World.alloc_heap_new w _)
  have hcall := hiter (fun s W => I s W ∧ W.heap[w.heap.size + 1]? = some (.loop (rec .ready none)) ∧ W.heap[w.heap.size]? = some (.deferred (some [])))
    (fun W => ∃ c, Ix c W ∧ W.heap[w.heap.size + 1]? = some (.loop (rec .done (some c))) ∧ W.heap[w.heap.size]? = some (.deferred (some []))) W1 hS1 hB1
    (fun s A B hs hb => ⟨hI s A B hs.1 (hb.mono (by omega)), (hb.below.block _ (by omega)).trans hs.2.1, (hb.below.block _ (by omega)).trans hs.2.2⟩)
    (fun A B hs hb => by obtain ⟨c, h1, h2, h3⟩ := hs; exact ⟨c, hIx c A B h1 (hb.mono (by omega)), (hb.below.block _ (by omega)).trans h2, (hb.below.block _ (by omega)).trans h3⟩)
    (fun s A hs => ⟨hs.1, (Array.getElem?_eq_some_iff.1 hs.2.1).1⟩) (fun A hs => by obtain ⟨c, h1, h2, _⟩ := hs; exact ⟨⟨c, h1⟩, (Array.getElem?_eq_some_iff.1 h2).1⟩) ?rounds ⟨hI 0 w W1 h0 (BelowR.full hB1 (Nat.le_refl _)), hL1, hD1⟩
  case rounds =>
    rintro s x A ⟨hi, hl, hd⟩ hp
    have hlt : w.heap.size + 1 < A.heap.size := (Array.getElem?_eq_some_iff.1 hl).1
    have hy := run_yield (P := P) (args := enc s x) hl (by rw [hrec]; exact hps s x)
    rw [hrec] at hy
    refine ⟨fn, _, assign, body, hy, roundIn_of_wpIn hfn (hassign s x A _ ⟨_, run_beginRound hl (by rw [hrec]), ?_⟩)⟩
    have hb : (A.putObj (w.heap.size + 1) (.loop { rec .ready none with state := .busy })).heap[w.heap.size + 1]? = some (.loop { rec .ready none with state := .busy }) := World.putObj_heap_same hlt
    have hd2 : (A.putObj (w.heap.size + 1) (.loop { rec .ready none with state := .busy })).heap[w.heap.size]? = some (.deferred (some [])) := (World.putObj_heap_other (by omega)).trans hd
    have hi2 := hI s A _ hi (belowR_putObj (.loop { rec .ready none with state := .busy }) (by omega) hl loop_row)
    refine wpIn_mono (hbody s x _ hi2 hp (by simpa using hlt)) ?_
    have fin : ∀ (jump : Option Code) (B : World), Held w.heap.size (A.putObj (w.heap.size + 1) (.loop { rec .ready none with state := .busy })) B →
        (Instr.endRound (w.heap.size + 1) jump).run P B = .ok (.bool jump.isNone) (B.putObj (w.heap.size + 1) (.loop (rec (if jump.isNone then .ready else .done) jump))) ∧
        (B.putObj (w.heap.size + 1) (.loop (rec (if jump.isNone then .ready else .done) jump))).heap[w.heap.size + 1]? = some (.loop (rec (if jump.isNone then .ready else .done) jump)) ∧
        (B.putObj (w.heap.size + 1) (.loop (rec (if jump.isNone then .ready else .done) jump))).heap[w.heap.size]? = some (.deferred (some [])) ∧
        Held (w.heap.size + 2) A (B.putObj (w.heap.size + 1) (.loop (rec (if jump.isNone then .ready else .done) jump))) ∧ BelowR w.heap.size B (B.putObj (w.heap.size + 1) (.loop (rec (if jump.isNone then .ready else .done) jump))) := by
      intro jump B hh
      have hl3 := hh.obj hb (by rintro cs fr e; cases e) (by omega)
      have hd3 := hh.obj hd2 (by rintro cs fr e; cases e) (Nat.le_refl _)
      have hr := run_endRound (P := P) jump hl3
      rw [hrec] at hr hl3 ⊢
      refine ⟨hr, World.putObj_heap_same (Array.getElem?_eq_some_iff.1 hl3).1, (World.putObj_heap_other (by omega)).trans hd3, ⟨?_, ?_⟩, belowR_putObj _ (by omega) hl3 loop_row⟩
      · have := hh.1; simp at this ⊢; exact this
      · intro b h1 h2 h3
        rw [World.putObj_heap_other (by omega), hh.2 b (by simpa using h1) (by omega) (by rintro ⟨cs, fr, e⟩; rw [World.putObj_heap_other (by omega)] at e; exact h3 ⟨cs, fr, e⟩), World.putObj_heap_other (by omega)]
    rintro e a3 B hp
    cases e with
    | normal =>
      obtain ⟨hi3, hh⟩ := hp
      obtain ⟨hr, hl4, hk4, hh4, hr4⟩ := fin none B hh
      exact ⟨_, _, hr, hh4, .inl ⟨rfl, hI _ B _ hi3 hr4, hl4, hk4⟩⟩
    | ret =>
      obtain ⟨hi3, hh⟩ := hp
      obtain ⟨hr, hl4, hk4, hh4, hr4⟩ := fin (some .ret) B hh
      exact ⟨_, _, hr, hh4, .inr ⟨rfl, .ret, hIx _ B _ hi3 hr4, hl4, hk4⟩⟩
    | exit id =>
      obtain ⟨hi3, hh⟩ := hp
      obtain ⟨hr, hl4, hk4, hh4, hr4⟩ := fin (some (.exit id)) B hh
      exact ⟨_, _, hr, hh4, .inr ⟨rfl, .exit id, hIx _ B _ hi3 hr4, hl4, hk4⟩⟩
    | goto t =>
      obtain ⟨hi3, hh⟩ := hp
      obtain ⟨hr, hl4, hk4, hh4, hr4⟩ := fin (some (.goto t)) B hh
      exact ⟨_, _, hr, hh4, .inr ⟨rfl, .goto t, hIx _ B _ hi3 hr4, hl4, hk4⟩⟩
    | panic ch => exact hp.elim
    | outgrown => exact hp.elim
  refine ⟨w.heap.size + 1, [{ target := .collected w.heap.size, args := #[] }], W1, { target := .fn (.func gf) lb, args := #[.func (.yield (w.heap.size + 1)) #[] #[]] }, W1, gf, #[.func (.yield (w.heap.size + 1)) #[] #[]] ++ lb, W1, ?_, ?_, ?_, ?_, ?_, ?_⟩
  · rw [← hW1, hrec]; exact run_enterLoop_outer _ _ _ _ _
  · simp only [resolve, hg]
    simp [go_sem]
  · intro f' _; trivial
  · simp [invoke, go_sem, eg]
  · intro h; cases h
  · refine hcall.mono ?_
    rintro e B ⟨⟨v, rfl⟩, ⟨hi, hl, hd⟩ | ⟨c, hi, hl, hd⟩⟩
    · have he := run_endLoop (P := P) hl (by rw [hrec]; simp)
      refine ⟨none, _, by rw [hrec] at he; exact he, ?_⟩
      exact hdone _ (hI _ B _ hi (belowR_putObj _ (by omega) hl loop_row)) ((World.putObj_heap_other (by omega)).trans hd)
    · have he := run_endLoop (P := P) hl (by rw [hrec]; simp)
      refine ⟨some c, _, by rw [hrec] at he; exact he, ?_⟩
      exact hstop c _ (hIx c B _ hi (belowR_putObj _ (by omega) hl loop_row)) ((World.putObj_heap_other (by omega)).trans hd)
end Go.Proofs.Ytnagknlfboadkaa.Oct

/- Layer 7 (tree): the closure of 'from', over a leaf. -/
namespace Go.Proofs.Ytnagknlfboadkaa.Oct
open Go.RowKit Go.Shelf
attribute [local go_sem] Oper.semAt_some

def encQ (x : Pr) : Array Value := #[.string x.1, .string x.2]
theorem cell_one {A : World} {b : Nat} {v : Value} {t : TypeId} (h : A.heap[b]? = some (.cells #[v] t)) : A.cell? ⟨b, 0, none⟩ = some v := by
  rw [cell_of_row A b 0 _ t (0, 0) h]
  rfl
theorem YieldAt.deep {m : Nat} (m' : Nat) {P : Program} {l : Nat} {args : Array Value} {W : World} {R : Ending → World → Prop} (h : YieldAt Fence.wide m P l args W R) : YieldAt Fence.wide m' P l args W R := by
  obtain ⟨fn, tmps, asg, bdy, hy, h1, h2⟩ := h
  exact ⟨fn, tmps, asg, bdy, hy, h1, fun c cs _ => h2 c cs (room_wide _)⟩
theorem said_bool {e : Ending} {p q : Prop} (h : (e = .returned (.bool true) ∧ p) ∨ (e = .returned (.bool false) ∧ q)) : ∃ v : Bool, e = .returned (.bool v) ∧ Hid ((v = true ∧ p) ∨ (v = false ∧ q)) := by
  rcases h with ⟨h, hp⟩ | ⟨h, hq⟩
  · exact ⟨true, h, .inl ⟨rfl, hp⟩⟩
  · exact ⟨false, h, .inr ⟨rfl, hq⟩⟩

set_option maxRecDepth 100000 in
set_option maxHeartbeats 2000000 in
theorem from1_in (d l1 Bn Bk nd n cap : Nat) (a : Option Addr) (ps : List Pr) (key : ByteArray) (k : Nat) (hn : n ≤ 1000000) (hm : Mono ps key) (ha : AtP ps key k) (m₀ : Nat) (J : Nat → World → Prop) (Jx : World → Prop)
    (hJb : ∀ t A B, J t A → BelowR m₀ A B → J t B) (hJx : ∀ A, Jx A → A.cell? ⟨Bn, 0, none⟩ = some (.pointer (some ⟨nd, 0, none⟩)) ∧ Nd A nd a n cap ps (.slice none 0 0)) (hJ : ∀ t A, J t A → A.cell? ⟨Bn, 0, none⟩ = some (.pointer (some ⟨nd, 0, none⟩)) ∧ A.cell? ⟨Bk, 0, none⟩ = some (.string key) ∧ Nd A nd a n cap ps (.slice none 0 0) ∧ m₀ ≤ A.heap.size)
    (hY : ∀ t x A, J t A → (ps.drop k)[t]? = some x → YieldAt Fence.wide 0 Try.prog l1 (encQ x) A fun e B => Held m₀ A B ∧ ((e = .returned (.bool true) ∧ J (t + 1) B) ∨ (e = .returned (.bool false) ∧ Jx B)))
    (W : World) (hW : W.heap.size = m₀) (h0 : J 0 W) :
    CallsIn Fence.wide d Try.prog 37 #[.func (.yield l1) #[] #[], .pointer (some ⟨Bn, 0, none⟩), .pointer (some ⟨Bk, 0, none⟩)] W fun e B => (∃ v, e = .returned v) ∧ (J (ps.drop k).length B ∨ Jx B) := by
  refine callsIn_of_wp Try.func37 rfl trivial ?_ rfl
  simp only [Try.ntmps37, List.size_toArray, List.length_cons, List.length_nil, Nat.reduceAdd, Nat.reduceSub, Array.replicate_succ, Array.replicate_zero, List.push_toArray, List.append_toArray, List.nil_append, List.cons_append]
  have HN : Hid (n ≤ 1000000 ∧ Mono ps key ∧ AtP ps key k) := ⟨hn, hm, ha⟩
  have hJ0 := hJb 0 W (W.alloc (.cells #[.func (.yield l1) #[] #[]] 42)) h0 (BelowR.full ((Below.refl _ W).alloc (Nat.le_refl _) _) (by omega))
  obtain ⟨cn, ck, hnd, _⟩ := hJ 0 _ hJ0
  have HD : Hid (Nd (W.alloc (.cells #[.func (.yield l1) #[] #[]] 42)) nd a n cap ps (.slice none 0 0)) := hnd
  clear hn hm ha hnd
  gi_wp2_with (refine ⟨trivial, (fun h => by cases h), ?_⟩; gi_at_call 38; refine (callsIn_wide.2 (place_is _ nd a n cap ps _ key HD.out HN.out.2.1 (by have := HN.out; omega))).mono ?_; rintro e w1 ⟨k1, rfl, HA1, HB1⟩)
  have hk1 : k1 = k := HA1.out.uniq HN.out.2.2
  subst hk1
  have hkn : k1 ≤ n := by rw [← HD.out.rd.1]; exact HN.out.2.2.1
  have hJ1 : J 0 w1 := hJb 0 _ _ hJ0 (BelowR.full HB1.out (by simp; omega))
  have hy1 : w1.heap[m₀]? = some (.cells #[.func (.yield l1) #[] #[]] 42) := by
    rw [HB1.out.block m₀ (by simp; omega), ← hW]
    exact World.alloc_heap_new W _
  have HLEN : Hid (ps.length = n) := HD.out.rd.1
  have HKN : Hid (k1 ≤ n) := hkn
  clear hkn hJ0 cn ck HD HB1 HA1 h0
  obtain ⟨N, hN⟩ : ∃ N, n + 1 = N := ⟨_, rfl⟩
  have HNN : Hid (n + 1 = N) := hN
  clear hN
  gi_loopw [6] (fun u wr => ∃ i : Nat, u = .int .i64 (i : Int) ∧ Hid (k1 ≤ i ∧ i ≤ n + 1) ∧ Hid (J (if i ≤ n then i - k1 else n - k1) wr) ∧ Hid (wr.heap[m₀]? = some (.cells #[.func (.yield l1) #[] #[]] 42))) (fun u _ => N - (intOf u).toNat)
  case atStart => exact ⟨k1, rfl, ⟨Nat.le_refl _, by have := HKN.out; omega⟩, by show J _ _; rw [if_pos HKN.out, Nat.sub_self]; exact hJ1, hy1⟩
  case round =>
    clear hJ1 hy1
    obtain ⟨i, rfl, HI, HJ, HYC⟩ := hrel
    obtain ⟨cn, ck, hnd, _⟩ := hJ _ _ HJ.out
    have HD : Hid (Nd wr nd a n cap ps (.slice none 0 0)) := hnd
    have c0 := hnd.blk.cell (i := 0) rfl
    have c1 := hnd.blk.cell (i := 1) rfl
    have cy := cell_one HYC.out
    have b1 : (i : Int) ≤ 1000001 := by have := HI.out; have := HN.out; omega
    clear hnd
    by_cases hi : i < n
    · obtain ⟨x, hx⟩ : ∃ x, ps[i]? = some x := ⟨_, List.getElem?_eq_getElem (by rw [HLEN.out]; exact hi)⟩
      obtain ⟨g, off, rfl, hg, hc⟩ := HD.out.rd.2 (by omega)
      have e0 := (hc i x hx).1
      have e1 := (hc i x hx).2
      have q1 : (i : Int) ≤ (n : Int) := by omega
      have q2 : (i : Int) < (n : Int) := by omega
      have hdx : (ps.drop k1)[i - k1]? = some x := by rw [List.getElem?_drop, show k1 + (i - k1) = i by have := HI.out; omega]; exact hx
      have HJD : Hid (J (i - k1) wr.drew) := by
        have e := HJ.out
        rw [if_pos (by omega)] at e
        exact hJb _ _ _ e (BelowR.full (Below.refl _ wr).drew (by assumption))
      have HIL : Hid (i < n) := hi
      have HYA : Hid (YieldAt Fence.wide (d - 1) Try.prog l1 #[.string x.1, .string x.2] wr.drew fun e B => Held m₀ wr.drew B ∧ ((e = .returned (.bool true) ∧ J (i - k1 + 1) B) ∨ (e = .returned (.bool false) ∧ Jx B))) := YieldAt.deep (d - 1) (hY _ _ wr.drew HJD.out hdx)
      have HX : Hid (ps[i]? = some x) := hx
      clear hc hdx hx hi
      gi_wp2_with (refine ⟨trivial, (fun h => by cases h), ?_⟩; gi_at_call 39; refine (callsIn_wide.2 (leaf_is wr nd c1)).mono ?_; rintro e w2 ⟨rfl, rfl⟩)
      refine reg11 cy cn c0 e0 e1 q2 HYA.out ?_ ?_
      · rintro e B ⟨hH, hD⟩
        have hyB : B.cell? ⟨m₀, 0, none⟩ = some (.func (.yield l1) #[] #[]) := cell_one (hH.box HYC.out (by decide) (Nat.le_refl _))
        have fin : ∀ (v : Bool), e = .returned (.bool v) → B.cell? ⟨Bn, 0, none⟩ = some (.pointer (some ⟨nd, 0, none⟩)) → Nd B nd (some ⟨g, off, none⟩) n cap ps (.slice none 0 0) → ∃ v : Bool, e = .returned (.bool v) ∧ B.cell? ⟨m₀, 0, none⟩ = some (.func (.yield l1) #[] #[]) ∧ B.cell? ⟨Bn, 0, none⟩ = some (.pointer (some ⟨nd, 0, none⟩)) ∧ B.cell? ⟨nd, 0, none⟩ = some (.slice (some ⟨g, off, none⟩) n cap) ∧ B.cell? ⟨g, off + i * 2, none⟩ = some (.string x.1) ∧ B.cell? ⟨g, off + i * 2 + 1, none⟩ = some (.string x.2) := by
          intro v h1 h2 h3
          obtain ⟨g', off', e', _, hc⟩ := h3.rd.2 (by have := HIL.out; omega)
          cases e'
          exact ⟨v, h1, hyB, h2, h3.blk.cell (i := 0) rfl, (hc i x HX.out).1, (hc i x HX.out).2⟩
        rcases hD with ⟨h1, h2⟩ | ⟨h1, h2⟩
        · obtain ⟨r1, _, r3, _⟩ := hJ _ _ h2
          exact fin true h1 r1 r3
        · obtain ⟨r1, r3⟩ := hJx _ h2
          exact fin false h1 r1 r3
      · rintro v B ⟨hH, hD⟩
        have hyB : B.heap[m₀]? = some (.cells #[.func (.yield l1) #[] #[]] 42) := hH.box HYC.out (by decide) (Nat.le_refl _)
        have HYB : Hid (B.heap[m₀]? = some (.cells #[.func (.yield l1) #[] #[]] 42)) := hyB
        clear hyB hH
        cases v with
        | true =>
          have HJ3 : Hid (J (i - k1 + 1) B) := by
            rcases hD with ⟨h1, h2⟩ | ⟨h1, h2⟩
            · exact h2
            · cases h1
          clear hD
          gi_wp2
          go_roundw
          case rel =>
            refine ⟨i + 1, by simp, ⟨by have := HI.out; omega, by have := HIL.out; omega⟩, ?_, HYB⟩
            show J _ _
            rw [if_pos (by have := HIL.out; omega), show i + 1 - k1 = i - k1 + 1 by have := HI.out; omega]
            exact HJ3.out
          case measure => have := HNN.out; have := HIL.out; simp [intOf]; omega
        | false =>
          have HJ3 : Hid (Jx B) := by
            rcases hD with ⟨h1, h2⟩ | ⟨h1, h2⟩
            · cases h1
            · exact h2
          clear hD
          gi_wp2
          refine bodyPost_ret (results_none rfl _ _ _) rfl ?_
          exact ⟨⟨_, rfl⟩, .inr HJ3.out⟩
    · by_cases hin : i = n
      · subst hin
        have q1 : (i : Int) ≤ (i : Int) := Int.le_refl _
        have q2 : ¬ (i : Int) < (i : Int) := by omega
        have HJN : Hid (J (i - k1) wr) := by have e := HJ.out; rw [if_pos (Nat.le_refl _)] at e; exact e
        gi_wp2_with (refine ⟨trivial, (fun h => by cases h), ?_⟩; gi_at_call 39; refine (callsIn_wide.2 (leaf_is wr nd c1)).mono ?_; rintro e w2 ⟨rfl, rfl⟩)
        refine reg11n cn c0 (by omega) ?_
        gi_wp2
        go_roundw
        case rel =>
          refine ⟨i + 1, by simp, ⟨by have := HI.out; omega, Nat.le_refl _⟩, ?_, HYC.out⟩
          show J _ _
          rw [if_neg (by omega)]
          exact hJb _ _ _ HJN.out (BelowR.full (Below.refl _ wr).drew (by assumption))
        case measure => have := HNN.out; simp [intOf]; omega
      · have q1 : ¬ (i : Int) ≤ (n : Int) := by omega
        have HJN : Hid (J (n - k1) wr) := by have e := HJ.out; rw [if_neg (by omega)] at e; exact e
        gi_wp2
        go_end0
        refine ⟨⟨_, rfl⟩, .inl ?_⟩
        rw [HLEN.out]
        exact HJN.out
end Go.Proofs.Ytnagknlfboadkaa.Oct

/- Layer 7 (tree): the closure of 'Scan', over a leaf. -/
namespace Go.Proofs.Ytnagknlfboadkaa.Oct
open Go.RowKit Go.Shelf
attribute [local go_sem] Oper.semAt_some

/-- a key that a scan tells: below its end, if it has one -/
def okS (til : ByteArray) (x : Pr) : Bool := til.toList.isEmpty || !(geS x.1 til)
/-- what a scan of pairs tells -/
def scanP (ps : List Pr) (k : Nat) (til : ByteArray) : List Pr := (ps.drop k).takeWhile (okS til)
theorem takeWhile_at {α : Type} {p : α → Bool} : ∀ {l : List α} {s : Nat} {x : α}, s ≤ (l.takeWhile p).length → l[s]? = some x → (p x = true → (l.takeWhile p)[s]? = some x) ∧ (p x = false → s = (l.takeWhile p).length)
  | [], s, x, _, h => by simp at h
  | y :: r, s, x, hs, h => by
    rw [List.takeWhile_cons] at hs ⊢
    by_cases hy : p y = true
    · rw [if_pos hy] at hs ⊢
      cases s with
      | zero =>
        simp at h
        subst h
        exact ⟨fun _ => rfl, fun e => by rw [hy] at e; cases e⟩
      | succ t =>
        rw [List.getElem?_cons_succ] at h
        have ih := takeWhile_at (p := p) (l := r) (s := t) (x := x) (by simpa using hs) h
        exact ⟨fun e => by rw [List.getElem?_cons_succ]; exact ih.1 e, fun e => by rw [List.length_cons, ← ih.2 e]⟩
    · rw [if_neg hy] at hs ⊢
      have : s = 0 := by simpa using hs
      subst this
      simp at h
      subst h
      exact ⟨fun e => absurd e hy, fun _ => rfl⟩
theorem takeWhile_le {α : Type} (p : α → Bool) (l : List α) : (l.takeWhile p).length ≤ l.length := (List.takeWhile_sublist p).length_le

theorem from_is (w : World) (r : Option Addr) (key : ByteArray) : Calls Try.prog 29 #[.pointer r, .string key] w fun e w' => e = .returned (.func (.func 37) #[] #[.pointer (some ⟨w.heap.size, 0, none⟩), .pointer (some ⟨w.heap.size + 1, 0, none⟩)]) ∧ Hid (w' = (w.alloc (.cells #[.pointer r] 46)).alloc (.cells #[.string key] 9)) := by
  go_enter Try.func29, Try.ntmps29
  go_wp2
  go_ret
  exact ⟨rfl, rfl⟩
/-- between two rounds of the loop within 'Scan' -/
structure SInv (J : Nat → World → Prop) (L m₀ l1 nd : Nat) (key : ByteArray) (t : Nat) (A : World) : Prop where
  le : t ≤ L
  j : J t A
  y : A.heap[m₀]? = some (.cells #[.func (.yield l1) #[] #[]] 42)
  n : A.heap[m₀ + 1]? = some (.cells #[.pointer (some ⟨nd, 0, none⟩)] 46)
  k : A.heap[m₀ + 2]? = some (.cells #[.string key] 9)
structure SOut (J : Nat → World → Prop) (Jx : World → Prop) (L m₀ nd : Nat) (c : Code) (A : World) : Prop where
  ret : c = .ret
  j : J L A ∨ Jx A
  n : A.heap[m₀ + 1]? = some (.cells #[.pointer (some ⟨nd, 0, none⟩)] 46)

set_option maxRecDepth 100000 in
set_option maxHeartbeats 2000000 in
theorem scan2_in (d l1 Br Bf Bu nd n cap : Nat) (a : Option Addr) (ps : List Pr) (key til : ByteArray) (k : Nat) (hn : n ≤ 1000000) (hm : Mono ps key) (ha : AtP ps key k) (m₀ : Nat) (J : Nat → World → Prop) (Jx : World → Prop)
    (hJb : ∀ t A B, J t A → BelowR m₀ A B → J t B) (hJxb : ∀ A B, Jx A → BelowR m₀ A B → Jx B) (hJx : ∀ A, Jx A → Nd A nd a n cap ps (.slice none 0 0))
    (hJ : ∀ t A, J t A → A.cell? ⟨Br, 0, none⟩ = some (.pointer (some ⟨nd, 0, none⟩)) ∧ A.cell? ⟨Bf, 0, none⟩ = some (.string key) ∧ A.cell? ⟨Bu, 0, none⟩ = some (.string til) ∧ Nd A nd a n cap ps (.slice none 0 0) ∧ m₀ ≤ A.heap.size)
    (hY : ∀ t x A, J t A → (scanP ps k til)[t]? = some x → YieldAt Fence.wide 0 Try.prog l1 (encQ x) A fun e B => Held m₀ A B ∧ ((e = .returned (.bool true) ∧ J (t + 1) B) ∨ (e = .returned (.bool false) ∧ Jx B)))
    (W : World) (hW : W.heap.size = m₀) (h0 : J 0 W) :
    CallsIn Fence.wide d Try.prog 28 #[.func (.yield l1) #[] #[], .pointer (some ⟨Br, 0, none⟩), .pointer (some ⟨Bf, 0, none⟩), .pointer (some ⟨Bu, 0, none⟩)] W fun e B => (∃ v, e = .returned v) ∧ (J (scanP ps k til).length B ∨ Jx B) := by
  refine callsIn_of_wp_marks Try.func28 rfl trivial ?_ rfl
  simp only [Try.ntmps28, List.size_toArray, List.length_cons, List.length_nil, Nat.reduceAdd, Nat.reduceSub, Array.replicate_succ, Array.replicate_zero, List.push_toArray, List.append_toArray, List.nil_append, List.cons_append]
  have HN : Hid (n ≤ 1000000 ∧ Mono ps key ∧ AtP ps key k) := ⟨hn, hm, ha⟩
  have hJ0 := hJb 0 W (W.alloc (.cells #[.func (.yield l1) #[] #[]] 42)) h0 (BelowR.full ((Below.refl _ W).alloc (Nat.le_refl _) _) (by omega))
  obtain ⟨cr, cf, cu, _, _⟩ := hJ 0 _ hJ0
  clear hn hm ha
  gi_wp2_with (refine ⟨trivial, (fun h => by cases h), ?_⟩; gi_at_call 29; refine (callsIn_wide.2 (from_is _ _ key)).mono ?_; rintro e w1 ⟨rfl, HW1⟩)
  have hw1 := HW1.out
  have HB : Hid (Below m₀ W w1) := by rw [hw1]; exact (((Below.refl _ W).alloc (by omega) _).alloc (by simp; omega) _).alloc (by simp; omega) _
  have HSZ : Hid (w1.heap.size = m₀ + 3) := by show _ = _; rw [hw1]; simp [hW]
  have hy1 : w1.heap[m₀]? = some (.cells #[.func (.yield l1) #[] #[]] 42) := by
    rw [hw1, Below.heap_alloc _ _ _ (by simp; omega), Below.heap_alloc _ _ _ (by simp; omega), ← hW]
    exact World.alloc_heap_new W _
  have hn1 : w1.heap[m₀ + 1]? = some (.cells #[.pointer (some ⟨nd, 0, none⟩)] 46) := by
    have e := World.alloc_heap_new (W.alloc (.cells #[.func (.yield l1) #[] #[]] 42)) (.cells #[.pointer (some ⟨nd, 0, none⟩)] 46)
    rw [World.size_alloc, hW] at e
    rw [hw1, Below.heap_alloc _ _ _ (by simp; omega)]
    exact e
  have hk1 : w1.heap[m₀ + 2]? = some (.cells #[.string key] 9) := by
    have e := World.alloc_heap_new ((W.alloc (.cells #[.func (.yield l1) #[] #[]] 42)).alloc (.cells #[.pointer (some ⟨nd, 0, none⟩)] 46)) (.cells #[.string key] 9)
    rw [World.size_alloc, World.size_alloc, hW] at e
    rw [hw1]
    exact e
  clear hw1 HW1 hJ0 cr cf cu
  refine rangeLeave (gf := 37) (lb := #[.pointer (some ⟨m₀ + 1, 0, none⟩), .pointer (some ⟨m₀ + 1 + 1, 0, none⟩)]) rfl (enters_of Try.func37 (by kernel_rfl) rfl) (fun _ x => encQ x) (fun _ _ => rfl) (ps.drop k)
    (SInv J (scanP ps k til).length m₀ l1 nd key) (SOut J Jx (scanP ps k til).length m₀ nd) ?hI ?hIx ⟨Nat.zero_le _, hJb 0 W w1 h0 (BelowR.full (by rw [hW]; exact HB.out) (by omega)), hy1, hn1, hk1⟩
    (fun _ x => { tmps := #[.func (.yield l1) #[] #[], .pointer (some ⟨Br, 0, none⟩), .pointer (some ⟨Bf, 0, none⟩), .pointer (some ⟨Bu, 0, none⟩), .pointer (some ⟨m₀, 0, none⟩), .string x.1, .string x.2, .pointer (some ⟨nd, 0, none⟩), .string key, .func (.func 37) #[] #[.pointer (some ⟨m₀ + 1, 0, none⟩), .pointer (some ⟨m₀ + 1 + 1, 0, none⟩)], .string x.1, .string x.2, undef, undef, undef, undef, undef, undef, undef, undef, undef, undef, undef, undef, undef, undef], defers := [] }) ?assign ?body ?iter ?done ?stop
  case hI =>
    rintro t A B h hb
    rw [HSZ.out] at hb
    exact ⟨h.le, hJb t A B h.j (hb.mono (by omega)), (hb.below.block _ (by omega)).trans h.y, (hb.below.block _ (by omega)).trans h.n, (hb.below.block _ (by omega)).trans h.k⟩
  case hIx =>
    rintro c A B h hb
    rw [HSZ.out] at hb
    exact ⟨h.ret, h.j.imp (fun j => hJb _ A B j (hb.mono (by omega))) (fun j => hJxb A B j (hb.mono (by omega))), (hb.below.block _ (by omega)).trans h.n⟩
  case assign =>
    intro t x A K hK
    dsimp only [encQ]
    gi_wp2
    exact hK
  case body =>
    rintro t x A h hx hlt
    have HT := takeWhile_at (p := okS til) h.le hx
    have HTT : Hid ((okS til x = true → (scanP ps k til)[t]? = some x) ∧ (okS til x = false → t = (scanP ps k til).length)) := HT
    have HI : Hid (SInv J (scanP ps k til).length m₀ l1 nd key t A) := h
    obtain ⟨_, _, cu, _, _⟩ := hJ _ _ h.j
    have cy := cell_one h.y
    clear HT hx hlt h
    have goes : okS til x = true → YieldAt Fence.wide (d - 1 - 1 - 1) Try.prog l1 #[.string x.1, .string x.2] A fun e B => Held m₀ A B ∧ ((e = .returned (.bool true) ∧ J (t + 1) B) ∨ (e = .returned (.bool false) ∧ Jx B)) := fun e => YieldAt.deep _ (hY t x A HI.out.j (HTT.out.1 e))
    have GO : Hid (okS til x = true → YieldAt Fence.wide (d - 1 - 1 - 1) Try.prog l1 #[.string x.1, .string x.2] A fun e B => Held m₀ A B ∧ ((e = .returned (.bool true) ∧ J (t + 1) B) ∨ (e = .returned (.bool false) ∧ Jx B))) := goes
    have HX : Hid (∀ B, Held m₀ A B → B.heap[m₀]? = some (.cells #[.func (.yield l1) #[] #[]] 42) ∧ B.heap[m₀ + 1]? = some (.cells #[.pointer (some ⟨nd, 0, none⟩)] 46) ∧ B.heap[m₀ + 2]? = some (.cells #[.string key] 9) ∧ Held w1.heap.size A B) := fun B hB =>
      ⟨hB.box HI.out.y (by decide) (Nat.le_refl _), hB.box HI.out.n (by decide) (by omega), hB.box HI.out.k (by decide) (by omega), hB.mono (by have := HSZ.out; omega)⟩
    clear goes
    cases he : til.toList.isEmpty with
    | true =>
      have f1 : (til.toList == ([] : List UInt8)) = true := by simpa using he
      have hok : okS til x = true := by simp [okS, he]
      have HLT : Hid (t + 1 ≤ (scanP ps k til).length) := (List.getElem?_eq_some_iff.1 (HTT.out.1 hok)).1
      obtain ⟨fn, tmps, asg, bdy, hy, hR⟩ := GO.out hok
      clear hok
      gi_wp2
      refine ⟨(fun h => by cases h), hR.mono ?_⟩
      rintro e B ⟨hH, ⟨rfl, hJ3⟩ | ⟨rfl, hJ3⟩⟩
      · have HJ3 : Hid (J (t + 1) B ∧ Held m₀ A B) := ⟨hJ3, hH⟩
        clear hy hR hJ3 hH cu cy
        gi_wp2
        have hx := HX.out B HJ3.out.2
        exact ⟨⟨HLT.out, HJ3.out.1, hx.1, hx.2.1, hx.2.2.1⟩, hx.2.2.2⟩
      · have HJ3 : Hid (Jx B ∧ Held m₀ A B) := ⟨hJ3, hH⟩
        clear hy hR hJ3 hH cu cy
        gi_wp2
        have hx := HX.out B HJ3.out.2
        exact ⟨⟨rfl, .inr HJ3.out.1, hx.2.1⟩, hx.2.2.2⟩
    | false =>
      have f1 : (til.toList == ([] : List UInt8)) = false := by simpa using he
      cases hg : Op.bytesLess x.1.toList til.toList with
      | true =>
        have hok : okS til x = true := by simp [okS, geS, hg]
        have HLT : Hid (t + 1 ≤ (scanP ps k til).length) := (List.getElem?_eq_some_iff.1 (HTT.out.1 hok)).1
        obtain ⟨fn, tmps, asg, bdy, hy, hR⟩ := GO.out hok
        clear hok
        gi_wp2
        refine ⟨(fun h => by cases h), hR.mono ?_⟩
        rintro e B ⟨hH, ⟨rfl, hJ3⟩ | ⟨rfl, hJ3⟩⟩
        · have HJ3 : Hid (J (t + 1) B ∧ Held m₀ A B) := ⟨hJ3, hH⟩
          clear hy hR hJ3 hH cu cy
          gi_wp2
          have hx := HX.out B HJ3.out.2
          exact ⟨⟨HLT.out, HJ3.out.1, hx.1, hx.2.1, hx.2.2.1⟩, hx.2.2.2⟩
        · have HJ3 : Hid (Jx B ∧ Held m₀ A B) := ⟨hJ3, hH⟩
          clear hy hR hJ3 hH cu cy
          gi_wp2
          have hx := HX.out B HJ3.out.2
          exact ⟨⟨rfl, .inr HJ3.out.1, hx.2.1⟩, hx.2.2.2⟩
      | false =>
        have hok : okS til x = false := by simp [okS, geS, hg, he]
        have HE : Hid (t = (scanP ps k til).length) := HTT.out.2 hok
        clear hok
        gi_wp2
        refine ⟨(fun f h => by cases h), ?_⟩
        gi_wp2
        refine ⟨⟨rfl, .inl ?_, HI.out.n⟩, Nat.le_refl _, fun _ _ _ _ => rfl⟩
        rw [← HE.out]; exact HI.out.j
  case iter =>
    intro J' Jx' A hS hB hJ'b hJx'b hJ'I hJ'X hY' h0'
    refine from1_in _ _ _ _ nd n cap a ps key k HN.out.1 HN.out.2.1 HN.out.2.2 (w1.heap.size + 2) J' Jx' hJ'b ?_ ?_ (fun t x A hj hx => YieldAt.deep 0 (hY' t x A hj hx)) A hS h0'
    · intro A hA
      obtain ⟨⟨c, hc⟩, _⟩ := hJ'X A hA
      refine ⟨cell_one hc.n, ?_⟩
      rcases hc.j with j | j
      · exact (hJ _ _ j).2.2.2.1
      · exact hJx _ j
    · intro t A hA
      obtain ⟨hI, hsz⟩ := hJ'I t A hA
      exact ⟨cell_one hI.n, cell_one hI.k, (hJ _ _ hI.j).2.2.2.1, hsz⟩
  case done =>
    rintro A h hK
    gi_wp2
    refine ⟨by simp, .inl ⟨_, _, rfl, run_takeDeferred hK, ?_⟩⟩
    refine ⟨_, results_none rfl _ _ _, ⟨_, rfl⟩, .inl ?_⟩
    have e : (ps.drop k).length = (scanP ps k til).length := Nat.le_antisymm h.le (takeWhile_le _ _)
    rw [← e]
    exact hJb _ _ _ h.j (belowR_putObj _ (by have := HSZ.out; omega) hK def_row)
  case stop =>
    rintro c A h hK
    obtain rfl := h.ret
    gi_wp2
    refine ⟨by simp, .inl ⟨_, _, rfl, run_takeDeferred hK, ?_⟩⟩
    refine ⟨_, results_none rfl _ _ _, ⟨_, rfl⟩, ?_⟩
    have hb := belowR_putObj (D := m₀) (.deferred none) (by have := HSZ.out; omega) hK def_row
    exact h.j.imp (fun j => hJb _ _ _ j hb) (fun j => hJxb _ _ j hb)
end Go.Proofs.Ytnagknlfboadkaa.Oct

/- Trees of pairs, all of whose leaves are equally deep: what they hold, as one list; pairs put in and taken out. Of no program. -/
namespace Go.Proofs.Ytnagknlfboadkaa.Oct
open Go.RowKit

def Lt (a b : ByteArray) : Bool := Op.bytesLess a.toList b.toList
theorem geS_eq (a b : ByteArray) : geS a b = !(Lt a b) := rfl
theorem bl_irrefl : ∀ l : List UInt8, Op.bytesLess l l = false
  | [] => rfl
  | a :: r => by simp [Op.bytesLess, bl_irrefl r]
theorem bl_trans : ∀ {a b c : List UInt8}, Op.bytesLess a b = true → Op.bytesLess b c = true → Op.bytesLess a c = true
  | _, [], _, h, _ => by cases ‹List UInt8› <;> simp [Op.bytesLess] at h
  | _, _ :: _, [], _, h => by simp [Op.bytesLess] at h
  | [], _ :: _, _ :: _, _, _ => rfl
  | x :: a, y :: b, z :: c, h1, h2 => by
    simp only [Op.bytesLess, Bool.or_eq_true, decide_eq_true_eq, Bool.and_eq_true, beq_iff_eq] at h1 h2 ⊢
    rcases h1 with h1 | ⟨rfl, h1⟩
    · rcases h2 with h2 | ⟨rfl, h2⟩
      · exact .inl (UInt8.lt_trans h1 h2)
      · exact .inl h1
    · rcases h2 with h2 | ⟨rfl, h2⟩
      · exact .inl h2
      · exact .inr ⟨rfl, bl_trans h1 h2⟩
theorem bl_total : ∀ {a b : List UInt8}, Op.bytesLess a b = false → Op.bytesLess b a = false → a = b
  | [], [], _, _ => rfl
  | [], _ :: _, h, _ => by simp [Op.bytesLess] at h
  | _ :: _, [], _, h => by simp [Op.bytesLess] at h
  | x :: a, y :: b, h1, h2 => by
    simp only [Op.bytesLess, Bool.or_eq_false_iff, decide_eq_false_iff_not, Bool.and_eq_false_iff, beq_eq_false_iff_ne] at h1 h2
    have hxy : x = y := UInt8.le_antisymm (UInt8.not_lt.1 h2.1) (UInt8.not_lt.1 h1.1)
    subst hxy
    have e1 : Op.bytesLess a b = false := by
      rcases h1.2 with h | h
      · exact absurd rfl h
      · exact h
    have e2 : Op.bytesLess b a = false := by
      rcases h2.2 with h | h
      · exact absurd rfl h
      · exact h
    rw [bl_total e1 e2]
theorem lt_irrefl (a : ByteArray) : Lt a a = false := bl_irrefl _
theorem lt_trans {a b c : ByteArray} (h : Lt a b = true) (k : Lt b c = true) : Lt a c = true := bl_trans h k
theorem list_inj {a b : ByteArray} (h : a.toList = b.toList) : a = b := by
  rw [ByteArray.toList_eq, ByteArray.toList_eq] at h
  cases a; cases b
  simp only [ByteArray.mk.injEq]
  exact Array.toList_inj.1 h
theorem lt_total {a b : ByteArray} (h : Lt a b = false) (k : Lt b a = false) : a = b := list_inj (bl_total h k)
theorem lt_asymm {a b : ByteArray} (h : Lt a b = true) : Lt b a = false := by
  cases k : Lt b a with
  | false => rfl
  | true => have := lt_trans h k; rw [lt_irrefl] at this; cases this
theorem lt_ge {a b c : ByteArray} (h : Lt a b = false) (k : Lt a c = true) : Lt b c = true := by
  cases hb : Lt b c with
  | true => rfl
  | false =>
    cases hba : Lt b a with
    | true => have := lt_trans hba k; rw [hb] at this; cases this
    | false => have := lt_total h hba; subst this; rw [k] at hb; cases hb
theorem eqb_iff {a b : ByteArray} : (a.toList == b.toList) = true ↔ a = b := ⟨fun h => list_inj (by simpa using h), fun h => by subst h; simp⟩

/-- keys that rise -/
def Ris (l : List Pr) : Prop := l.Pairwise (fun x y => Lt x.1 y.1 = true)
/-- what is less, what is greater -/
def lo (k : ByteArray) (l : List Pr) : List Pr := l.filter (fun x => Lt x.1 k)
def hi (k : ByteArray) (l : List Pr) : List Pr := l.filter (fun x => Lt k x.1)
def eqs (k : ByteArray) (l : List Pr) : List Pr := l.filter (fun x => x.1.toList == k.toList)
/-- a pair put into a list, a key taken out -/
def insP (l : List Pr) (x : Pr) : List Pr := lo x.1 l ++ [x] ++ hi x.1 l
def remP (l : List Pr) (k : ByteArray) : List Pr := lo k l ++ hi k l
def AllL (k : ByteArray) (l : List Pr) : Prop := ∀ x ∈ l, Lt x.1 k = true
def AllG (k : ByteArray) (l : List Pr) : Prop := ∀ x ∈ l, Lt k x.1 = true
theorem lo_L {k : ByteArray} {l : List Pr} (h : AllL k l) : lo k l = l := List.filter_eq_self.2 h
theorem hi_L {k : ByteArray} {l : List Pr} (h : AllL k l) : hi k l = [] := List.filter_eq_nil_iff.2 fun x hx => by rw [lt_asymm (h x hx)]; simp
theorem lo_G {k : ByteArray} {l : List Pr} (h : AllG k l) : lo k l = [] := List.filter_eq_nil_iff.2 fun x hx => by rw [lt_asymm (h x hx)]; simp
theorem hi_G {k : ByteArray} {l : List Pr} (h : AllG k l) : hi k l = l := List.filter_eq_self.2 h
theorem eqs_L {k : ByteArray} {l : List Pr} (h : AllL k l) : eqs k l = [] := List.filter_eq_nil_iff.2 fun x hx e => by
  have := h x hx
  rw [eqb_iff.1 e, lt_irrefl] at this; cases this
theorem eqs_G {k : ByteArray} {l : List Pr} (h : AllG k l) : eqs k l = [] := List.filter_eq_nil_iff.2 fun x hx e => by
  have := h x hx
  rw [eqb_iff.1 e, lt_irrefl] at this; cases this
theorem insP_mid {A M B : List Pr} {x : Pr} (hA : AllL x.1 A) (hB : AllG x.1 B) : insP (A ++ M ++ B) x = A ++ insP M x ++ B := by
  unfold insP
  have e1 : lo x.1 (A ++ M ++ B) = A ++ lo x.1 M := by
    have : lo x.1 (A ++ M ++ B) = lo x.1 A ++ lo x.1 M ++ lo x.1 B := by simp [lo]
    rw [this, lo_L hA, lo_G hB, List.append_nil]
  have e2 : hi x.1 (A ++ M ++ B) = hi x.1 M ++ B := by
    have : hi x.1 (A ++ M ++ B) = hi x.1 A ++ hi x.1 M ++ hi x.1 B := by simp [hi]
    rw [this, hi_L hA, hi_G hB, List.nil_append]
  rw [e1, e2]
  simp
theorem remP_mid {A M B : List Pr} {k : ByteArray} (hA : AllL k A) (hB : AllG k B) : remP (A ++ M ++ B) k = A ++ remP M k ++ B := by
  unfold remP
  have e1 : lo k (A ++ M ++ B) = A ++ lo k M := by
    have : lo k (A ++ M ++ B) = lo k A ++ lo k M ++ lo k B := by simp [lo]
    rw [this, lo_L hA, lo_G hB, List.append_nil]
  have e2 : hi k (A ++ M ++ B) = hi k M ++ B := by
    have : hi k (A ++ M ++ B) = hi k A ++ hi k M ++ hi k B := by simp [hi]
    rw [this, hi_L hA, hi_G hB, List.nil_append]
  rw [e1, e2]
  simp
theorem eqs_mid {A M B : List Pr} {k : ByteArray} (hA : AllL k A) (hB : AllG k B) : eqs k (A ++ M ++ B) = eqs k M := by
  have : eqs k (A ++ M ++ B) = eqs k A ++ eqs k M ++ eqs k B := by simp [eqs]
  rw [this, eqs_L hA, eqs_G hB]; simp
theorem remP_one {A B : List Pr} {x : Pr} (hA : AllL x.1 A) (hB : AllG x.1 B) : remP (A ++ x :: B) x.1 = A ++ B := by
  have := remP_mid (M := [x]) hA hB
  rw [List.append_assoc] at this
  rw [show A ++ x :: B = A ++ ([x] ++ B) from rfl, this]
  simp [remP, lo, hi, lt_irrefl]
theorem insP_one {A B : List Pr} {x y : Pr} (hy : y.1 = x.1) (hA : AllL x.1 A) (hB : AllG x.1 B) : insP (A ++ y :: B) x = A ++ x :: B := by
  have := insP_mid (M := [y]) (x := x) hA hB
  rw [List.append_assoc] at this
  rw [show A ++ y :: B = A ++ ([y] ++ B) from rfl, this]
  simp [insP, lo, hi, hy, lt_irrefl]
theorem eqs_one {A B : List Pr} {x : Pr} (hA : AllL x.1 A) (hB : AllG x.1 B) : eqs x.1 (A ++ x :: B) = [x] := by
  have := eqs_mid (M := [x]) hA hB
  rw [List.append_assoc] at this
  rw [show A ++ x :: B = A ++ ([x] ++ B) from rfl, this]
  simp [eqs]
/-- in keys that rise, what is ahead of a key is less, what is behind it greater -/
theorem Ris.split {A B : List Pr} {x : Pr} (h : Ris (A ++ x :: B)) : AllL x.1 A ∧ AllG x.1 B := by
  unfold Ris at h
  rw [List.pairwise_append] at h
  refine ⟨fun y hy => h.2.2 y hy x (by simp), fun y hy => ?_⟩
  exact (List.pairwise_cons.1 h.2.1).1 y hy
theorem Ris.left {A B : List Pr} (h : Ris (A ++ B)) : Ris A := (List.pairwise_append.1 h).1
theorem Ris.right {A B : List Pr} (h : Ris (A ++ B)) : Ris B := (List.pairwise_append.1 h).2.1
theorem AllL.of {k : ByteArray} {l m : List Pr} (h : AllL k l) (hs : ∀ x ∈ m, x ∈ l) : AllL k m := fun x hx => h x (hs x hx)
theorem AllG.of {k : ByteArray} {l m : List Pr} (h : AllG k l) (hs : ∀ x ∈ m, x ∈ l) : AllG k m := fun x hx => h x (hs x hx)
/-- the same pairs rise -/
theorem ris_ins {l : List Pr} (h : Ris l) (x : Pr) : Ris (insP l x) := by
  unfold insP Ris
  rw [List.append_assoc, List.pairwise_append]
  refine ⟨h.filter _, ?_, ?_⟩
  · rw [List.singleton_append, List.pairwise_cons]
    exact ⟨fun y hy => by simpa [hi] using (List.mem_filter.1 hy).2, h.filter _⟩
  · intro a ha b hb
    have h1 : Lt a.1 x.1 = true := (List.mem_filter.1 ha).2
    rw [List.singleton_append, List.mem_cons] at hb
    rcases hb with rfl | hb
    · exact h1
    · exact lt_trans h1 (List.mem_filter.1 hb).2
theorem ris_rem {l : List Pr} (h : Ris l) (k : ByteArray) : Ris (remP l k) := by
  unfold remP Ris
  rw [List.pairwise_append]
  exact ⟨h.filter _, h.filter _, fun a ha b hb => lt_trans (List.mem_filter.1 ha).2 (List.mem_filter.1 hb).2⟩

/-- where a key stands in pairs that rise -/
theorem ris_at {ps : List Pr} {key : ByteArray} {k : Nat} (h : Ris ps) (ha : AtP ps key k) : AllL key (ps.take k) ∧
    (isP ps key k = true → ∃ x, ps[k]? = some x ∧ x.1 = key ∧ ps = ps.take k ++ x :: ps.drop (k + 1) ∧ AllG key (ps.drop (k + 1))) ∧ (isP ps key k = false → AllG key (ps.drop k)) := by
  have hL : AllL key (ps.take k) := by
    intro x hx
    obtain ⟨i, hi, rfl⟩ := List.mem_iff_getElem.1 hx
    have hik : i < k := by rw [List.length_take] at hi; omega
    have hip : i < ps.length := by rw [List.length_take] at hi; omega
    have := ha.2.1 i _ hik (List.getElem?_eq_getElem hip)
    rw [List.getElem_take]
    simpa [geS_eq] using this
  refine ⟨hL, fun hi => ?_, fun hi => ?_⟩
  · cases hx : ps[k]? with
    | none => simp only [isP, hx] at hi; cases hi
    | some x =>
      simp only [isP, hx] at hi
      have hk := eqb_iff.1 hi
      obtain ⟨hlt, e⟩ := List.getElem?_eq_some_iff.1 hx
      have es : ps = ps.take k ++ x :: ps.drop (k + 1) := by
        rw [← e, ← List.drop_eq_getElem_cons hlt, List.take_append_drop]
      refine ⟨x, rfl, hk, es, ?_⟩
      have h2 := h
      rw [es] at h2
      rw [← hk]
      exact h2.split.2
  · intro y hy
    obtain ⟨i, hi', rfl⟩ := List.mem_iff_getElem.1 hy
    have hip : k + i < ps.length := by rw [List.length_drop] at hi'; omega
    have hge : ∀ j (hj : j < ps.length), k ≤ j → Lt (ps[j]).1 key = false := fun j hj hkj => by
      have := ha.2.2 j _ hkj (List.getElem?_eq_getElem hj)
      simpa [geS_eq] using this
    have hk : k < ps.length := by omega
    have h0 := hge k hk (Nat.le_refl _)
    have hne : ps[k].1 ≠ key := by
      intro e
      have : isP ps key k = true := by simp only [isP, List.getElem?_eq_getElem hk]; exact eqb_iff.2 e
      rw [hi] at this; cases this
    have hlt : Lt key ps[k].1 = true := by
      cases hc : Lt key ps[k].1 with
      | true => rfl
      | false => exact absurd (lt_total h0 hc) hne
    rw [List.getElem_drop]
    cases i with
    | zero => exact hlt
    | succ j =>
      have := List.pairwise_iff_getElem.1 h k (k + (j + 1)) hk hip (by omega)
      exact lt_trans hlt this
theorem ris_mono {ps : List Pr} (h : Ris ps) (key : ByteArray) : Mono ps key := by
  intro i j x y hij hx hy hg
  by_cases e : i = j
  · subst e; rw [hx] at hy; cases hy; exact hg
  · obtain ⟨h1, rfl⟩ := List.getElem?_eq_some_iff.1 hx
    obtain ⟨h2, rfl⟩ := List.getElem?_eq_some_iff.1 hy
    have hlt := List.pairwise_iff_getElem.1 h i j h1 h2 (by omega)
    rw [geS_eq] at hg ⊢
    cases hc : Lt ps[j].1 key with
    | false => rfl
    | true => have := lt_trans hlt hc; rw [this] at hg; cases hg
end Go.Proofs.Ytnagknlfboadkaa.Oct

/- Trees all of whose leaves are equally deep: their pairs as one list; nodes cut, joined, and mended. Of no program. -/
namespace Go.Proofs.Ytnagknlfboadkaa.Oct
open Go.RowKit

/-- a tree of depth d + 1 -/
def T : Nat → Type
  | 0 => List Pr
  | d + 1 => List Pr × List (T d)
/-- a root's own pairs -/
def prs : (d : Nat) → T d → List Pr
  | 0, t => t
  | _ + 1, t => t.1
/-- pairs with what stands behind them -/
def dn (ps : List Pr) (ls : List (List Pr)) : List Pr := (List.zipWith (fun p l => p :: l) ps ls).flatten
/-- pairs with what stands ahead of them -/
def upp (ls : List (List Pr)) (ps : List Pr) : List Pr := (List.zipWith (fun l p => l ++ [p]) ls ps).flatten
def inter : List (List Pr) → List Pr → List Pr
  | [], _ => []
  | l :: ls, ps => l ++ dn ps ls
/-- all pairs of a tree, in order -/
def tl : (d : Nat) → T d → List Pr
  | 0, t => t
  | d + 1, t => inter (t.2.map (tl d)) t.1
/-- kids are not too small and not too great, and one more than pairs -/
def WF : (d : Nat) → T d → Prop
  | 0, _ => True
  | d + 1, t => t.2.length = t.1.length + 1 ∧ ∀ k ∈ t.2, WF d k ∧ 3 ≤ (prs d k).length ∧ (prs d k).length ≤ 7

theorem dn_app {p1 p2 : List Pr} {l1 l2 : List (List Pr)} (h : p1.length = l1.length) : dn (p1 ++ p2) (l1 ++ l2) = dn p1 l1 ++ dn p2 l2 := by
  unfold dn; rw [List.zipWith_append h, List.flatten_append]
theorem upp_app {p1 p2 : List Pr} {l1 l2 : List (List Pr)} (h : l1.length = p1.length) : upp (l1 ++ l2) (p1 ++ p2) = upp l1 p1 ++ upp l2 p2 := by
  unfold upp; rw [List.zipWith_append h, List.flatten_append]
/-- a node's pairs at one of its kids -/
theorem inter_at : ∀ {ls : List (List Pr)} {ps : List Pr} (i : Nat) (l : List Pr), ls.length = ps.length + 1 → ls[i]? = some l → inter ls ps = upp (ls.take i) (ps.take i) ++ l ++ dn (ps.drop i) (ls.drop (i + 1))
  | [], _, i, l, _, h => by simp at h
  | a :: ls, ps, 0, l, hl, h => by
    simp at h; subst h
    simp [inter, upp]
  | a :: ls, [], i + 1, l, hl, h => by
    have : ls = [] := by simpa using hl
    subst this
    simp at h
  | a :: ls, p :: ps, i + 1, l, hl, h => by
    have hl' : ls.length = ps.length + 1 := by simpa using hl
    have h' : ls[i]? = some l := by simpa using h
    have ih := inter_at i l hl' h'
    cases ls with
    | nil => simp at h'
    | cons b ls =>
      have e1 : inter (a :: b :: ls) (p :: ps) = a ++ [p] ++ inter (b :: ls) ps := by simp [inter, dn]
      rw [e1, ih]
      simp [upp]
theorem inter_join {l1 l2 : List (List Pr)} {p1 p2 : List Pr} {p : Pr} (h1 : l1.length = p1.length + 1) (h2 : l2 ≠ []) : inter (l1 ++ l2) (p1 ++ p :: p2) = inter l1 p1 ++ p :: inter l2 p2 := by
  cases l1 with
  | nil => simp at h1
  | cons a l1 =>
    cases l2 with
    | nil => exact absurd rfl h2
    | cons b l2 =>
      have hl : p1.length = l1.length := by simpa using h1.symm
      show a ++ dn (p1 ++ p :: p2) (l1 ++ b :: l2) = (a ++ dn p1 l1) ++ p :: (b ++ dn p2 l2)
      rw [dn_app hl]
      simp [dn]
/-- one kid in another one's place -/
theorem inter_set {ls : List (List Pr)} {ps : List Pr} {i : Nat} {l l' : List Pr} (hl : ls.length = ps.length + 1) (h : ls[i]? = some l) : inter (ls.take i ++ [l'] ++ ls.drop (i + 1)) ps = upp (ls.take i) (ps.take i) ++ l' ++ dn (ps.drop i) (ls.drop (i + 1)) := by
  have hi := (List.getElem?_eq_some_iff.1 h).1
  have e : (ls.take i ++ [l'] ++ ls.drop (i + 1))[i]? = some l' := by
    rw [List.append_assoc, List.getElem?_append_right (by rw [List.length_take]; omega), List.length_take]
    simp [Nat.min_eq_left (Nat.le_of_lt hi)]
  have e2 : (ls.take i ++ [l'] ++ ls.drop (i + 1)).length = ps.length + 1 := by simp; omega
  rw [inter_at i l' e2 e]
  have e3 : (ls.take i ++ [l'] ++ ls.drop (i + 1)).take i = ls.take i := by
    rw [List.append_assoc, List.take_append_of_le_length (by rw [List.length_take]; omega), List.take_take]; simp
  have e4 : (ls.take i ++ [l'] ++ ls.drop (i + 1)).drop (i + 1) = ls.drop (i + 1) := by
    rw [List.drop_append, List.drop_eq_nil_of_le (by simp; omega)]
    simp [Nat.min_eq_left (Nat.le_of_lt hi)]
  rw [e3, e4]
/-- two kids, with a pair between them, in one's place -/
theorem inter_two {ls : List (List Pr)} {ps : List Pr} {i : Nat} {l a b : List Pr} {m : Pr} (hl : ls.length = ps.length + 1) (h : ls[i]? = some l) :
    inter (ls.take i ++ [a, b] ++ ls.drop (i + 1)) (ps.take i ++ [m] ++ ps.drop i) = upp (ls.take i) (ps.take i) ++ (a ++ m :: b) ++ dn (ps.drop i) (ls.drop (i + 1)) := by
  have hi := (List.getElem?_eq_some_iff.1 h).1
  have e1 : ls.take i ++ [a, b] ++ ls.drop (i + 1) = (ls.take i ++ [a]) ++ (b :: ls.drop (i + 1)) := by simp
  have e2 : ps.take i ++ [m] ++ ps.drop i = ps.take i ++ m :: ps.drop i := by simp
  rw [e1, e2, inter_join (by simp; omega) (by simp)]
  have e3 : inter (ls.take i ++ [a]) (ps.take i) = upp (ls.take i) (ps.take i) ++ a := by
    have hx : (ls.take i ++ [a])[i]? = some a := by
      rw [List.getElem?_append_right (by rw [List.length_take]; omega), List.length_take]; simp [Nat.min_eq_left (Nat.le_of_lt hi)]
    rw [inter_at i a (by simp; omega) hx]
    have k1 : (ls.take i ++ [a]).take i = ls.take i := by
      rw [List.take_append_of_le_length (by rw [List.length_take]; omega), List.take_take]; simp
    have k2 : (ls.take i ++ [a]).drop (i + 1) = [] := List.drop_eq_nil_of_le (by simp; omega)
    rw [k1, k2, List.take_take]
    simp [dn]
  rw [e3]
  simp [inter]
/-- a node cut in two -/
theorem inter_cut {ls : List (List Pr)} {ps : List Pr} {i : Nat} {p : Pr} (hl : ls.length = ps.length + 1) (h : ps[i]? = some p) :
    inter ls ps = inter (ls.take (i + 1)) (ps.take i) ++ p :: inter (ls.drop (i + 1)) (ps.drop (i + 1)) := by
  obtain ⟨hi, e⟩ := List.getElem?_eq_some_iff.1 h
  have e1 : ps = ps.take i ++ p :: ps.drop (i + 1) := by rw [← e, ← List.drop_eq_getElem_cons hi, List.take_append_drop]
  have e2 : ls = ls.take (i + 1) ++ ls.drop (i + 1) := (List.take_append_drop _ _).symm
  have hne : ls.drop (i + 1) ≠ [] := by
    intro h0
    have := congrArg List.length h0
    simp at this; omega
  have := inter_join (p := p) (p1 := ps.take i) (p2 := ps.drop (i + 1)) (l1 := ls.take (i + 1)) (l2 := ls.drop (i + 1)) (by simp; omega) hne
  rw [← e1, ← e2] at this
  exact this
theorem mem_upp {ls : List (List Pr)} {ps : List Pr} {x : Pr} (h : x ∈ ps) (hl : ps.length ≤ ls.length) : x ∈ upp ls ps := by
  obtain ⟨i, hi, rfl⟩ := List.mem_iff_getElem.1 h
  unfold upp
  rw [List.mem_flatten]
  refine ⟨ls[i] ++ [ps[i]], ?_, by simp⟩
  rw [List.mem_iff_getElem]
  exact ⟨i, by simp; omega, by simp⟩
theorem mem_dn {ls : List (List Pr)} {ps : List Pr} {x : Pr} (h : x ∈ ps) (hl : ps.length ≤ ls.length) : x ∈ dn ps ls := by
  obtain ⟨i, hi, rfl⟩ := List.mem_iff_getElem.1 h
  unfold dn
  rw [List.mem_flatten]
  refine ⟨ps[i] :: ls[i], ?_, by simp⟩
  rw [List.mem_iff_getElem]
  exact ⟨i, by simp; omega, by simp⟩
end Go.Proofs.Ytnagknlfboadkaa.Oct

/- Trees: where a key stands in a node's kids; what becomes of the list. Of no program. -/
namespace Go.Proofs.Ytnagknlfboadkaa.Oct
open Go.RowKit

theorem upp_L {key : ByteArray} : ∀ {ls : List (List Pr)} {ps : List Pr}, ls.length = ps.length → Ris (upp ls ps) → AllL key ps → AllL key (upp ls ps)
  | [], [], _, _, _ => by intro x hx; simp [upp] at hx
  | [], _ :: _, h, _, _ => by simp at h
  | _ :: _, [], h, _, _ => by simp at h
  | l :: ls, p :: ps, h, hr, hL => by
    have e : upp (l :: ls) (p :: ps) = l ++ p :: upp ls ps := by simp [upp]
    rw [e] at hr ⊢
    have hp : Lt p.1 key = true := hL p (by simp)
    have ih := upp_L (by simpa using h) (List.pairwise_cons.1 hr.right).2 (hL.of (fun x hx => List.mem_cons_of_mem _ hx))
    intro x hx
    rcases List.mem_append.1 hx with hx | hx
    · exact lt_trans (hr.split.1 x hx) hp
    · rcases List.mem_cons.1 hx with rfl | hx
      · exact hp
      · exact ih x hx
theorem dn_G {key : ByteArray} : ∀ {ps : List Pr} {ls : List (List Pr)}, ps.length = ls.length → Ris (dn ps ls) → AllG key ps → AllG key (dn ps ls)
  | [], [], _, _, _ => by intro x hx; simp [dn] at hx
  | [], _ :: _, h, _, _ => by simp at h
  | _ :: _, [], h, _, _ => by simp at h
  | p :: ps, l :: ls, h, hr, hG => by
    have e : dn (p :: ps) (l :: ls) = p :: (l ++ dn ps ls) := by simp [dn]
    rw [e] at hr ⊢
    have hp : Lt key p.1 = true := hG p (by simp)
    have hr2 := List.pairwise_cons.1 hr
    have ih := dn_G (by simpa using h) (List.pairwise_append.1 hr2.2).2.1 (hG.of (fun x hx => List.mem_cons_of_mem _ hx))
    intro x hx
    rcases List.mem_cons.1 hx with rfl | hx
    · exact hp
    · exact lt_trans hp (hr2.1 x hx)

/-- a node's own pairs rise -/
theorem ris_own {d : Nat} {t : T (d + 1)} (h : Ris (tl (d + 1) t)) (hl : t.2.length = t.1.length + 1) : Ris t.1 := by
  have hs : t.1.Sublist (tl (d + 1) t) := by
    show t.1.Sublist (inter (t.2.map (tl d)) t.1)
    obtain ⟨ps, ts⟩ := t
    cases ts with
    | nil => simp at hl
    | cons a ts =>
      have hl' : ps.length = ts.length := by simpa using hl.symm
      show ps.Sublist (tl d a ++ dn ps (ts.map (tl d)))
      refine List.Sublist.trans ?_ (List.sublist_append_right _ _)
      clear h hl
      induction ps generalizing ts with
      | nil => simp
      | cons p ps ih =>
        cases ts with
        | nil => simp at hl'
        | cons b ts =>
          have e : dn (p :: ps) (List.map (tl d) (b :: ts)) = p :: (tl d b ++ dn ps (ts.map (tl d))) := by simp [dn]
          rw [e]
          exact List.Sublist.cons_cons _ ((ih ts (by simpa using hl')).trans (List.sublist_append_right _ _))
  exact h.sublist hs
theorem ris_prs {d : Nat} {t : T d} (h : Ris (tl d t)) (hw : WF d t) : Ris (prs d t) := by
  cases d with
  | zero => exact h
  | succ d => exact ris_own h hw.1
theorem kid_map {d : Nat} {ts : List (T d)} {i : Nat} {k : T d} (h : ts[i]? = some k) : (ts.map (tl d))[i]? = some (tl d k) := by rw [List.getElem?_map, h]; rfl
/-- a node at the kid where a key belongs -/
theorem node_at {d : Nat} {ps : List Pr} {ts : List (T d)} {key : ByteArray} {i : Nat} {k : T d} (hl : ts.length = ps.length + 1) (hr : Ris (inter (ts.map (tl d)) ps)) (hp : Ris ps) (ha : AtP ps key i) (hk : ts[i]? = some k) (hi : isP ps key i = false) :
    ∃ A B, inter (ts.map (tl d)) ps = A ++ tl d k ++ B ∧ A = upp ((ts.map (tl d)).take i) (ps.take i) ∧ B = dn (ps.drop i) ((ts.map (tl d)).drop (i + 1)) ∧ AllL key A ∧ AllG key B ∧ Ris (tl d k) := by
  have hil : i ≤ ps.length := ha.1
  have e := inter_at i (tl d k) (ls := ts.map (tl d)) (ps := ps) (by simpa using hl) (kid_map hk)
  have hr2 := hr
  rw [e] at hr2
  obtain ⟨h1, _, h3⟩ := ris_at hp ha
  refine ⟨_, _, e, rfl, rfl, upp_L (by simp; omega) hr2.left.left h1, dn_G (by simp; omega) hr2.right (h3 hi), hr2.left.right⟩
/-- a node at a pair -/
theorem node_is {d : Nat} {ps : List Pr} {ts : List (T d)} {i : Nat} {x : Pr} (hl : ts.length = ps.length + 1) (hr : Ris (inter (ts.map (tl d)) ps)) (hx : ps[i]? = some x) :
    ∃ A B, inter (ts.map (tl d)) ps = A ++ x :: B ∧ A = inter ((ts.map (tl d)).take (i + 1)) (ps.take i) ∧ B = inter ((ts.map (tl d)).drop (i + 1)) (ps.drop (i + 1)) ∧ AllL x.1 A ∧ AllG x.1 B := by
  have e := inter_cut (ls := ts.map (tl d)) (i := i) (by simpa using hl) hx
  have hr2 := hr
  rw [e] at hr2
  exact ⟨_, _, e, rfl, rfl, hr2.split.1, hr2.split.2⟩
/-- a leaf with a pair put in, in a pair's place or beside them -/
theorem leaf_ins_is {ps : List Pr} {x : Pr} {k : Nat} (h : Ris ps) (ha : AtP ps x.1 k) (hi : isP ps x.1 k = true) : insP ps x = ps.take k ++ [x] ++ ps.drop (k + 1) := by
  obtain ⟨h1, h2, _⟩ := ris_at h ha
  obtain ⟨y, _, hy, e, hG⟩ := h2 hi
  rw [List.append_assoc]
  refine Eq.trans (congrArg (fun l => insP l x) e) ?_
  exact insP_one hy h1 hG
theorem leaf_ins_no {ps : List Pr} {x : Pr} {k : Nat} (h : Ris ps) (ha : AtP ps x.1 k) (hi : isP ps x.1 k = false) : insP ps x = ps.take k ++ [x] ++ ps.drop k := by
  obtain ⟨h1, _, h3⟩ := ris_at h ha
  have e : ps = ps.take k ++ [] ++ ps.drop k := by simp
  refine Eq.trans (congrArg (fun l => insP l x) e) ?_
  rw [insP_mid h1 (h3 hi)]
  rfl
theorem leaf_rem {ps : List Pr} {key : ByteArray} {k : Nat} (h : Ris ps) (ha : AtP ps key k) (hi : isP ps key k = true) : remP ps key = ps.take k ++ ps.drop (k + 1) := by
  obtain ⟨h1, h2, _⟩ := ris_at h ha
  obtain ⟨y, _, hy, e, hG⟩ := h2 hi
  subst hy
  refine Eq.trans (congrArg (fun l => remP l y.1) e) ?_
  exact remP_one h1 hG
/-- what is told of a key -/
theorem eqs_is {ps : List Pr} {key : ByteArray} {k : Nat} (h : Ris ps) (ha : AtP ps key k) (hi : isP ps key k = true) : ∃ x, ps[k]? = some x ∧ x.1 = key ∧ eqs key ps = [x] := by
  obtain ⟨h1, h2, _⟩ := ris_at h ha
  obtain ⟨y, hy0, hy, e, hG⟩ := h2 hi
  subst hy
  refine ⟨y, hy0, rfl, ?_⟩
  refine Eq.trans (congrArg (eqs y.1) e) ?_
  exact eqs_one h1 hG
theorem eqs_no {ps : List Pr} {key : ByteArray} {k : Nat} (h : Ris ps) (ha : AtP ps key k) (hi : isP ps key k = false) : eqs key ps = [] := by
  obtain ⟨h1, _, h3⟩ := ris_at h ha
  have e : ps = ps.take k ++ [] ++ ps.drop k := by simp
  refine Eq.trans (congrArg (eqs key) e) ?_
  rw [eqs_mid h1 (h3 hi)]
  rfl
end Go.Proofs.Ytnagknlfboadkaa.Oct
