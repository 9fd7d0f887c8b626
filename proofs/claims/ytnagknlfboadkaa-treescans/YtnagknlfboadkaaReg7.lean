/-
  Layer 7 (tree): the statement of the closure of 'from' that takes a kid's iterator, whatever its order.
-/
import Derived.Test.YtnagknlfboadkaaReg
namespace Go.Proofs.Ytnagknlfboadkaa.Oct
open Go.RowKit
attribute [local go_sem] Oper.semAt_some
set_option maxRecDepth 100000 in
set_option maxHeartbeats 2000000 in
theorem reg7 {Q : Exit → Act → World → Prop} {y0 y3 y4 y5 y7 y8 y9 y10 y11 y12 y13 y14 y15 y16 y17 y18 y19 y20 y21 y22 y23 y24 y25 y26 y27 y28 y29 y30 y31 y32 y33 y34 y35 y36 y37 y38 y39 y40 y41 y42 y43 y44 y45 y46 y47 y48 y49 y50 y51 y52 y53 y54 y55 y56 y57 y58 y59 y60 y61 y62 y63 y64 y65 y66 y67 y68 y69 y70 y71 y72 y73 : Value} {ds : List Deferred} {A : World} {dd Bn Bk nd g off n cap i kb : Nat} {key : ByteArray} {R : Ending → World → Prop}
    (hc : A.cell? ⟨Bn, 0, none⟩ = some (.pointer (some ⟨nd, 0, none⟩)) ∧ A.cell? ⟨Bk, 0, none⟩ = some (.string key) ∧ A.cell? ⟨nd, 1, none⟩ = some (.slice (some ⟨g, off, none⟩) n cap) ∧ A.cell? ⟨g, off + i, none⟩ = some (.pointer (some ⟨kb, 0, none⟩))) (hi : (i : Int) < (n : Int))
    (hF : CallsIn Fence.wide (dd - 1) Try.prog 29 #[.pointer (some ⟨kb, 0, none⟩), .string key] A.drew R)
    (hR : ∀ e B, R e B → ∃ v : Value, e = .returned v ∧ B.cell? ⟨Bn, 0, none⟩ = some (.pointer (some ⟨nd, 0, none⟩)) ∧ B.cell? ⟨Bk, 0, none⟩ = some (.string key) ∧ B.cell? ⟨nd, 1, none⟩ = some (.slice (some ⟨g, off, none⟩) n cap) ∧ B.cell? ⟨g, off + i, none⟩ = some (.pointer (some ⟨kb, 0, none⟩)))
    (hQ : ∀ v B, R (.returned v) B → Q .normal { tmps := #[y0, .pointer (some ⟨Bn, 0, none⟩), .pointer (some ⟨Bk, 0, none⟩), y3, y4, y5, .int .i64 (i : Int), y7, y8, y9, y10, y11, y12, y13, y14, y15, y16, y17, y18, y19, y20, y21, y22, y23, y24, y25, y26, y27, y28, y29, .pointer (some ⟨nd, 0, none⟩), .pointer (some ⟨nd, 0, none⟩), .pointer (some ⟨nd, 1, none⟩), .slice (some ⟨g, off, none⟩) n cap, .int .i64 (i : Int), .pointer (some ⟨g, off + i, none⟩), .pointer (some ⟨kb, 0, none⟩), .string key, v, y39, y40, y41, y42, y43, y44, y45, y46, y47, y48, y49, y50, y51, y52, y53, y54, y55, y56, y57, y58, y59, y60, y61, y62, y63, y64, y65, y66, y67, y68, y69, y70, y71, y72, y73], defers := ds } B) :
    (Code.region 7 #[{ dst := some 30, op := Op.load 46 (Operand.tmp 1), type := 46, pos := "node.go:72", after := #[], guard := none }, { dst := some 31, op := Op.nilCheck (Operand.tmp 30), type := 0, pos := "node.go:72", after := #[{ on := 0, ground := Ground.data }], guard := none }, { dst := some 32, op := Op.fieldAddr 67 (Operand.tmp 31) 1, type := 0, pos := "node.go:72", after := #[{ on := 1, ground := Ground.data }], guard := none }, { dst := some 33, op := Op.load 65 (Operand.tmp 32), type := 65, pos := "node.go:72", after := #[{ on := 2, ground := Ground.data }], guard := none }, { dst := some 34, op := Op.move (Operand.tmp 6), type := 3, pos := "node.go:72", after := #[], guard := none }, { dst := some 35, op := Op.indexAddr 65 (Operand.tmp 33) (Operand.tmp 34), type := 0, pos := "node.go:72", after := #[{ on := 3, ground := Ground.data }, { on := 4, ground := Ground.data }], guard := none }, { dst := some 36, op := Op.load 46 (Operand.tmp 35), type := 46, pos := "node.go:72", after := #[{ on := 5, ground := Ground.data }], guard := none }, { dst := some 37, op := Op.load 9 (Operand.tmp 2), type := 9, pos := "node.go:72", after := #[], guard := none }, { dst := some 38, op := Op.call { callee := Callee.value (Operand.func 29), args := #[Operand.tmp 36, Operand.tmp 37], argTypes := #[46, 9] }, type := 37, pos := "node.go:72", after := #[{ on := 6, ground := Ground.data }, { on := 7, ground := Ground.data }], guard := none }] true).wpIn Fence.wide dd Try.prog Q { tmps := #[y0, .pointer (some ⟨Bn, 0, none⟩), .pointer (some ⟨Bk, 0, none⟩), y3, y4, y5, .int .i64 (i : Int), y7, y8, y9, y10, y11, y12, y13, y14, y15, y16, y17, y18, y19, y20, y21, y22, y23, y24, y25, y26, y27, y28, y29, y30, y31, y32, y33, y34, y35, y36, y37, y38, y39, y40, y41, y42, y43, y44, y45, y46, y47, y48, y49, y50, y51, y52, y53, y54, y55, y56, y57, y58, y59, y60, y61, y62, y63, y64, y65, y66, y67, y68, y69, y70, y71, y72, y73], defers := ds } A := by
  refine wpIn_mono (Q := fun x a' w' => match x with | .normal => Q .normal a' w' | _ => False) ?_ (by intro x a' w' h; cases x <;> first | exact h | exact h.elim)
  obtain ⟨S, hSd⟩ : ∃ S : World → Prop, S = fun W => W.cell? ⟨Bn, 0, none⟩ = some (.pointer (some ⟨nd, 0, none⟩)) ∧ W.cell? ⟨Bk, 0, none⟩ = some (.string key) ∧ W.cell? ⟨nd, 1, none⟩ = some (.slice (some ⟨g, off, none⟩) n cap) ∧ W.cell? ⟨g, off + i, none⟩ = some (.pointer (some ⟨kb, 0, none⟩)) := ⟨_, rfl⟩
  refine region_S (S := S) (by kernel_rfl) ?_
  have hS : S A.drew := by rw [hSd]; exact hc
  have hi2 : i < n := by omega
  change anyS Fence.wide dd Try.prog .any _ _ S 9 (Array.replicate 9 false) _ A.drew
  refine anyS_take (i := 0) (oi := { dst := some 30, op := Op.load 46 (Operand.tmp 1), type := 46, pos := "node.go:72", after := #[], guard := none }) (v := .pointer (some ⟨nd, 0, none⟩)) rfl rfl (by kernel_rfl) (by kernel_rfl) (by kernel_rfl) (fun _ _ _ h => h.elim) ⟨Or.inl ⟨by rfl, ?z0⟩, fun _ => rfl⟩ hS ?_
  case z0 =>
    intro W hW
    rw [hSd] at hW; obtain ⟨s1, s2, s3, s4⟩ := hW
    go_simp
  simp only [Act.put, List.setIfInBounds_toArray, List.set_cons_zero, List.set_cons_succ]
  refine anyS_take (i := 1) (oi := { dst := some 31, op := Op.nilCheck (Operand.tmp 30), type := 0, pos := "node.go:72", after := #[{ on := 0, ground := Ground.data }], guard := none }) (v := .pointer (some ⟨nd, 0, none⟩)) rfl rfl (by kernel_rfl) (by kernel_rfl) (by kernel_rfl) (fun _ _ _ h => h.elim) ⟨Or.inl ⟨by rfl, ?z1⟩, fun _ => rfl⟩ hS ?_
  case z1 =>
    intro W hW
    rw [hSd] at hW; obtain ⟨s1, s2, s3, s4⟩ := hW
    go_simp
  simp only [Act.put, List.setIfInBounds_toArray, List.set_cons_zero, List.set_cons_succ]
  refine anyS_take (i := 2) (oi := { dst := some 32, op := Op.fieldAddr 67 (Operand.tmp 31) 1, type := 0, pos := "node.go:72", after := #[{ on := 1, ground := Ground.data }], guard := none }) (v := .pointer (some ⟨nd, 1, none⟩)) rfl rfl (by kernel_rfl) (by kernel_rfl) (by kernel_rfl) (fun _ _ _ h => h.elim) ⟨Or.inl ⟨by rfl, ?z2⟩, fun _ => rfl⟩ hS ?_
  case z2 =>
    intro W hW
    rw [hSd] at hW; obtain ⟨s1, s2, s3, s4⟩ := hW
    go_simp
  simp only [Act.put, List.setIfInBounds_toArray, List.set_cons_zero, List.set_cons_succ]
  refine anyS_take (i := 3) (oi := { dst := some 33, op := Op.load 65 (Operand.tmp 32), type := 65, pos := "node.go:72", after := #[{ on := 2, ground := Ground.data }], guard := none }) (v := .slice (some ⟨g, off, none⟩) n cap) rfl rfl (by kernel_rfl) (by kernel_rfl) (by kernel_rfl) (fun _ _ _ h => h.elim) ⟨Or.inl ⟨by rfl, ?z3⟩, fun _ => rfl⟩ hS ?_
  case z3 =>
    intro W hW
    rw [hSd] at hW; obtain ⟨s1, s2, s3, s4⟩ := hW
    go_simp
  simp only [Act.put, List.setIfInBounds_toArray, List.set_cons_zero, List.set_cons_succ]
  refine anyS_take (i := 4) (oi := { dst := some 34, op := Op.move (Operand.tmp 6), type := 3, pos := "node.go:72", after := #[], guard := none }) (v := .int .i64 (i : Int)) rfl rfl (by kernel_rfl) (by kernel_rfl) (by kernel_rfl) (fun _ _ _ h => h.elim) ⟨Or.inl ⟨by rfl, ?z4⟩, fun _ => rfl⟩ hS ?_
  case z4 =>
    intro W hW
    rw [hSd] at hW; obtain ⟨s1, s2, s3, s4⟩ := hW
    go_simp
  simp only [Act.put, List.setIfInBounds_toArray, List.set_cons_zero, List.set_cons_succ]
  refine anyS_take (i := 5) (oi := { dst := some 35, op := Op.indexAddr 65 (Operand.tmp 33) (Operand.tmp 34), type := 0, pos := "node.go:72", after := #[{ on := 3, ground := Ground.data }, { on := 4, ground := Ground.data }], guard := none }) (v := .pointer (some ⟨g, off + i, none⟩)) rfl rfl (by kernel_rfl) (by kernel_rfl) (by kernel_rfl) (fun _ _ _ h => h.elim) ⟨Or.inl ⟨by rfl, ?z5⟩, fun _ => rfl⟩ hS ?_
  case z5 =>
    intro W hW
    rw [hSd] at hW; obtain ⟨s1, s2, s3, s4⟩ := hW
    go_simp
  simp only [Act.put, List.setIfInBounds_toArray, List.set_cons_zero, List.set_cons_succ]
  refine anyS_take (i := 6) (oi := { dst := some 36, op := Op.load 46 (Operand.tmp 35), type := 46, pos := "node.go:72", after := #[{ on := 5, ground := Ground.data }], guard := none }) (v := .pointer (some ⟨kb, 0, none⟩)) rfl rfl (by kernel_rfl) (by kernel_rfl) (by kernel_rfl) (fun _ _ _ h => h.elim) ⟨Or.inl ⟨by rfl, ?z6⟩, fun _ => rfl⟩ hS ?_
  case z6 =>
    intro W hW
    rw [hSd] at hW; obtain ⟨s1, s2, s3, s4⟩ := hW
    go_simp
  simp only [Act.put, List.setIfInBounds_toArray, List.set_cons_zero, List.set_cons_succ]
  refine anyS_take (i := 7) (oi := { dst := some 37, op := Op.load 9 (Operand.tmp 2), type := 9, pos := "node.go:72", after := #[], guard := none }) (v := .string key) rfl rfl (by kernel_rfl) (by kernel_rfl) (by kernel_rfl) (fun _ _ _ h => h.elim) ⟨Or.inl ⟨by rfl, ?z7⟩, fun _ => rfl⟩ hS ?_
  case z7 =>
    intro W hW
    rw [hSd] at hW; obtain ⟨s1, s2, s3, s4⟩ := hW
    go_simp
  simp only [Act.put, List.setIfInBounds_toArray, List.set_cons_zero, List.set_cons_succ]
  refine anyS_one (i := 8) (by kernel_rfl) (wpOpIn_step (o := { dst := some 38, op := Op.call { callee := Callee.value (Operand.func 29), args := #[Operand.tmp 36, Operand.tmp 37], argTypes := #[46, 9] }, type := 37, pos := "node.go:72", after := #[{ on := 6, ground := Ground.data }, { on := 7, ground := Ground.data }], guard := none }) rfl ?_)
  intro K' hK'
  rw [if_pos (by rfl)]
  refine ⟨fun _ _ => trivial, ?_⟩
  have hsem : ∀ a : Act, a.eval (.tmp 36) = .pointer (some ⟨kb, 0, none⟩) → a.eval (.tmp 37) = .string key → (Oper.semAt Fence.wide.round a.eval { dst := some 38, op := Op.call { callee := Callee.value (Operand.func 29), args := #[Operand.tmp 36, Operand.tmp 37], argTypes := #[46, 9] }, type := 37, pos := "node.go:72", after := #[{ on := 6, ground := Ground.data }, { on := 7, ground := Ground.data }], guard := none }).run Try.prog A.drew = .ok (.enter 29 #[.pointer (some ⟨kb, 0, none⟩), .string key]) A.drew := by
    intro a h1 h2
    rw [show Fence.wide.round = none from rfl, Oper.semAt_none]
    simp only [execOp, resolve, h1, h2, List.map_toArray, List.map_cons, List.map_nil]
    go_simp
  rw [hsem _ rfl rfl]
  refine ⟨fun h => (by cases h), hF.mono ?_⟩
  rintro e B hRB
  obtain ⟨v, rfl, hB⟩ := hR e B hRB
  refine hK' _ _ ⟨by rw [hSd]; exact hB, ?_⟩
  simp only [Act.put, List.setIfInBounds_toArray, List.set_cons_zero, List.set_cons_succ]
  refine anyS_done (by kernel_rfl) ?_ _
  exact hQ v B hRB
#print axioms reg7
end Go.Proofs.Ytnagknlfboadkaa.Oct
