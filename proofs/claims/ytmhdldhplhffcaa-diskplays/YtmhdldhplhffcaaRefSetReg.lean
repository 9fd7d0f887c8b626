/-
  Layer 5 (disk): the reference: a pending write made sure, whatever the order.
-/
import Derived.Test.YtmhdldhplhffcaaRefWrite
namespace Go.Proofs.Ytmhdldhplhffcaa.Oct
open Go.RowKit Go.Lib
set_option linter.unusedSimpArgs false

theorem cell_other {w : World} {b o b' o' : Nat} (h : b ≠ b') (v : Value) : (w.setCell ⟨b', o', none⟩ v).cell? ⟨b, o, none⟩ = w.cell? ⟨b, o, none⟩ := by
  rw [World.cell?_setCell_other _ _ _ _ (by simp [h])]
set_option maxRecDepth 100000 in
set_option maxHeartbeats 2000000 in
theorem settle_region_f {Q : Exit → Act → World → Prop} {x1 x2 x4 x5 x6 x7 x8 x9 x10 x11 x12 x13 x14 x15 x16 x17 x18 x19 x20 x21 x22 x23 x24 x25 x26 x27 x28 x29 x30 x31 x32 x33 x34 x35 x36 x37 x38 x39 x40 x41 x42 x43 x44 x45 : Value} {ds : List Deferred} {A : World} {r g n c gp m cp t k : Nat} {S : ByteArray} {old : Value}
    (q1 : (t : Int) < (m : Int)) (q2 : (k : Int) < (n : Int)) (hr : r ≠ g) (hgp : gp ≠ g) (HS : Hid (A.cell? ⟨r, 0, none⟩ = some (.slice (some ⟨g, 0, none⟩) n c) ∧ A.cell? ⟨r, 1, none⟩ = some (.slice (some ⟨gp, 0, none⟩) m cp) ∧ A.cell? ⟨gp, t * 2, none⟩ = some (.int .i64 (k : Int)) ∧ A.cell? ⟨gp, t * 2 + 1, none⟩ = some (.string S))) (HC : Hid (A.cell? ⟨g, k, none⟩ = some old ∧ A.frozen? ⟨g, k, none⟩ = false))
    (hQ : Q .normal { tmps := #[.pointer (some ⟨r, 0, none⟩), x1, x2, .int .i64 (t : Int), x4, x5, x6, x7, x8, x9, x10, x11, x12, x13, x14, x15, x16, x17, x18, x19, x20, x21, .pointer (some ⟨r, 0, none⟩), .pointer (some ⟨r, 0, none⟩), .pointer (some ⟨r, 0, none⟩), .slice (some ⟨g, 0, none⟩) n c, .pointer (some ⟨r, 0, none⟩), .pointer (some ⟨r, 0, none⟩), .pointer (some ⟨r, 1, none⟩), .slice (some ⟨gp, 0, none⟩) m cp, .int .i64 (t : Int), .pointer (some ⟨gp, t * 2, none⟩), .pointer (some ⟨gp, t * 2, none⟩), .int .i64 (k : Int), .pointer (some ⟨r, 0, none⟩), .pointer (some ⟨r, 0, none⟩), .pointer (some ⟨r, 1, none⟩), .slice (some ⟨gp, 0, none⟩) m cp, .int .i64 (t : Int), .pointer (some ⟨gp, t * 2, none⟩), .pointer (some ⟨gp, t * 2 + 1, none⟩), .string S, .pointer (some ⟨g, k, none⟩), x43, x44, x45], defers := ds } (A.drew.setCell ⟨g, k, none⟩ (.string S))) :
    (Code.region 6 #[{ dst := some 22, op := Op.move (Operand.tmp 0), type := 27, pos := "ref.go:97", after := #[], guard := none }, { dst := some 23, op := Op.nilCheck (Operand.tmp 22), type := 0, pos := "ref.go:97", after := #[{ on := 0, ground := Ground.data }], guard := none }, { dst := some 24, op := Op.fieldAddr 68 (Operand.tmp 23) 0, type := 0, pos := "ref.go:97", after := #[{ on := 1, ground := Ground.data }], guard := none }, { dst := some 25, op := Op.load 65 (Operand.tmp 24), type := 65, pos := "ref.go:97", after := #[{ on := 2, ground := Ground.data }], guard := none }, { dst := some 26, op := Op.move (Operand.tmp 0), type := 27, pos := "ref.go:97", after := #[], guard := none }, { dst := some 27, op := Op.nilCheck (Operand.tmp 26), type := 0, pos := "ref.go:97", after := #[{ on := 4, ground := Ground.data }], guard := none }, { dst := some 28, op := Op.fieldAddr 68 (Operand.tmp 27) 1, type := 0, pos := "ref.go:97", after := #[{ on := 5, ground := Ground.data }], guard := none }, { dst := some 29, op := Op.load 66 (Operand.tmp 28), type := 66, pos := "ref.go:97", after := #[{ on := 6, ground := Ground.data }], guard := none }, { dst := some 30, op := Op.move (Operand.tmp 3), type := 3, pos := "ref.go:97", after := #[], guard := none }, { dst := some 31, op := Op.indexAddr 66 (Operand.tmp 29) (Operand.tmp 30), type := 0, pos := "ref.go:97", after := #[{ on := 7, ground := Ground.data }, { on := 8, ground := Ground.data }], guard := none }, { dst := some 32, op := Op.fieldAddr 78 (Operand.tmp 31) 0, type := 0, pos := "ref.go:97", after := #[{ on := 9, ground := Ground.data }], guard := none }, { dst := some 33, op := Op.load 3 (Operand.tmp 32), type := 3, pos := "ref.go:97", after := #[{ on := 10, ground := Ground.data }], guard := none }, { dst := some 34, op := Op.move (Operand.tmp 0), type := 27, pos := "ref.go:97", after := #[], guard := none }, { dst := some 35, op := Op.nilCheck (Operand.tmp 34), type := 0, pos := "ref.go:97", after := #[{ on := 12, ground := Ground.data }], guard := none }, { dst := some 36, op := Op.fieldAddr 68 (Operand.tmp 35) 1, type := 0, pos := "ref.go:97", after := #[{ on := 13, ground := Ground.data }], guard := none }, { dst := some 37, op := Op.load 66 (Operand.tmp 36), type := 66, pos := "ref.go:97", after := #[{ on := 14, ground := Ground.data }], guard := none }, { dst := some 38, op := Op.move (Operand.tmp 3), type := 3, pos := "ref.go:97", after := #[], guard := none }, { dst := some 39, op := Op.indexAddr 66 (Operand.tmp 37) (Operand.tmp 38), type := 0, pos := "ref.go:97", after := #[{ on := 15, ground := Ground.data }, { on := 16, ground := Ground.data }], guard := none }, { dst := some 40, op := Op.fieldAddr 78 (Operand.tmp 39) 1, type := 0, pos := "ref.go:97", after := #[{ on := 17, ground := Ground.data }], guard := none }, { dst := some 41, op := Op.load 9 (Operand.tmp 40), type := 9, pos := "ref.go:97", after := #[{ on := 18, ground := Ground.data }], guard := none }, { dst := some 42, op := Op.indexAddr 65 (Operand.tmp 25) (Operand.tmp 33), type := 0, pos := "ref.go:97", after := #[{ on := 3, ground := Ground.data }, { on := 11, ground := Ground.data }, { on := 0, ground := Ground.phase }, { on := 1, ground := Ground.phase }, { on := 2, ground := Ground.phase }, { on := 3, ground := Ground.phase }, { on := 4, ground := Ground.phase }, { on := 5, ground := Ground.phase }, { on := 6, ground := Ground.phase }, { on := 7, ground := Ground.phase }, { on := 8, ground := Ground.phase }, { on := 9, ground := Ground.phase }, { on := 10, ground := Ground.phase }, { on := 11, ground := Ground.phase }, { on := 12, ground := Ground.phase }, { on := 13, ground := Ground.phase }, { on := 14, ground := Ground.phase }, { on := 15, ground := Ground.phase }, { on := 16, ground := Ground.phase }, { on := 17, ground := Ground.phase }, { on := 18, ground := Ground.phase }, { on := 19, ground := Ground.phase }], guard := none }, { dst := none, op := Op.store 9 (Operand.tmp 42) (Operand.tmp 41), type := 0, pos := "ref.go:97", after := #[{ on := 20, ground := Ground.data }, { on := 19, ground := Ground.data }, { on := 0, ground := Ground.phase }, { on := 1, ground := Ground.phase }, { on := 2, ground := Ground.phase }, { on := 3, ground := Ground.phase }, { on := 4, ground := Ground.phase }, { on := 5, ground := Ground.phase }, { on := 6, ground := Ground.phase }, { on := 7, ground := Ground.phase }, { on := 8, ground := Ground.phase }, { on := 9, ground := Ground.phase }, { on := 10, ground := Ground.phase }, { on := 11, ground := Ground.phase }, { on := 12, ground := Ground.phase }, { on := 13, ground := Ground.phase }, { on := 14, ground := Ground.phase }, { on := 15, ground := Ground.phase }, { on := 16, ground := Ground.phase }, { on := 17, ground := Ground.phase }, { on := 18, ground := Ground.phase }, { on := 19, ground := Ground.phase }], guard := none }] true).wp Try.prog Q { tmps := #[.pointer (some ⟨r, 0, none⟩), x1, x2, .int .i64 (t : Int), x4, x5, x6, x7, x8, x9, x10, x11, x12, x13, x14, x15, x16, x17, x18, x19, x20, x21, x22, x23, x24, x25, x26, x27, x28, x29, x30, x31, x32, x33, x34, x35, x36, x37, x38, x39, x40, x41, x42, x43, x44, x45], defers := ds } A := by
  refine Code.wp_mono (Q := fun x a' w' => match x with | .normal => Q .normal a' w' | _ => False) (by intro x a' w' h; cases x <;> first | exact h | exact h.elim) ?_
  refine wp_region_held (S := fun V => V.cell? ⟨r, 0, none⟩ = some (.slice (some ⟨g, 0, none⟩) n c) ∧ V.cell? ⟨r, 1, none⟩ = some (.slice (some ⟨gp, 0, none⟩) m cp) ∧ V.cell? ⟨gp, t * 2, none⟩ = some (.int .i64 (k : Int)) ∧ V.cell? ⟨gp, t * 2 + 1, none⟩ = some (.string S)) (by kernel_rfl) ?_
  have hS0 : Hid (A.drew.cell? ⟨r, 0, none⟩ = some (.slice (some ⟨g, 0, none⟩) n c) ∧ A.drew.cell? ⟨r, 1, none⟩ = some (.slice (some ⟨gp, 0, none⟩) m cp) ∧ A.drew.cell? ⟨gp, t * 2, none⟩ = some (.int .i64 (k : Int)) ∧ A.drew.cell? ⟨gp, t * 2 + 1, none⟩ = some (.string S)) := HS.out
  change wpAnyH Try.prog .any _ _ (fun V => V.cell? ⟨r, 0, none⟩ = some (.slice (some ⟨g, 0, none⟩) n c) ∧ V.cell? ⟨r, 1, none⟩ = some (.slice (some ⟨gp, 0, none⟩) m cp) ∧ V.cell? ⟨gp, t * 2, none⟩ = some (.int .i64 (k : Int)) ∧ V.cell? ⟨gp, t * 2 + 1, none⟩ = some (.string S)) 22 (Array.replicate 22 false) _ A.drew
  refine wpAnyH_take (i := 0) (oi := { dst := some 22, op := Op.move (Operand.tmp 0), type := 27, pos := "ref.go:97", after := #[], guard := none }) (v := .pointer (some ⟨r, 0, none⟩)) rfl (by kernel_rfl) (by kernel_rfl) (by kernel_rfl) (fun _ _ _ h => h.elim) (Or.inl ⟨by rfl, ?y0⟩) hS0.out ?_
  case y0 =>
    intro V hV
    go_simp
  simp only [Act.put, List.setIfInBounds_toArray, List.set_cons_zero, List.set_cons_succ]
  refine wpAnyH_take (i := 1) (oi := { dst := some 23, op := Op.nilCheck (Operand.tmp 22), type := 0, pos := "ref.go:97", after := #[{ on := 0, ground := Ground.data }], guard := none }) (v := .pointer (some ⟨r, 0, none⟩)) rfl (by kernel_rfl) (by kernel_rfl) (by kernel_rfl) (fun _ _ _ h => h.elim) (Or.inl ⟨by rfl, ?y1⟩) hS0.out ?_
  case y1 =>
    intro V hV
    go_simp
  simp only [Act.put, List.setIfInBounds_toArray, List.set_cons_zero, List.set_cons_succ]
  refine wpAnyH_take (i := 2) (oi := { dst := some 24, op := Op.fieldAddr 68 (Operand.tmp 23) 0, type := 0, pos := "ref.go:97", after := #[{ on := 1, ground := Ground.data }], guard := none }) (v := .pointer (some ⟨r, 0, none⟩)) rfl (by kernel_rfl) (by kernel_rfl) (by kernel_rfl) (fun _ _ _ h => h.elim) (Or.inl ⟨by rfl, ?y2⟩) hS0.out ?_
  case y2 =>
    intro V hV
    go_simp
  simp only [Act.put, List.setIfInBounds_toArray, List.set_cons_zero, List.set_cons_succ]
  refine wpAnyH_take (i := 3) (oi := { dst := some 25, op := Op.load 65 (Operand.tmp 24), type := 65, pos := "ref.go:97", after := #[{ on := 2, ground := Ground.data }], guard := none }) (v := .slice (some ⟨g, 0, none⟩) n c) rfl (by kernel_rfl) (by kernel_rfl) (by kernel_rfl) (fun _ _ _ h => h.elim) (Or.inl ⟨by rfl, ?y3⟩) hS0.out ?_
  case y3 =>
    intro V hV
    obtain ⟨s1, s2, s3, s4⟩ := hV
    go_simp
  simp only [Act.put, List.setIfInBounds_toArray, List.set_cons_zero, List.set_cons_succ]
  refine wpAnyH_take (i := 4) (oi := { dst := some 26, op := Op.move (Operand.tmp 0), type := 27, pos := "ref.go:97", after := #[], guard := none }) (v := .pointer (some ⟨r, 0, none⟩)) rfl (by kernel_rfl) (by kernel_rfl) (by kernel_rfl) (fun _ _ _ h => h.elim) (Or.inl ⟨by rfl, ?y4⟩) hS0.out ?_
  case y4 =>
    intro V hV
    go_simp
  simp only [Act.put, List.setIfInBounds_toArray, List.set_cons_zero, List.set_cons_succ]
  refine wpAnyH_take (i := 5) (oi := { dst := some 27, op := Op.nilCheck (Operand.tmp 26), type := 0, pos := "ref.go:97", after := #[{ on := 4, ground := Ground.data }], guard := none }) (v := .pointer (some ⟨r, 0, none⟩)) rfl (by kernel_rfl) (by kernel_rfl) (by kernel_rfl) (fun _ _ _ h => h.elim) (Or.inl ⟨by rfl, ?y5⟩) hS0.out ?_
  case y5 =>
    intro V hV
    go_simp
  simp only [Act.put, List.setIfInBounds_toArray, List.set_cons_zero, List.set_cons_succ]
  refine wpAnyH_take (i := 6) (oi := { dst := some 28, op := Op.fieldAddr 68 (Operand.tmp 27) 1, type := 0, pos := "ref.go:97", after := #[{ on := 5, ground := Ground.data }], guard := none }) (v := .pointer (some ⟨r, 1, none⟩)) rfl (by kernel_rfl) (by kernel_rfl) (by kernel_rfl) (fun _ _ _ h => h.elim) (Or.inl ⟨by rfl, ?y6⟩) hS0.out ?_
  case y6 =>
    intro V hV
    go_simp
  simp only [Act.put, List.setIfInBounds_toArray, List.set_cons_zero, List.set_cons_succ]
  refine wpAnyH_take (i := 7) (oi := { dst := some 29, op := Op.load 66 (Operand.tmp 28), type := 66, pos := "ref.go:97", after := #[{ on := 6, ground := Ground.data }], guard := none }) (v := .slice (some ⟨gp, 0, none⟩) m cp) rfl (by kernel_rfl) (by kernel_rfl) (by kernel_rfl) (fun _ _ _ h => h.elim) (Or.inl ⟨by rfl, ?y7⟩) hS0.out ?_
  case y7 =>
    intro V hV
    obtain ⟨s1, s2, s3, s4⟩ := hV
    go_simp
  simp only [Act.put, List.setIfInBounds_toArray, List.set_cons_zero, List.set_cons_succ]
  refine wpAnyH_take (i := 8) (oi := { dst := some 30, op := Op.move (Operand.tmp 3), type := 3, pos := "ref.go:97", after := #[], guard := none }) (v := .int .i64 (t : Int)) rfl (by kernel_rfl) (by kernel_rfl) (by kernel_rfl) (fun _ _ _ h => h.elim) (Or.inl ⟨by rfl, ?y8⟩) hS0.out ?_
  case y8 =>
    intro V hV
    go_simp
  simp only [Act.put, List.setIfInBounds_toArray, List.set_cons_zero, List.set_cons_succ]
  refine wpAnyH_take (i := 9) (oi := { dst := some 31, op := Op.indexAddr 66 (Operand.tmp 29) (Operand.tmp 30), type := 0, pos := "ref.go:97", after := #[{ on := 7, ground := Ground.data }, { on := 8, ground := Ground.data }], guard := none }) (v := .pointer (some ⟨gp, t * 2, none⟩)) rfl (by kernel_rfl) (by kernel_rfl) (by kernel_rfl) (fun _ _ _ h => h.elim) (Or.inl ⟨by rfl, ?y9⟩) hS0.out ?_
  case y9 =>
    intro V hV
    go_simp
  simp only [Act.put, List.setIfInBounds_toArray, List.set_cons_zero, List.set_cons_succ]
  refine wpAnyH_take (i := 10) (oi := { dst := some 32, op := Op.fieldAddr 78 (Operand.tmp 31) 0, type := 0, pos := "ref.go:97", after := #[{ on := 9, ground := Ground.data }], guard := none }) (v := .pointer (some ⟨gp, t * 2, none⟩)) rfl (by kernel_rfl) (by kernel_rfl) (by kernel_rfl) (fun _ _ _ h => h.elim) (Or.inl ⟨by rfl, ?y10⟩) hS0.out ?_
  case y10 =>
    intro V hV
    go_simp
  simp only [Act.put, List.setIfInBounds_toArray, List.set_cons_zero, List.set_cons_succ]
  refine wpAnyH_take (i := 11) (oi := { dst := some 33, op := Op.load 3 (Operand.tmp 32), type := 3, pos := "ref.go:97", after := #[{ on := 10, ground := Ground.data }], guard := none }) (v := .int .i64 (k : Int)) rfl (by kernel_rfl) (by kernel_rfl) (by kernel_rfl) (fun _ _ _ h => h.elim) (Or.inl ⟨by rfl, ?y11⟩) hS0.out ?_
  case y11 =>
    intro V hV
    obtain ⟨s1, s2, s3, s4⟩ := hV
    go_simp
  simp only [Act.put, List.setIfInBounds_toArray, List.set_cons_zero, List.set_cons_succ]
  refine wpAnyH_take (i := 12) (oi := { dst := some 34, op := Op.move (Operand.tmp 0), type := 27, pos := "ref.go:97", after := #[], guard := none }) (v := .pointer (some ⟨r, 0, none⟩)) rfl (by kernel_rfl) (by kernel_rfl) (by kernel_rfl) (fun _ _ _ h => h.elim) (Or.inl ⟨by rfl, ?y12⟩) hS0.out ?_
  case y12 =>
    intro V hV
    go_simp
  simp only [Act.put, List.setIfInBounds_toArray, List.set_cons_zero, List.set_cons_succ]
  refine wpAnyH_take (i := 13) (oi := { dst := some 35, op := Op.nilCheck (Operand.tmp 34), type := 0, pos := "ref.go:97", after := #[{ on := 12, ground := Ground.data }], guard := none }) (v := .pointer (some ⟨r, 0, none⟩)) rfl (by kernel_rfl) (by kernel_rfl) (by kernel_rfl) (fun _ _ _ h => h.elim) (Or.inl ⟨by rfl, ?y13⟩) hS0.out ?_
  case y13 =>
    intro V hV
    go_simp
  simp only [Act.put, List.setIfInBounds_toArray, List.set_cons_zero, List.set_cons_succ]
  refine wpAnyH_take (i := 14) (oi := { dst := some 36, op := Op.fieldAddr 68 (Operand.tmp 35) 1, type := 0, pos := "ref.go:97", after := #[{ on := 13, ground := Ground.data }], guard := none }) (v := .pointer (some ⟨r, 1, none⟩)) rfl (by kernel_rfl) (by kernel_rfl) (by kernel_rfl) (fun _ _ _ h => h.elim) (Or.inl ⟨by rfl, ?y14⟩) hS0.out ?_
  case y14 =>
    intro V hV
    go_simp
  simp only [Act.put, List.setIfInBounds_toArray, List.set_cons_zero, List.set_cons_succ]
  refine wpAnyH_take (i := 15) (oi := { dst := some 37, op := Op.load 66 (Operand.tmp 36), type := 66, pos := "ref.go:97", after := #[{ on := 14, ground := Ground.data }], guard := none }) (v := .slice (some ⟨gp, 0, none⟩) m cp) rfl (by kernel_rfl) (by kernel_rfl) (by kernel_rfl) (fun _ _ _ h => h.elim) (Or.inl ⟨by rfl, ?y15⟩) hS0.out ?_
  case y15 =>
    intro V hV
    obtain ⟨s1, s2, s3, s4⟩ := hV
    go_simp
  simp only [Act.put, List.setIfInBounds_toArray, List.set_cons_zero, List.set_cons_succ]
  refine wpAnyH_take (i := 16) (oi := { dst := some 38, op := Op.move (Operand.tmp 3), type := 3, pos := "ref.go:97", after := #[], guard := none }) (v := .int .i64 (t : Int)) rfl (by kernel_rfl) (by kernel_rfl) (by kernel_rfl) (fun _ _ _ h => h.elim) (Or.inl ⟨by rfl, ?y16⟩) hS0.out ?_
  case y16 =>
    intro V hV
    go_simp
  simp only [Act.put, List.setIfInBounds_toArray, List.set_cons_zero, List.set_cons_succ]
  refine wpAnyH_take (i := 17) (oi := { dst := some 39, op := Op.indexAddr 66 (Operand.tmp 37) (Operand.tmp 38), type := 0, pos := "ref.go:97", after := #[{ on := 15, ground := Ground.data }, { on := 16, ground := Ground.data }], guard := none }) (v := .pointer (some ⟨gp, t * 2, none⟩)) rfl (by kernel_rfl) (by kernel_rfl) (by kernel_rfl) (fun _ _ _ h => h.elim) (Or.inl ⟨by rfl, ?y17⟩) hS0.out ?_
  case y17 =>
    intro V hV
    go_simp
  simp only [Act.put, List.setIfInBounds_toArray, List.set_cons_zero, List.set_cons_succ]
  refine wpAnyH_take (i := 18) (oi := { dst := some 40, op := Op.fieldAddr 78 (Operand.tmp 39) 1, type := 0, pos := "ref.go:97", after := #[{ on := 17, ground := Ground.data }], guard := none }) (v := .pointer (some ⟨gp, t * 2 + 1, none⟩)) rfl (by kernel_rfl) (by kernel_rfl) (by kernel_rfl) (fun _ _ _ h => h.elim) (Or.inl ⟨by rfl, ?y18⟩) hS0.out ?_
  case y18 =>
    intro V hV
    go_simp
  simp only [Act.put, List.setIfInBounds_toArray, List.set_cons_zero, List.set_cons_succ]
  refine wpAnyH_take (i := 19) (oi := { dst := some 41, op := Op.load 9 (Operand.tmp 40), type := 9, pos := "ref.go:97", after := #[{ on := 18, ground := Ground.data }], guard := none }) (v := .string S) rfl (by kernel_rfl) (by kernel_rfl) (by kernel_rfl) (fun _ _ _ h => h.elim) (Or.inl ⟨by rfl, ?y19⟩) hS0.out ?_
  case y19 =>
    intro V hV
    obtain ⟨s1, s2, s3, s4⟩ := hV
    go_simp
  simp only [Act.put, List.setIfInBounds_toArray, List.set_cons_zero, List.set_cons_succ]
  refine wpAnyH_take (i := 20) (oi := { dst := some 42, op := Op.indexAddr 65 (Operand.tmp 25) (Operand.tmp 33), type := 0, pos := "ref.go:97", after := #[{ on := 3, ground := Ground.data }, { on := 11, ground := Ground.data }, { on := 0, ground := Ground.phase }, { on := 1, ground := Ground.phase }, { on := 2, ground := Ground.phase }, { on := 3, ground := Ground.phase }, { on := 4, ground := Ground.phase }, { on := 5, ground := Ground.phase }, { on := 6, ground := Ground.phase }, { on := 7, ground := Ground.phase }, { on := 8, ground := Ground.phase }, { on := 9, ground := Ground.phase }, { on := 10, ground := Ground.phase }, { on := 11, ground := Ground.phase }, { on := 12, ground := Ground.phase }, { on := 13, ground := Ground.phase }, { on := 14, ground := Ground.phase }, { on := 15, ground := Ground.phase }, { on := 16, ground := Ground.phase }, { on := 17, ground := Ground.phase }, { on := 18, ground := Ground.phase }, { on := 19, ground := Ground.phase }], guard := none }) (v := .pointer (some ⟨g, k, none⟩)) rfl (by kernel_rfl) (by kernel_rfl) (by kernel_rfl) (fun _ _ _ h => h.elim) (Or.inl ⟨by rfl, ?y20⟩) hS0.out ?_
  case y20 =>
    intro V hV
    go_simp
  simp only [Act.put, List.setIfInBounds_toArray, List.set_cons_zero, List.set_cons_succ]
  refine wpAnyH_ready (rs := [21]) (by kernel_rfl) (by simp) (AllReadyH.cons (i := 21) (o := { dst := none, op := Op.store 9 (Operand.tmp 42) (Operand.tmp 41), type := 0, pos := "ref.go:97", after := #[{ on := 20, ground := Ground.data }, { on := 19, ground := Ground.data }, { on := 0, ground := Ground.phase }, { on := 1, ground := Ground.phase }, { on := 2, ground := Ground.phase }, { on := 3, ground := Ground.phase }, { on := 4, ground := Ground.phase }, { on := 5, ground := Ground.phase }, { on := 6, ground := Ground.phase }, { on := 7, ground := Ground.phase }, { on := 8, ground := Ground.phase }, { on := 9, ground := Ground.phase }, { on := 10, ground := Ground.phase }, { on := 11, ground := Ground.phase }, { on := 12, ground := Ground.phase }, { on := 13, ground := Ground.phase }, { on := 14, ground := Ground.phase }, { on := 15, ground := Ground.phase }, { on := 16, ground := Ground.phase }, { on := 17, ground := Ground.phase }, { on := 18, ground := Ground.phase }, { on := 19, ground := Ground.phase }], guard := none }) rfl ?_ AllReadyH.nil)
  intro K1 hK1
  rw [if_pos (by rfl)]
  have hc1 : A.drew.cell? ⟨g, k, none⟩ = some old := HC.out.1
  have hf1 : A.drew.frozen? ⟨g, k, none⟩ = false := HC.out.2
  go_wp2_with fail
  have hS1 : Hid ((A.drew.setCell ⟨g, k, none⟩ (.string S)).cell? ⟨r, 0, none⟩ = some (.slice (some ⟨g, 0, none⟩) n c) ∧ (A.drew.setCell ⟨g, k, none⟩ (.string S)).cell? ⟨r, 1, none⟩ = some (.slice (some ⟨gp, 0, none⟩) m cp) ∧ (A.drew.setCell ⟨g, k, none⟩ (.string S)).cell? ⟨gp, t * 2, none⟩ = some (.int .i64 (k : Int)) ∧ (A.drew.setCell ⟨g, k, none⟩ (.string S)).cell? ⟨gp, t * 2 + 1, none⟩ = some (.string S)) := ⟨by rw [cell_other hr]; exact hS0.out.1, by rw [cell_other hr]; exact hS0.out.2.1, by rw [cell_other hgp]; exact hS0.out.2.2.1, by rw [cell_other hgp]; exact hS0.out.2.2.2⟩
  refine hK1.out _ _ hS1.out ?_
  clear hK1
  intro _
  try simp only [Act.put, List.setIfInBounds_toArray, List.set_cons_zero, List.set_cons_succ]
  refine wpAnyH_done (by kernel_rfl) ?_ _
  exact hQ
#print axioms settle_region_f
set_option maxRecDepth 100000 in
set_option maxHeartbeats 2000000 in
theorem settle_region_r {Q : Exit → Act → World → Prop} {x1 x2 x3 x4 x5 x7 x8 x9 x10 x11 x12 x13 x14 x15 x16 x17 x18 x19 x20 x21 x22 x23 x24 x25 x26 x27 x28 x29 x30 x31 x32 x33 x34 x35 x36 x37 x38 x39 x40 x41 x42 x43 x44 x45 x46 x47 x48 x49 x50 x51 x52 x53 x54 x55 x56 x57 x58 x59 x60 x61 x62 x63 x64 x65 x66 x67 x68 x69 x70 x71 x72 x73 x74 : Value} {ds : List Deferred} {A : World} {r g n c gp m cp t k : Nat} {S : ByteArray} {old : Value}
    (q1 : (t : Int) < (m : Int)) (q2 : (k : Int) < (n : Int)) (hr : r ≠ g) (hgp : gp ≠ g) (HS : Hid (A.cell? ⟨r, 0, none⟩ = some (.slice (some ⟨g, 0, none⟩) n c) ∧ A.cell? ⟨r, 1, none⟩ = some (.slice (some ⟨gp, 0, none⟩) m cp) ∧ A.cell? ⟨gp, t * 2, none⟩ = some (.int .i64 (k : Int)) ∧ A.cell? ⟨gp, t * 2 + 1, none⟩ = some (.string S))) (HC : Hid (A.cell? ⟨g, k, none⟩ = some old ∧ A.frozen? ⟨g, k, none⟩ = false))
    (hQ : Q .normal { tmps := #[.pointer (some ⟨r, 0, none⟩), x1, x2, x3, x4, x5, .int .i64 (t : Int), x7, x8, x9, x10, x11, x12, x13, x14, x15, x16, x17, x18, x19, x20, x21, x22, x23, x24, x25, x26, x27, x28, x29, x30, x31, x32, x33, x34, x35, x36, x37, x38, x39, x40, x41, .pointer (some ⟨r, 0, none⟩), .pointer (some ⟨r, 0, none⟩), .pointer (some ⟨r, 0, none⟩), .slice (some ⟨g, 0, none⟩) n c, .pointer (some ⟨r, 0, none⟩), .pointer (some ⟨r, 0, none⟩), .pointer (some ⟨r, 1, none⟩), .slice (some ⟨gp, 0, none⟩) m cp, .int .i64 (t : Int), .pointer (some ⟨gp, t * 2, none⟩), .pointer (some ⟨gp, t * 2, none⟩), .int .i64 (k : Int), .pointer (some ⟨r, 0, none⟩), .pointer (some ⟨r, 0, none⟩), .pointer (some ⟨r, 1, none⟩), .slice (some ⟨gp, 0, none⟩) m cp, .int .i64 (t : Int), .pointer (some ⟨gp, t * 2, none⟩), .pointer (some ⟨gp, t * 2 + 1, none⟩), .string S, .pointer (some ⟨g, k, none⟩), x63, x64, x65, x66, x67, x68, x69, x70, x71, x72, x73, x74], defers := ds } (A.drew.setCell ⟨g, k, none⟩ (.string S))) :
    (Code.region 10 #[{ dst := some 42, op := Op.move (Operand.tmp 0), type := 27, pos := "ref.go:134", after := #[], guard := none }, { dst := some 43, op := Op.nilCheck (Operand.tmp 42), type := 0, pos := "ref.go:134", after := #[{ on := 0, ground := Ground.data }], guard := none }, { dst := some 44, op := Op.fieldAddr 68 (Operand.tmp 43) 0, type := 0, pos := "ref.go:134", after := #[{ on := 1, ground := Ground.data }], guard := none }, { dst := some 45, op := Op.load 65 (Operand.tmp 44), type := 65, pos := "ref.go:134", after := #[{ on := 2, ground := Ground.data }], guard := none }, { dst := some 46, op := Op.move (Operand.tmp 0), type := 27, pos := "ref.go:134", after := #[], guard := none }, { dst := some 47, op := Op.nilCheck (Operand.tmp 46), type := 0, pos := "ref.go:134", after := #[{ on := 4, ground := Ground.data }], guard := none }, { dst := some 48, op := Op.fieldAddr 68 (Operand.tmp 47) 1, type := 0, pos := "ref.go:134", after := #[{ on := 5, ground := Ground.data }], guard := none }, { dst := some 49, op := Op.load 66 (Operand.tmp 48), type := 66, pos := "ref.go:134", after := #[{ on := 6, ground := Ground.data }], guard := none }, { dst := some 50, op := Op.move (Operand.tmp 6), type := 3, pos := "ref.go:134", after := #[], guard := none }, { dst := some 51, op := Op.indexAddr 66 (Operand.tmp 49) (Operand.tmp 50), type := 0, pos := "ref.go:134", after := #[{ on := 7, ground := Ground.data }, { on := 8, ground := Ground.data }], guard := none }, { dst := some 52, op := Op.fieldAddr 78 (Operand.tmp 51) 0, type := 0, pos := "ref.go:134", after := #[{ on := 9, ground := Ground.data }], guard := none }, { dst := some 53, op := Op.load 3 (Operand.tmp 52), type := 3, pos := "ref.go:134", after := #[{ on := 10, ground := Ground.data }], guard := none }, { dst := some 54, op := Op.move (Operand.tmp 0), type := 27, pos := "ref.go:134", after := #[], guard := none }, { dst := some 55, op := Op.nilCheck (Operand.tmp 54), type := 0, pos := "ref.go:134", after := #[{ on := 12, ground := Ground.data }], guard := none }, { dst := some 56, op := Op.fieldAddr 68 (Operand.tmp 55) 1, type := 0, pos := "ref.go:134", after := #[{ on := 13, ground := Ground.data }], guard := none }, { dst := some 57, op := Op.load 66 (Operand.tmp 56), type := 66, pos := "ref.go:134", after := #[{ on := 14, ground := Ground.data }], guard := none }, { dst := some 58, op := Op.move (Operand.tmp 6), type := 3, pos := "ref.go:134", after := #[], guard := none }, { dst := some 59, op := Op.indexAddr 66 (Operand.tmp 57) (Operand.tmp 58), type := 0, pos := "ref.go:134", after := #[{ on := 15, ground := Ground.data }, { on := 16, ground := Ground.data }], guard := none }, { dst := some 60, op := Op.fieldAddr 78 (Operand.tmp 59) 1, type := 0, pos := "ref.go:134", after := #[{ on := 17, ground := Ground.data }], guard := none }, { dst := some 61, op := Op.load 9 (Operand.tmp 60), type := 9, pos := "ref.go:134", after := #[{ on := 18, ground := Ground.data }], guard := none }, { dst := some 62, op := Op.indexAddr 65 (Operand.tmp 45) (Operand.tmp 53), type := 0, pos := "ref.go:134", after := #[{ on := 3, ground := Ground.data }, { on := 11, ground := Ground.data }, { on := 0, ground := Ground.phase }, { on := 1, ground := Ground.phase }, { on := 2, ground := Ground.phase }, { on := 3, ground := Ground.phase }, { on := 4, ground := Ground.phase }, { on := 5, ground := Ground.phase }, { on := 6, ground := Ground.phase }, { on := 7, ground := Ground.phase }, { on := 8, ground := Ground.phase }, { on := 9, ground := Ground.phase }, { on := 10, ground := Ground.phase }, { on := 11, ground := Ground.phase }, { on := 12, ground := Ground.phase }, { on := 13, ground := Ground.phase }, { on := 14, ground := Ground.phase }, { on := 15, ground := Ground.phase }, { on := 16, ground := Ground.phase }, { on := 17, ground := Ground.phase }, { on := 18, ground := Ground.phase }, { on := 19, ground := Ground.phase }], guard := none }, { dst := none, op := Op.store 9 (Operand.tmp 62) (Operand.tmp 61), type := 0, pos := "ref.go:134", after := #[{ on := 20, ground := Ground.data }, { on := 19, ground := Ground.data }, { on := 0, ground := Ground.phase }, { on := 1, ground := Ground.phase }, { on := 2, ground := Ground.phase }, { on := 3, ground := Ground.phase }, { on := 4, ground := Ground.phase }, { on := 5, ground := Ground.phase }, { on := 6, ground := Ground.phase }, { on := 7, ground := Ground.phase }, { on := 8, ground := Ground.phase }, { on := 9, ground := Ground.phase }, { on := 10, ground := Ground.phase }, { on := 11, ground := Ground.phase }, { on := 12, ground := Ground.phase }, { on := 13, ground := Ground.phase }, { on := 14, ground := Ground.phase }, { on := 15, ground := Ground.phase }, { on := 16, ground := Ground.phase }, { on := 17, ground := Ground.phase }, { on := 18, ground := Ground.phase }, { on := 19, ground := Ground.phase }], guard := none }] true).wp Try.prog Q { tmps := #[.pointer (some ⟨r, 0, none⟩), x1, x2, x3, x4, x5, .int .i64 (t : Int), x7, x8, x9, x10, x11, x12, x13, x14, x15, x16, x17, x18, x19, x20, x21, x22, x23, x24, x25, x26, x27, x28, x29, x30, x31, x32, x33, x34, x35, x36, x37, x38, x39, x40, x41, x42, x43, x44, x45, x46, x47, x48, x49, x50, x51, x52, x53, x54, x55, x56, x57, x58, x59, x60, x61, x62, x63, x64, x65, x66, x67, x68, x69, x70, x71, x72, x73, x74], defers := ds } A := by
  refine Code.wp_mono (Q := fun x a' w' => match x with | .normal => Q .normal a' w' | _ => False) (by intro x a' w' h; cases x <;> first | exact h | exact h.elim) ?_
  refine wp_region_held (S := fun V => V.cell? ⟨r, 0, none⟩ = some (.slice (some ⟨g, 0, none⟩) n c) ∧ V.cell? ⟨r, 1, none⟩ = some (.slice (some ⟨gp, 0, none⟩) m cp) ∧ V.cell? ⟨gp, t * 2, none⟩ = some (.int .i64 (k : Int)) ∧ V.cell? ⟨gp, t * 2 + 1, none⟩ = some (.string S)) (by kernel_rfl) ?_
  have hS0 : Hid (A.drew.cell? ⟨r, 0, none⟩ = some (.slice (some ⟨g, 0, none⟩) n c) ∧ A.drew.cell? ⟨r, 1, none⟩ = some (.slice (some ⟨gp, 0, none⟩) m cp) ∧ A.drew.cell? ⟨gp, t * 2, none⟩ = some (.int .i64 (k : Int)) ∧ A.drew.cell? ⟨gp, t * 2 + 1, none⟩ = some (.string S)) := HS.out
  change wpAnyH Try.prog .any _ _ (fun V => V.cell? ⟨r, 0, none⟩ = some (.slice (some ⟨g, 0, none⟩) n c) ∧ V.cell? ⟨r, 1, none⟩ = some (.slice (some ⟨gp, 0, none⟩) m cp) ∧ V.cell? ⟨gp, t * 2, none⟩ = some (.int .i64 (k : Int)) ∧ V.cell? ⟨gp, t * 2 + 1, none⟩ = some (.string S)) 22 (Array.replicate 22 false) _ A.drew
  refine wpAnyH_take (i := 0) (oi := { dst := some 42, op := Op.move (Operand.tmp 0), type := 27, pos := "ref.go:134", after := #[], guard := none }) (v := .pointer (some ⟨r, 0, none⟩)) rfl (by kernel_rfl) (by kernel_rfl) (by kernel_rfl) (fun _ _ _ h => h.elim) (Or.inl ⟨by rfl, ?y0⟩) hS0.out ?_
  case y0 =>
    intro V hV
    go_simp
  simp only [Act.put, List.setIfInBounds_toArray, List.set_cons_zero, List.set_cons_succ]
  refine wpAnyH_take (i := 1) (oi := { dst := some 43, op := Op.nilCheck (Operand.tmp 42), type := 0, pos := "ref.go:134", after := #[{ on := 0, ground := Ground.data }], guard := none }) (v := .pointer (some ⟨r, 0, none⟩)) rfl (by kernel_rfl) (by kernel_rfl) (by kernel_rfl) (fun _ _ _ h => h.elim) (Or.inl ⟨by rfl, ?y1⟩) hS0.out ?_
  case y1 =>
    intro V hV
    go_simp
  simp only [Act.put, List.setIfInBounds_toArray, List.set_cons_zero, List.set_cons_succ]
  refine wpAnyH_take (i := 2) (oi := { dst := some 44, op := Op.fieldAddr 68 (Operand.tmp 43) 0, type := 0, pos := "ref.go:134", after := #[{ on := 1, ground := Ground.data }], guard := none }) (v := .pointer (some ⟨r, 0, none⟩)) rfl (by kernel_rfl) (by kernel_rfl) (by kernel_rfl) (fun _ _ _ h => h.elim) (Or.inl ⟨by rfl, ?y2⟩) hS0.out ?_
  case y2 =>
    intro V hV
    go_simp
  simp only [Act.put, List.setIfInBounds_toArray, List.set_cons_zero, List.set_cons_succ]
  refine wpAnyH_take (i := 3) (oi := { dst := some 45, op := Op.load 65 (Operand.tmp 44), type := 65, pos := "ref.go:134", after := #[{ on := 2, ground := Ground.data }], guard := none }) (v := .slice (some ⟨g, 0, none⟩) n c) rfl (by kernel_rfl) (by kernel_rfl) (by kernel_rfl) (fun _ _ _ h => h.elim) (Or.inl ⟨by rfl, ?y3⟩) hS0.out ?_
  case y3 =>
    intro V hV
    obtain ⟨s1, s2, s3, s4⟩ := hV
    go_simp
  simp only [Act.put, List.setIfInBounds_toArray, List.set_cons_zero, List.set_cons_succ]
  refine wpAnyH_take (i := 4) (oi := { dst := some 46, op := Op.move (Operand.tmp 0), type := 27, pos := "ref.go:134", after := #[], guard := none }) (v := .pointer (some ⟨r, 0, none⟩)) rfl (by kernel_rfl) (by kernel_rfl) (by kernel_rfl) (fun _ _ _ h => h.elim) (Or.inl ⟨by rfl, ?y4⟩) hS0.out ?_
  case y4 =>
    intro V hV
    go_simp
  simp only [Act.put, List.setIfInBounds_toArray, List.set_cons_zero, List.set_cons_succ]
  refine wpAnyH_take (i := 5) (oi := { dst := some 47, op := Op.nilCheck (Operand.tmp 46), type := 0, pos := "ref.go:134", after := #[{ on := 4, ground := Ground.data }], guard := none }) (v := .pointer (some ⟨r, 0, none⟩)) rfl (by kernel_rfl) (by kernel_rfl) (by kernel_rfl) (fun _ _ _ h => h.elim) (Or.inl ⟨by rfl, ?y5⟩) hS0.out ?_
  case y5 =>
    intro V hV
    go_simp
  simp only [Act.put, List.setIfInBounds_toArray, List.set_cons_zero, List.set_cons_succ]
  refine wpAnyH_take (i := 6) (oi := { dst := some 48, op := Op.fieldAddr 68 (Operand.tmp 47) 1, type := 0, pos := "ref.go:134", after := #[{ on := 5, ground := Ground.data }], guard := none }) (v := .pointer (some ⟨r, 1, none⟩)) rfl (by kernel_rfl) (by kernel_rfl) (by kernel_rfl) (fun _ _ _ h => h.elim) (Or.inl ⟨by rfl, ?y6⟩) hS0.out ?_
  case y6 =>
    intro V hV
    go_simp
  simp only [Act.put, List.setIfInBounds_toArray, List.set_cons_zero, List.set_cons_succ]
  refine wpAnyH_take (i := 7) (oi := { dst := some 49, op := Op.load 66 (Operand.tmp 48), type := 66, pos := "ref.go:134", after := #[{ on := 6, ground := Ground.data }], guard := none }) (v := .slice (some ⟨gp, 0, none⟩) m cp) rfl (by kernel_rfl) (by kernel_rfl) (by kernel_rfl) (fun _ _ _ h => h.elim) (Or.inl ⟨by rfl, ?y7⟩) hS0.out ?_
  case y7 =>
    intro V hV
    obtain ⟨s1, s2, s3, s4⟩ := hV
    go_simp
  simp only [Act.put, List.setIfInBounds_toArray, List.set_cons_zero, List.set_cons_succ]
  refine wpAnyH_take (i := 8) (oi := { dst := some 50, op := Op.move (Operand.tmp 6), type := 3, pos := "ref.go:134", after := #[], guard := none }) (v := .int .i64 (t : Int)) rfl (by kernel_rfl) (by kernel_rfl) (by kernel_rfl) (fun _ _ _ h => h.elim) (Or.inl ⟨by rfl, ?y8⟩) hS0.out ?_
  case y8 =>
    intro V hV
    go_simp
  simp only [Act.put, List.setIfInBounds_toArray, List.set_cons_zero, List.set_cons_succ]
  refine wpAnyH_take (i := 9) (oi := { dst := some 51, op := Op.indexAddr 66 (Operand.tmp 49) (Operand.tmp 50), type := 0, pos := "ref.go:134", after := #[{ on := 7, ground := Ground.data }, { on := 8, ground := Ground.data }], guard := none }) (v := .pointer (some ⟨gp, t * 2, none⟩)) rfl (by kernel_rfl) (by kernel_rfl) (by kernel_rfl) (fun _ _ _ h => h.elim) (Or.inl ⟨by rfl, ?y9⟩) hS0.out ?_
  case y9 =>
    intro V hV
    go_simp
  simp only [Act.put, List.setIfInBounds_toArray, List.set_cons_zero, List.set_cons_succ]
  refine wpAnyH_take (i := 10) (oi := { dst := some 52, op := Op.fieldAddr 78 (Operand.tmp 51) 0, type := 0, pos := "ref.go:134", after := #[{ on := 9, ground := Ground.data }], guard := none }) (v := .pointer (some ⟨gp, t * 2, none⟩)) rfl (by kernel_rfl) (by kernel_rfl) (by kernel_rfl) (fun _ _ _ h => h.elim) (Or.inl ⟨by rfl, ?y10⟩) hS0.out ?_
  case y10 =>
    intro V hV
    go_simp
  simp only [Act.put, List.setIfInBounds_toArray, List.set_cons_zero, List.set_cons_succ]
  refine wpAnyH_take (i := 11) (oi := { dst := some 53, op := Op.load 3 (Operand.tmp 52), type := 3, pos := "ref.go:134", after := #[{ on := 10, ground := Ground.data }], guard := none }) (v := .int .i64 (k : Int)) rfl (by kernel_rfl) (by kernel_rfl) (by kernel_rfl) (fun _ _ _ h => h.elim) (Or.inl ⟨by rfl, ?y11⟩) hS0.out ?_
  case y11 =>
    intro V hV
    obtain ⟨s1, s2, s3, s4⟩ := hV
    go_simp
  simp only [Act.put, List.setIfInBounds_toArray, List.set_cons_zero, List.set_cons_succ]
  refine wpAnyH_take (i := 12) (oi := { dst := some 54, op := Op.move (Operand.tmp 0), type := 27, pos := "ref.go:134", after := #[], guard := none }) (v := .pointer (some ⟨r, 0, none⟩)) rfl (by kernel_rfl) (by kernel_rfl) (by kernel_rfl) (fun _ _ _ h => h.elim) (Or.inl ⟨by rfl, ?y12⟩) hS0.out ?_
  case y12 =>
    intro V hV
    go_simp
  simp only [Act.put, List.setIfInBounds_toArray, List.set_cons_zero, List.set_cons_succ]
  refine wpAnyH_take (i := 13) (oi := { dst := some 55, op := Op.nilCheck (Operand.tmp 54), type := 0, pos := "ref.go:134", after := #[{ on := 12, ground := Ground.data }], guard := none }) (v := .pointer (some ⟨r, 0, none⟩)) rfl (by kernel_rfl) (by kernel_rfl) (by kernel_rfl) (fun _ _ _ h => h.elim) (Or.inl ⟨by rfl, ?y13⟩) hS0.out ?_
  case y13 =>
    intro V hV
    go_simp
  simp only [Act.put, List.setIfInBounds_toArray, List.set_cons_zero, List.set_cons_succ]
  refine wpAnyH_take (i := 14) (oi := { dst := some 56, op := Op.fieldAddr 68 (Operand.tmp 55) 1, type := 0, pos := "ref.go:134", after := #[{ on := 13, ground := Ground.data }], guard := none }) (v := .pointer (some ⟨r, 1, none⟩)) rfl (by kernel_rfl) (by kernel_rfl) (by kernel_rfl) (fun _ _ _ h => h.elim) (Or.inl ⟨by rfl, ?y14⟩) hS0.out ?_
  case y14 =>
    intro V hV
    go_simp
  simp only [Act.put, List.setIfInBounds_toArray, List.set_cons_zero, List.set_cons_succ]
  refine wpAnyH_take (i := 15) (oi := { dst := some 57, op := Op.load 66 (Operand.tmp 56), type := 66, pos := "ref.go:134", after := #[{ on := 14, ground := Ground.data }], guard := none }) (v := .slice (some ⟨gp, 0, none⟩) m cp) rfl (by kernel_rfl) (by kernel_rfl) (by kernel_rfl) (fun _ _ _ h => h.elim) (Or.inl ⟨by rfl, ?y15⟩) hS0.out ?_
  case y15 =>
    intro V hV
    obtain ⟨s1, s2, s3, s4⟩ := hV
    go_simp
  simp only [Act.put, List.setIfInBounds_toArray, List.set_cons_zero, List.set_cons_succ]
  refine wpAnyH_take (i := 16) (oi := { dst := some 58, op := Op.move (Operand.tmp 6), type := 3, pos := "ref.go:134", after := #[], guard := none }) (v := .int .i64 (t : Int)) rfl (by kernel_rfl) (by kernel_rfl) (by kernel_rfl) (fun _ _ _ h => h.elim) (Or.inl ⟨by rfl, ?y16⟩) hS0.out ?_
  case y16 =>
    intro V hV
    go_simp
  simp only [Act.put, List.setIfInBounds_toArray, List.set_cons_zero, List.set_cons_succ]
  refine wpAnyH_take (i := 17) (oi := { dst := some 59, op := Op.indexAddr 66 (Operand.tmp 57) (Operand.tmp 58), type := 0, pos := "ref.go:134", after := #[{ on := 15, ground := Ground.data }, { on := 16, ground := Ground.data }], guard := none }) (v := .pointer (some ⟨gp, t * 2, none⟩)) rfl (by kernel_rfl) (by kernel_rfl) (by kernel_rfl) (fun _ _ _ h => h.elim) (Or.inl ⟨by rfl, ?y17⟩) hS0.out ?_
  case y17 =>
    intro V hV
    go_simp
  simp only [Act.put, List.setIfInBounds_toArray, List.set_cons_zero, List.set_cons_succ]
  refine wpAnyH_take (i := 18) (oi := { dst := some 60, op := Op.fieldAddr 78 (Operand.tmp 59) 1, type := 0, pos := "ref.go:134", after := #[{ on := 17, ground := Ground.data }], guard := none }) (v := .pointer (some ⟨gp, t * 2 + 1, none⟩)) rfl (by kernel_rfl) (by kernel_rfl) (by kernel_rfl) (fun _ _ _ h => h.elim) (Or.inl ⟨by rfl, ?y18⟩) hS0.out ?_
  case y18 =>
    intro V hV
    go_simp
  simp only [Act.put, List.setIfInBounds_toArray, List.set_cons_zero, List.set_cons_succ]
  refine wpAnyH_take (i := 19) (oi := { dst := some 61, op := Op.load 9 (Operand.tmp 60), type := 9, pos := "ref.go:134", after := #[{ on := 18, ground := Ground.data }], guard := none }) (v := .string S) rfl (by kernel_rfl) (by kernel_rfl) (by kernel_rfl) (fun _ _ _ h => h.elim) (Or.inl ⟨by rfl, ?y19⟩) hS0.out ?_
  case y19 =>
    intro V hV
    obtain ⟨s1, s2, s3, s4⟩ := hV
    go_simp
  simp only [Act.put, List.setIfInBounds_toArray, List.set_cons_zero, List.set_cons_succ]
  refine wpAnyH_take (i := 20) (oi := { dst := some 62, op := Op.indexAddr 65 (Operand.tmp 45) (Operand.tmp 53), type := 0, pos := "ref.go:134", after := #[{ on := 3, ground := Ground.data }, { on := 11, ground := Ground.data }, { on := 0, ground := Ground.phase }, { on := 1, ground := Ground.phase }, { on := 2, ground := Ground.phase }, { on := 3, ground := Ground.phase }, { on := 4, ground := Ground.phase }, { on := 5, ground := Ground.phase }, { on := 6, ground := Ground.phase }, { on := 7, ground := Ground.phase }, { on := 8, ground := Ground.phase }, { on := 9, ground := Ground.phase }, { on := 10, ground := Ground.phase }, { on := 11, ground := Ground.phase }, { on := 12, ground := Ground.phase }, { on := 13, ground := Ground.phase }, { on := 14, ground := Ground.phase }, { on := 15, ground := Ground.phase }, { on := 16, ground := Ground.phase }, { on := 17, ground := Ground.phase }, { on := 18, ground := Ground.phase }, { on := 19, ground := Ground.phase }], guard := none }) (v := .pointer (some ⟨g, k, none⟩)) rfl (by kernel_rfl) (by kernel_rfl) (by kernel_rfl) (fun _ _ _ h => h.elim) (Or.inl ⟨by rfl, ?y20⟩) hS0.out ?_
  case y20 =>
    intro V hV
    go_simp
  simp only [Act.put, List.setIfInBounds_toArray, List.set_cons_zero, List.set_cons_succ]
  refine wpAnyH_ready (rs := [21]) (by kernel_rfl) (by simp) (AllReadyH.cons (i := 21) (o := { dst := none, op := Op.store 9 (Operand.tmp 62) (Operand.tmp 61), type := 0, pos := "ref.go:134", after := #[{ on := 20, ground := Ground.data }, { on := 19, ground := Ground.data }, { on := 0, ground := Ground.phase }, { on := 1, ground := Ground.phase }, { on := 2, ground := Ground.phase }, { on := 3, ground := Ground.phase }, { on := 4, ground := Ground.phase }, { on := 5, ground := Ground.phase }, { on := 6, ground := Ground.phase }, { on := 7, ground := Ground.phase }, { on := 8, ground := Ground.phase }, { on := 9, ground := Ground.phase }, { on := 10, ground := Ground.phase }, { on := 11, ground := Ground.phase }, { on := 12, ground := Ground.phase }, { on := 13, ground := Ground.phase }, { on := 14, ground := Ground.phase }, { on := 15, ground := Ground.phase }, { on := 16, ground := Ground.phase }, { on := 17, ground := Ground.phase }, { on := 18, ground := Ground.phase }, { on := 19, ground := Ground.phase }], guard := none }) rfl ?_ AllReadyH.nil)
  intro K1 hK1
  rw [if_pos (by rfl)]
  have hc1 : A.drew.cell? ⟨g, k, none⟩ = some old := HC.out.1
  have hf1 : A.drew.frozen? ⟨g, k, none⟩ = false := HC.out.2
  go_wp2_with fail
  have hS1 : Hid ((A.drew.setCell ⟨g, k, none⟩ (.string S)).cell? ⟨r, 0, none⟩ = some (.slice (some ⟨g, 0, none⟩) n c) ∧ (A.drew.setCell ⟨g, k, none⟩ (.string S)).cell? ⟨r, 1, none⟩ = some (.slice (some ⟨gp, 0, none⟩) m cp) ∧ (A.drew.setCell ⟨g, k, none⟩ (.string S)).cell? ⟨gp, t * 2, none⟩ = some (.int .i64 (k : Int)) ∧ (A.drew.setCell ⟨g, k, none⟩ (.string S)).cell? ⟨gp, t * 2 + 1, none⟩ = some (.string S)) := ⟨by rw [cell_other hr]; exact hS0.out.1, by rw [cell_other hr]; exact hS0.out.2.1, by rw [cell_other hgp]; exact hS0.out.2.2.1, by rw [cell_other hgp]; exact hS0.out.2.2.2⟩
  refine hK1.out _ _ hS1.out ?_
  clear hK1
  intro _
  try simp only [Act.put, List.setIfInBounds_toArray, List.set_cons_zero, List.set_cons_succ]
  refine wpAnyH_done (by kernel_rfl) ?_ _
  exact hQ
#print axioms settle_region_r
end Go.Proofs.Ytmhdldhplhffcaa.Oct
