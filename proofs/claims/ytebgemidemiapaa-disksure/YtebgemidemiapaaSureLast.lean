/-
  Layer 5 (disk): the condition within the law DiskSure's last loop, whatever its order.
-/
import Derived.Test.YtebgemidemiapaaTrio
import Derived.Deep.RegionHeldLaw
namespace Go.Proofs.Ytebgemidemiapaa.Oct
open Go.RowKit Go.Maps Go.Lib
set_option maxRecDepth 100000 in
set_option maxHeartbeats 2000000 in
theorem s29_touched {Q : Exit → Act → World → Prop} {x0 x1 x2 x3 x4 x5 x6 x7 x10 x11 x12 x13 x17 x18 x19 x20 x21 x22 x23 x24 x25 x26 x27 x28 x29 x30 x31 x32 x33 x34 x35 x36 x37 x38 x39 x40 x41 x42 x43 x44 x45 x46 x47 x48 x49 x50 x51 x52 x53 x54 x55 x56 x57 x58 x59 x60 x61 x62 x63 x64 x65 x66 x67 x68 x69 x70 x71 x72 x73 x74 x75 x76 x77 x78 x79 x80 x81 x82 x83 x84 x85 x86 x87 x88 x89 x90 x91 x92 x93 x94 x95 x96 x97 x98 x99 x100 x101 x102 x103 x104 x105 x106 x107 x108 x109 x110 x111 x112 x113 x114 x115 x116 x117 x118 x119 x120 x121 : Value} {ds : List Deferred} {A : World} {TB t rw0 cw nb cb : Nat} {ab : Option Addr}
    (ht : t < 4) (hS : A.drew.cell? ⟨TB, t, none⟩ = some (.bool true))
    (hQ : Q .normal { tmps := #[x0, x1, x2, x3, x4, x5, x6, x7, .slice (some ⟨rw0, 0, none⟩) 4 cw, .pointer (some ⟨TB, 0, none⟩), x10, x11, x12, x13, .int .i64 (t : Int), .slice ab nb cb, .int .i64 0, x17, x18, x19, x20, x21, x22, x23, x24, x25, x26, x27, x28, x29, x30, x31, x32, x33, x34, x35, x36, x37, x38, x39, x40, x41, x42, x43, x44, x45, x46, x47, x48, x49, x50, x51, x52, x53, x54, x55, x56, x57, x58, x59, x60, x61, x62, x63, x64, x65, x66, x67, x68, x69, x70, x71, x72, x73, x74, x75, x76, x77, x78, x79, x80, x81, x82, x83, x84, x85, x86, x87, x88, x89, x90, x91, x92, x93, x94, x95, .int .i64 0, .bool false, .bool false, .int .i64 (t : Int), .pointer (some ⟨TB, t, none⟩), .bool true, .bool false, .bool false, undef, undef, undef, undef, undef, undef, undef, undef, .bool false, .bool false, x114, x115, x116, x117, x118, x119, x120, x121], defers := ds } A.drew) :
    (Code.region 29 #[{ dst := some 96, op := Op.move (Operand.tmp 16), type := 24, pos := "law.go:172", after := #[], guard := none }, { dst := some 97, op := Op.binOp BinOp.neq 24 (Operand.tmp 96) (Operand.const (Value.int IntKind.i64 0)) 24, type := 4, pos := "law.go:172", after := #[{ on := 0, ground := Ground.data }], guard := none }, { dst := some 98, op := Op.move (Operand.tmp 97), type := 4, pos := "law.go:172", after := #[{ on := 1, ground := Ground.data }], guard := none }, { dst := some 99, op := Op.move (Operand.tmp 14), type := 3, pos := "law.go:172", after := #[{ on := 2, ground := Ground.guard }], guard := some (2, false) }, { dst := some 100, op := Op.indexAddr 46 (Operand.tmp 9) (Operand.tmp 99), type := 0, pos := "law.go:172", after := #[{ on := 3, ground := Ground.data }, { on := 2, ground := Ground.guard }], guard := some (2, false) }, { dst := some 101, op := Op.load 4 (Operand.tmp 100), type := 4, pos := "law.go:172", after := #[{ on := 4, ground := Ground.data }, { on := 2, ground := Ground.guard }], guard := some (2, false) }, { dst := some 102, op := Op.unOp UnOp.not 4 (Operand.tmp 101), type := 4, pos := "law.go:172", after := #[{ on := 5, ground := Ground.data }, { on := 2, ground := Ground.guard }], guard := some (2, false) }, { dst := some 103, op := Op.move (Operand.tmp 102), type := 4, pos := "law.go:172", after := #[{ on := 6, ground := Ground.data }, { on := 2, ground := Ground.chain }, { on := 2, ground := Ground.guard }], guard := some (2, false) }, { dst := some 104, op := Op.move (Operand.tmp 15), type := 30, pos := "law.go:172", after := #[{ on := 7, ground := Ground.guard }], guard := some (7, true) }, { dst := some 105, op := Op.convert 30 9 (Operand.tmp 104), type := 9, pos := "law.go:172", after := #[{ on := 8, ground := Ground.data }, { on := 7, ground := Ground.guard }], guard := some (7, true) }, { dst := some 106, op := Op.move (Operand.tmp 8), type := 44, pos := "law.go:172", after := #[{ on := 7, ground := Ground.guard }], guard := some (7, true) }, { dst := some 107, op := Op.move (Operand.tmp 14), type := 3, pos := "law.go:172", after := #[{ on := 7, ground := Ground.guard }], guard := some (7, true) }, { dst := some 108, op := Op.indexAddr 44 (Operand.tmp 106) (Operand.tmp 107), type := 0, pos := "law.go:172", after := #[{ on := 10, ground := Ground.data }, { on := 11, ground := Ground.data }, { on := 7, ground := Ground.guard }], guard := some (7, true) }, { dst := some 109, op := Op.load 30 (Operand.tmp 108), type := 30, pos := "law.go:172", after := #[{ on := 12, ground := Ground.data }, { on := 7, ground := Ground.guard }], guard := some (7, true) }, { dst := some 110, op := Op.convert 30 9 (Operand.tmp 109), type := 9, pos := "law.go:172", after := #[{ on := 13, ground := Ground.data }, { on := 7, ground := Ground.guard }], guard := some (7, true) }, { dst := some 111, op := Op.binOp BinOp.neq 9 (Operand.tmp 105) (Operand.tmp 110) 9, type := 4, pos := "law.go:172", after := #[{ on := 9, ground := Ground.data }, { on := 14, ground := Ground.data }, { on := 7, ground := Ground.guard }], guard := some (7, true) }, { dst := some 112, op := Op.pick (Operand.tmp 103) (Operand.tmp 111) (Operand.const (Value.bool false)), type := 4, pos := "law.go:172", after := #[{ on := 7, ground := Ground.data }, { on := 15, ground := Ground.data }, { on := 2, ground := Ground.guard }], guard := some (2, false) }, { dst := some 113, op := Op.pick (Operand.tmp 98) (Operand.const (Value.bool true)) (Operand.tmp 112), type := 4, pos := "law.go:172", after := #[{ on := 2, ground := Ground.data }, { on := 16, ground := Ground.data }], guard := none }] true).wp Try.prog Q { tmps := #[x0, x1, x2, x3, x4, x5, x6, x7, .slice (some ⟨rw0, 0, none⟩) 4 cw, .pointer (some ⟨TB, 0, none⟩), x10, x11, x12, x13, .int .i64 (t : Int), .slice ab nb cb, .int .i64 0, x17, x18, x19, x20, x21, x22, x23, x24, x25, x26, x27, x28, x29, x30, x31, x32, x33, x34, x35, x36, x37, x38, x39, x40, x41, x42, x43, x44, x45, x46, x47, x48, x49, x50, x51, x52, x53, x54, x55, x56, x57, x58, x59, x60, x61, x62, x63, x64, x65, x66, x67, x68, x69, x70, x71, x72, x73, x74, x75, x76, x77, x78, x79, x80, x81, x82, x83, x84, x85, x86, x87, x88, x89, x90, x91, x92, x93, x94, x95, x96, x97, x98, x99, x100, x101, x102, x103, x104, x105, x106, x107, x108, x109, x110, x111, x112, x113, x114, x115, x116, x117, x118, x119, x120, x121], defers := ds } A := by
  refine Code.wp_mono (Q := fun x a' w' => match x with | .normal => Q .normal a' w' | _ => False) (by intro x a' w' h; cases x <;> first | exact h | exact h.elim) ?_
  obtain ⟨S, hSd⟩ : ∃ S : World → Prop, S = fun W => W.cell? ⟨TB, t, none⟩ = some (.bool true) := ⟨_, rfl⟩
  refine wp_region_held (S := S) (by kernel_rfl) ?_
  have hS' : S A.drew := by rw [hSd]; exact hS
  have ht2 : (t : Int) < 4 := by omega
  clear hS
  change wpAnyH Try.prog .any _ _ S 18 (Array.replicate 18 false) _ A.drew
  refine wpAnyH_take (i := 0) (oi := { dst := some 96, op := Op.move (Operand.tmp 16), type := 24, pos := "law.go:172", after := #[], guard := none }) (v := .int .i64 0) rfl (by kernel_rfl) (by kernel_rfl) (by kernel_rfl) (fun _ _ _ h => h.elim) (Or.inl ⟨by rfl, ?y0⟩) hS' ?_
  case y0 =>
    intro W hW
    rw [hSd] at hW; have s1 := hW
    go_simp
  simp only [Act.put, List.setIfInBounds_toArray, List.set_cons_zero, List.set_cons_succ]
  refine wpAnyH_take (i := 1) (oi := { dst := some 97, op := Op.binOp BinOp.neq 24 (Operand.tmp 96) (Operand.const (Value.int IntKind.i64 0)) 24, type := 4, pos := "law.go:172", after := #[{ on := 0, ground := Ground.data }], guard := none }) (v := .bool false) rfl (by kernel_rfl) (by kernel_rfl) (by kernel_rfl) (fun _ _ _ h => h.elim) (Or.inl ⟨by rfl, ?y1⟩) hS' ?_
  case y1 =>
    intro W hW
    rw [hSd] at hW; have s1 := hW
    go_simp
  simp only [Act.put, List.setIfInBounds_toArray, List.set_cons_zero, List.set_cons_succ]
  refine wpAnyH_take (i := 2) (oi := { dst := some 98, op := Op.move (Operand.tmp 97), type := 4, pos := "law.go:172", after := #[{ on := 1, ground := Ground.data }], guard := none }) (v := .bool false) rfl (by kernel_rfl) (by kernel_rfl) (by kernel_rfl) (fun _ _ _ h => h.elim) (Or.inl ⟨by rfl, ?y2⟩) hS' ?_
  case y2 =>
    intro W hW
    rw [hSd] at hW; have s1 := hW
    go_simp
  simp only [Act.put, List.setIfInBounds_toArray, List.set_cons_zero, List.set_cons_succ]
  refine wpAnyH_take (i := 3) (oi := { dst := some 99, op := Op.move (Operand.tmp 14), type := 3, pos := "law.go:172", after := #[{ on := 2, ground := Ground.guard }], guard := some (2, false) }) (v := .int .i64 (t : Int)) rfl (by kernel_rfl) (by kernel_rfl) (by kernel_rfl) (fun _ _ _ h => h.elim) (Or.inl ⟨by rfl, ?y3⟩) hS' ?_
  case y3 =>
    intro W hW
    rw [hSd] at hW; have s1 := hW
    go_simp
  simp only [Act.put, List.setIfInBounds_toArray, List.set_cons_zero, List.set_cons_succ]
  refine wpAnyH_take (i := 4) (oi := { dst := some 100, op := Op.indexAddr 46 (Operand.tmp 9) (Operand.tmp 99), type := 0, pos := "law.go:172", after := #[{ on := 3, ground := Ground.data }, { on := 2, ground := Ground.guard }], guard := some (2, false) }) (v := .pointer (some ⟨TB, t, none⟩)) rfl (by kernel_rfl) (by kernel_rfl) (by kernel_rfl) (fun _ _ _ h => h.elim) (Or.inl ⟨by rfl, ?y4⟩) hS' ?_
  case y4 =>
    intro W hW
    rw [hSd] at hW; have s1 := hW
    go_simp
  simp only [Act.put, List.setIfInBounds_toArray, List.set_cons_zero, List.set_cons_succ]
  refine wpAnyH_take (i := 5) (oi := { dst := some 101, op := Op.load 4 (Operand.tmp 100), type := 4, pos := "law.go:172", after := #[{ on := 4, ground := Ground.data }, { on := 2, ground := Ground.guard }], guard := some (2, false) }) (v := .bool true) rfl (by kernel_rfl) (by kernel_rfl) (by kernel_rfl) (fun _ _ _ h => h.elim) (Or.inl ⟨by rfl, ?y5⟩) hS' ?_
  case y5 =>
    intro W hW
    rw [hSd] at hW; have s1 := hW
    go_simp
  simp only [Act.put, List.setIfInBounds_toArray, List.set_cons_zero, List.set_cons_succ]
  refine wpAnyH_take (i := 6) (oi := { dst := some 102, op := Op.unOp UnOp.not 4 (Operand.tmp 101), type := 4, pos := "law.go:172", after := #[{ on := 5, ground := Ground.data }, { on := 2, ground := Ground.guard }], guard := some (2, false) }) (v := .bool false) rfl (by kernel_rfl) (by kernel_rfl) (by kernel_rfl) (fun _ _ _ h => h.elim) (Or.inl ⟨by rfl, ?y6⟩) hS' ?_
  case y6 =>
    intro W hW
    rw [hSd] at hW; have s1 := hW
    go_simp
  simp only [Act.put, List.setIfInBounds_toArray, List.set_cons_zero, List.set_cons_succ]
  refine wpAnyH_take (i := 7) (oi := { dst := some 103, op := Op.move (Operand.tmp 102), type := 4, pos := "law.go:172", after := #[{ on := 6, ground := Ground.data }, { on := 2, ground := Ground.chain }, { on := 2, ground := Ground.guard }], guard := some (2, false) }) (v := .bool false) rfl (by kernel_rfl) (by kernel_rfl) (by kernel_rfl) (fun _ _ _ h => h.elim) (Or.inl ⟨by rfl, ?y7⟩) hS' ?_
  case y7 =>
    intro W hW
    rw [hSd] at hW; have s1 := hW
    go_simp
  simp only [Act.put, List.setIfInBounds_toArray, List.set_cons_zero, List.set_cons_succ]
  refine wpAnyH_take (i := 8) (oi := { dst := some 104, op := Op.move (Operand.tmp 15), type := 30, pos := "law.go:172", after := #[{ on := 7, ground := Ground.guard }], guard := some (7, true) }) (v := undef) rfl (by kernel_rfl) (by kernel_rfl) (by kernel_rfl) (fun _ _ _ h => h.elim) (Or.inr ⟨by rfl, rfl⟩) hS' ?_
  simp only [Act.put, List.setIfInBounds_toArray, List.set_cons_zero, List.set_cons_succ]
  refine wpAnyH_take (i := 9) (oi := { dst := some 105, op := Op.convert 30 9 (Operand.tmp 104), type := 9, pos := "law.go:172", after := #[{ on := 8, ground := Ground.data }, { on := 7, ground := Ground.guard }], guard := some (7, true) }) (v := undef) rfl (by kernel_rfl) (by kernel_rfl) (by kernel_rfl) (fun _ _ _ h => h.elim) (Or.inr ⟨by rfl, rfl⟩) hS' ?_
  simp only [Act.put, List.setIfInBounds_toArray, List.set_cons_zero, List.set_cons_succ]
  refine wpAnyH_take (i := 10) (oi := { dst := some 106, op := Op.move (Operand.tmp 8), type := 44, pos := "law.go:172", after := #[{ on := 7, ground := Ground.guard }], guard := some (7, true) }) (v := undef) rfl (by kernel_rfl) (by kernel_rfl) (by kernel_rfl) (fun _ _ _ h => h.elim) (Or.inr ⟨by rfl, rfl⟩) hS' ?_
  simp only [Act.put, List.setIfInBounds_toArray, List.set_cons_zero, List.set_cons_succ]
  refine wpAnyH_take (i := 11) (oi := { dst := some 107, op := Op.move (Operand.tmp 14), type := 3, pos := "law.go:172", after := #[{ on := 7, ground := Ground.guard }], guard := some (7, true) }) (v := undef) rfl (by kernel_rfl) (by kernel_rfl) (by kernel_rfl) (fun _ _ _ h => h.elim) (Or.inr ⟨by rfl, rfl⟩) hS' ?_
  simp only [Act.put, List.setIfInBounds_toArray, List.set_cons_zero, List.set_cons_succ]
  refine wpAnyH_take (i := 12) (oi := { dst := some 108, op := Op.indexAddr 44 (Operand.tmp 106) (Operand.tmp 107), type := 0, pos := "law.go:172", after := #[{ on := 10, ground := Ground.data }, { on := 11, ground := Ground.data }, { on := 7, ground := Ground.guard }], guard := some (7, true) }) (v := undef) rfl (by kernel_rfl) (by kernel_rfl) (by kernel_rfl) (fun _ _ _ h => h.elim) (Or.inr ⟨by rfl, rfl⟩) hS' ?_
  simp only [Act.put, List.setIfInBounds_toArray, List.set_cons_zero, List.set_cons_succ]
  refine wpAnyH_take (i := 13) (oi := { dst := some 109, op := Op.load 30 (Operand.tmp 108), type := 30, pos := "law.go:172", after := #[{ on := 12, ground := Ground.data }, { on := 7, ground := Ground.guard }], guard := some (7, true) }) (v := undef) rfl (by kernel_rfl) (by kernel_rfl) (by kernel_rfl) (fun _ _ _ h => h.elim) (Or.inr ⟨by rfl, rfl⟩) hS' ?_
  simp only [Act.put, List.setIfInBounds_toArray, List.set_cons_zero, List.set_cons_succ]
  refine wpAnyH_take (i := 14) (oi := { dst := some 110, op := Op.convert 30 9 (Operand.tmp 109), type := 9, pos := "law.go:172", after := #[{ on := 13, ground := Ground.data }, { on := 7, ground := Ground.guard }], guard := some (7, true) }) (v := undef) rfl (by kernel_rfl) (by kernel_rfl) (by kernel_rfl) (fun _ _ _ h => h.elim) (Or.inr ⟨by rfl, rfl⟩) hS' ?_
  simp only [Act.put, List.setIfInBounds_toArray, List.set_cons_zero, List.set_cons_succ]
  refine wpAnyH_take (i := 15) (oi := { dst := some 111, op := Op.binOp BinOp.neq 9 (Operand.tmp 105) (Operand.tmp 110) 9, type := 4, pos := "law.go:172", after := #[{ on := 9, ground := Ground.data }, { on := 14, ground := Ground.data }, { on := 7, ground := Ground.guard }], guard := some (7, true) }) (v := undef) rfl (by kernel_rfl) (by kernel_rfl) (by kernel_rfl) (fun _ _ _ h => h.elim) (Or.inr ⟨by rfl, rfl⟩) hS' ?_
  simp only [Act.put, List.setIfInBounds_toArray, List.set_cons_zero, List.set_cons_succ]
  refine wpAnyH_take (i := 16) (oi := { dst := some 112, op := Op.pick (Operand.tmp 103) (Operand.tmp 111) (Operand.const (Value.bool false)), type := 4, pos := "law.go:172", after := #[{ on := 7, ground := Ground.data }, { on := 15, ground := Ground.data }, { on := 2, ground := Ground.guard }], guard := some (2, false) }) (v := .bool false) rfl (by kernel_rfl) (by kernel_rfl) (by kernel_rfl) (fun _ _ _ h => h.elim) (Or.inl ⟨by rfl, ?y16⟩) hS' ?_
  case y16 =>
    intro W hW
    rw [hSd] at hW; have s1 := hW
    go_simp
  simp only [Act.put, List.setIfInBounds_toArray, List.set_cons_zero, List.set_cons_succ]
  refine wpAnyH_take (i := 17) (oi := { dst := some 113, op := Op.pick (Operand.tmp 98) (Operand.const (Value.bool true)) (Operand.tmp 112), type := 4, pos := "law.go:172", after := #[{ on := 2, ground := Ground.data }, { on := 16, ground := Ground.data }], guard := none }) (v := .bool false) rfl (by kernel_rfl) (by kernel_rfl) (by kernel_rfl) (fun _ _ _ h => h.elim) (Or.inl ⟨by rfl, ?y17⟩) hS' ?_
  case y17 =>
    intro W hW
    rw [hSd] at hW; have s1 := hW
    go_simp
  simp only [Act.put, List.setIfInBounds_toArray, List.set_cons_zero, List.set_cons_succ]
  refine wpAnyH_done (by kernel_rfl) ?_ _
  exact hQ
#print axioms s29_touched
set_option maxRecDepth 100000 in
set_option maxHeartbeats 2000000 in
theorem s29_same {Q : Exit → Act → World → Prop} {x0 x1 x2 x3 x4 x5 x6 x7 x10 x11 x12 x13 x17 x18 x19 x20 x21 x22 x23 x24 x25 x26 x27 x28 x29 x30 x31 x32 x33 x34 x35 x36 x37 x38 x39 x40 x41 x42 x43 x44 x45 x46 x47 x48 x49 x50 x51 x52 x53 x54 x55 x56 x57 x58 x59 x60 x61 x62 x63 x64 x65 x66 x67 x68 x69 x70 x71 x72 x73 x74 x75 x76 x77 x78 x79 x80 x81 x82 x83 x84 x85 x86 x87 x88 x89 x90 x91 x92 x93 x94 x95 x96 x97 x98 x99 x100 x101 x102 x103 x104 x105 x106 x107 x108 x109 x110 x111 x112 x113 x114 x115 x116 x117 x118 x119 x120 x121 : Value} {ds : List Deferred} {A : World} {TB t rw0 cw nb cb : Nat} {ab : Option Addr} {nw cc : Nat} {aw : Option Addr} {s1 : ByteArray}
    (ht : t < 4) (hS : A.drew.cell? ⟨TB, t, none⟩ = some (.bool false) ∧ A.drew.cell? ⟨rw0, t, none⟩ = some (.slice aw nw cc) ∧ (convert 30 9 (.slice ab nb cb)).run Try.prog A.drew = .ok (.string s1) A.drew ∧ (convert 30 9 (.slice aw nw cc)).run Try.prog A.drew = .ok (.string s1) A.drew)
    (hQ : Q .normal { tmps := #[x0, x1, x2, x3, x4, x5, x6, x7, .slice (some ⟨rw0, 0, none⟩) 4 cw, .pointer (some ⟨TB, 0, none⟩), x10, x11, x12, x13, .int .i64 (t : Int), .slice ab nb cb, .int .i64 0, x17, x18, x19, x20, x21, x22, x23, x24, x25, x26, x27, x28, x29, x30, x31, x32, x33, x34, x35, x36, x37, x38, x39, x40, x41, x42, x43, x44, x45, x46, x47, x48, x49, x50, x51, x52, x53, x54, x55, x56, x57, x58, x59, x60, x61, x62, x63, x64, x65, x66, x67, x68, x69, x70, x71, x72, x73, x74, x75, x76, x77, x78, x79, x80, x81, x82, x83, x84, x85, x86, x87, x88, x89, x90, x91, x92, x93, x94, x95, .int .i64 0, .bool false, .bool false, .int .i64 (t : Int), .pointer (some ⟨TB, t, none⟩), .bool false, .bool true, .bool true, .slice ab nb cb, .string s1, .slice (some ⟨rw0, 0, none⟩) 4 cw, .int .i64 (t : Int), .pointer (some ⟨rw0, t, none⟩), .slice aw nw cc, .string s1, .bool false, .bool false, .bool false, x114, x115, x116, x117, x118, x119, x120, x121], defers := ds } A.drew) :
    (Code.region 29 #[{ dst := some 96, op := Op.move (Operand.tmp 16), type := 24, pos := "law.go:172", after := #[], guard := none }, { dst := some 97, op := Op.binOp BinOp.neq 24 (Operand.tmp 96) (Operand.const (Value.int IntKind.i64 0)) 24, type := 4, pos := "law.go:172", after := #[{ on := 0, ground := Ground.data }], guard := none }, { dst := some 98, op := Op.move (Operand.tmp 97), type := 4, pos := "law.go:172", after := #[{ on := 1, ground := Ground.data }], guard := none }, { dst := some 99, op := Op.move (Operand.tmp 14), type := 3, pos := "law.go:172", after := #[{ on := 2, ground := Ground.guard }], guard := some (2, false) }, { dst := some 100, op := Op.indexAddr 46 (Operand.tmp 9) (Operand.tmp 99), type := 0, pos := "law.go:172", after := #[{ on := 3, ground := Ground.data }, { on := 2, ground := Ground.guard }], guard := some (2, false) }, { dst := some 101, op := Op.load 4 (Operand.tmp 100), type := 4, pos := "law.go:172", after := #[{ on := 4, ground := Ground.data }, { on := 2, ground := Ground.guard }], guard := some (2, false) }, { dst := some 102, op := Op.unOp UnOp.not 4 (Operand.tmp 101), type := 4, pos := "law.go:172", after := #[{ on := 5, ground := Ground.data }, { on := 2, ground := Ground.guard }], guard := some (2, false) }, { dst := some 103, op := Op.move (Operand.tmp 102), type := 4, pos := "law.go:172", after := #[{ on := 6, ground := Ground.data }, { on := 2, ground := Ground.chain }, { on := 2, ground := Ground.guard }], guard := some (2, false) }, { dst := some 104, op := Op.move (Operand.tmp 15), type := 30, pos := "law.go:172", after := #[{ on := 7, ground := Ground.guard }], guard := some (7, true) }, { dst := some 105, op := Op.convert 30 9 (Operand.tmp 104), type := 9, pos := "law.go:172", after := #[{ on := 8, ground := Ground.data }, { on := 7, ground := Ground.guard }], guard := some (7, true) }, { dst := some 106, op := Op.move (Operand.tmp 8), type := 44, pos := "law.go:172", after := #[{ on := 7, ground := Ground.guard }], guard := some (7, true) }, { dst := some 107, op := Op.move (Operand.tmp 14), type := 3, pos := "law.go:172", after := #[{ on := 7, ground := Ground.guard }], guard := some (7, true) }, { dst := some 108, op := Op.indexAddr 44 (Operand.tmp 106) (Operand.tmp 107), type := 0, pos := "law.go:172", after := #[{ on := 10, ground := Ground.data }, { on := 11, ground := Ground.data }, { on := 7, ground := Ground.guard }], guard := some (7, true) }, { dst := some 109, op := Op.load 30 (Operand.tmp 108), type := 30, pos := "law.go:172", after := #[{ on := 12, ground := Ground.data }, { on := 7, ground := Ground.guard }], guard := some (7, true) }, { dst := some 110, op := Op.convert 30 9 (Operand.tmp 109), type := 9, pos := "law.go:172", after := #[{ on := 13, ground := Ground.data }, { on := 7, ground := Ground.guard }], guard := some (7, true) }, { dst := some 111, op := Op.binOp BinOp.neq 9 (Operand.tmp 105) (Operand.tmp 110) 9, type := 4, pos := "law.go:172", after := #[{ on := 9, ground := Ground.data }, { on := 14, ground := Ground.data }, { on := 7, ground := Ground.guard }], guard := some (7, true) }, { dst := some 112, op := Op.pick (Operand.tmp 103) (Operand.tmp 111) (Operand.const (Value.bool false)), type := 4, pos := "law.go:172", after := #[{ on := 7, ground := Ground.data }, { on := 15, ground := Ground.data }, { on := 2, ground := Ground.guard }], guard := some (2, false) }, { dst := some 113, op := Op.pick (Operand.tmp 98) (Operand.const (Value.bool true)) (Operand.tmp 112), type := 4, pos := "law.go:172", after := #[{ on := 2, ground := Ground.data }, { on := 16, ground := Ground.data }], guard := none }] true).wp Try.prog Q { tmps := #[x0, x1, x2, x3, x4, x5, x6, x7, .slice (some ⟨rw0, 0, none⟩) 4 cw, .pointer (some ⟨TB, 0, none⟩), x10, x11, x12, x13, .int .i64 (t : Int), .slice ab nb cb, .int .i64 0, x17, x18, x19, x20, x21, x22, x23, x24, x25, x26, x27, x28, x29, x30, x31, x32, x33, x34, x35, x36, x37, x38, x39, x40, x41, x42, x43, x44, x45, x46, x47, x48, x49, x50, x51, x52, x53, x54, x55, x56, x57, x58, x59, x60, x61, x62, x63, x64, x65, x66, x67, x68, x69, x70, x71, x72, x73, x74, x75, x76, x77, x78, x79, x80, x81, x82, x83, x84, x85, x86, x87, x88, x89, x90, x91, x92, x93, x94, x95, x96, x97, x98, x99, x100, x101, x102, x103, x104, x105, x106, x107, x108, x109, x110, x111, x112, x113, x114, x115, x116, x117, x118, x119, x120, x121], defers := ds } A := by
  refine Code.wp_mono (Q := fun x a' w' => match x with | .normal => Q .normal a' w' | _ => False) (by intro x a' w' h; cases x <;> first | exact h | exact h.elim) ?_
  obtain ⟨S, hSd⟩ : ∃ S : World → Prop, S = fun W => W.cell? ⟨TB, t, none⟩ = some (.bool false) ∧ W.cell? ⟨rw0, t, none⟩ = some (.slice aw nw cc) ∧ (convert 30 9 (.slice ab nb cb)).run Try.prog W = .ok (.string s1) W ∧ (convert 30 9 (.slice aw nw cc)).run Try.prog W = .ok (.string s1) W := ⟨_, rfl⟩
  refine wp_region_held (S := S) (by kernel_rfl) ?_
  have hS' : S A.drew := by rw [hSd]; exact hS
  have ht2 : (t : Int) < 4 := by omega
  clear hS
  change wpAnyH Try.prog .any _ _ S 18 (Array.replicate 18 false) _ A.drew
  refine wpAnyH_take (i := 0) (oi := { dst := some 96, op := Op.move (Operand.tmp 16), type := 24, pos := "law.go:172", after := #[], guard := none }) (v := .int .i64 0) rfl (by kernel_rfl) (by kernel_rfl) (by kernel_rfl) (fun _ _ _ h => h.elim) (Or.inl ⟨by rfl, ?y0⟩) hS' ?_
  case y0 =>
    intro W hW
    rw [hSd] at hW; obtain ⟨s1, s2, s3, s4⟩ := hW
    go_simp
  simp only [Act.put, List.setIfInBounds_toArray, List.set_cons_zero, List.set_cons_succ]
  refine wpAnyH_take (i := 1) (oi := { dst := some 97, op := Op.binOp BinOp.neq 24 (Operand.tmp 96) (Operand.const (Value.int IntKind.i64 0)) 24, type := 4, pos := "law.go:172", after := #[{ on := 0, ground := Ground.data }], guard := none }) (v := .bool false) rfl (by kernel_rfl) (by kernel_rfl) (by kernel_rfl) (fun _ _ _ h => h.elim) (Or.inl ⟨by rfl, ?y1⟩) hS' ?_
  case y1 =>
    intro W hW
    rw [hSd] at hW; obtain ⟨s1, s2, s3, s4⟩ := hW
    go_simp
  simp only [Act.put, List.setIfInBounds_toArray, List.set_cons_zero, List.set_cons_succ]
  refine wpAnyH_take (i := 2) (oi := { dst := some 98, op := Op.move (Operand.tmp 97), type := 4, pos := "law.go:172", after := #[{ on := 1, ground := Ground.data }], guard := none }) (v := .bool false) rfl (by kernel_rfl) (by kernel_rfl) (by kernel_rfl) (fun _ _ _ h => h.elim) (Or.inl ⟨by rfl, ?y2⟩) hS' ?_
  case y2 =>
    intro W hW
    rw [hSd] at hW; obtain ⟨s1, s2, s3, s4⟩ := hW
    go_simp
  simp only [Act.put, List.setIfInBounds_toArray, List.set_cons_zero, List.set_cons_succ]
  refine wpAnyH_take (i := 3) (oi := { dst := some 99, op := Op.move (Operand.tmp 14), type := 3, pos := "law.go:172", after := #[{ on := 2, ground := Ground.guard }], guard := some (2, false) }) (v := .int .i64 (t : Int)) rfl (by kernel_rfl) (by kernel_rfl) (by kernel_rfl) (fun _ _ _ h => h.elim) (Or.inl ⟨by rfl, ?y3⟩) hS' ?_
  case y3 =>
    intro W hW
    rw [hSd] at hW; obtain ⟨s1, s2, s3, s4⟩ := hW
    go_simp
  simp only [Act.put, List.setIfInBounds_toArray, List.set_cons_zero, List.set_cons_succ]
  refine wpAnyH_take (i := 4) (oi := { dst := some 100, op := Op.indexAddr 46 (Operand.tmp 9) (Operand.tmp 99), type := 0, pos := "law.go:172", after := #[{ on := 3, ground := Ground.data }, { on := 2, ground := Ground.guard }], guard := some (2, false) }) (v := .pointer (some ⟨TB, t, none⟩)) rfl (by kernel_rfl) (by kernel_rfl) (by kernel_rfl) (fun _ _ _ h => h.elim) (Or.inl ⟨by rfl, ?y4⟩) hS' ?_
  case y4 =>
    intro W hW
    rw [hSd] at hW; obtain ⟨s1, s2, s3, s4⟩ := hW
    go_simp
  simp only [Act.put, List.setIfInBounds_toArray, List.set_cons_zero, List.set_cons_succ]
  refine wpAnyH_take (i := 5) (oi := { dst := some 101, op := Op.load 4 (Operand.tmp 100), type := 4, pos := "law.go:172", after := #[{ on := 4, ground := Ground.data }, { on := 2, ground := Ground.guard }], guard := some (2, false) }) (v := .bool false) rfl (by kernel_rfl) (by kernel_rfl) (by kernel_rfl) (fun _ _ _ h => h.elim) (Or.inl ⟨by rfl, ?y5⟩) hS' ?_
  case y5 =>
    intro W hW
    rw [hSd] at hW; obtain ⟨s1, s2, s3, s4⟩ := hW
    go_simp
  simp only [Act.put, List.setIfInBounds_toArray, List.set_cons_zero, List.set_cons_succ]
  refine wpAnyH_take (i := 6) (oi := { dst := some 102, op := Op.unOp UnOp.not 4 (Operand.tmp 101), type := 4, pos := "law.go:172", after := #[{ on := 5, ground := Ground.data }, { on := 2, ground := Ground.guard }], guard := some (2, false) }) (v := .bool true) rfl (by kernel_rfl) (by kernel_rfl) (by kernel_rfl) (fun _ _ _ h => h.elim) (Or.inl ⟨by rfl, ?y6⟩) hS' ?_
  case y6 =>
    intro W hW
    rw [hSd] at hW; obtain ⟨s1, s2, s3, s4⟩ := hW
    go_simp
  simp only [Act.put, List.setIfInBounds_toArray, List.set_cons_zero, List.set_cons_succ]
  refine wpAnyH_take (i := 7) (oi := { dst := some 103, op := Op.move (Operand.tmp 102), type := 4, pos := "law.go:172", after := #[{ on := 6, ground := Ground.data }, { on := 2, ground := Ground.chain }, { on := 2, ground := Ground.guard }], guard := some (2, false) }) (v := .bool true) rfl (by kernel_rfl) (by kernel_rfl) (by kernel_rfl) (fun _ _ _ h => h.elim) (Or.inl ⟨by rfl, ?y7⟩) hS' ?_
  case y7 =>
    intro W hW
    rw [hSd] at hW; obtain ⟨s1, s2, s3, s4⟩ := hW
    go_simp
  simp only [Act.put, List.setIfInBounds_toArray, List.set_cons_zero, List.set_cons_succ]
  refine wpAnyH_take (i := 8) (oi := { dst := some 104, op := Op.move (Operand.tmp 15), type := 30, pos := "law.go:172", after := #[{ on := 7, ground := Ground.guard }], guard := some (7, true) }) (v := .slice ab nb cb) rfl (by kernel_rfl) (by kernel_rfl) (by kernel_rfl) (fun _ _ _ h => h.elim) (Or.inl ⟨by rfl, ?y8⟩) hS' ?_
  case y8 =>
    intro W hW
    rw [hSd] at hW; obtain ⟨s1, s2, s3, s4⟩ := hW
    go_simp
  simp only [Act.put, List.setIfInBounds_toArray, List.set_cons_zero, List.set_cons_succ]
  refine wpAnyH_take (i := 9) (oi := { dst := some 105, op := Op.convert 30 9 (Operand.tmp 104), type := 9, pos := "law.go:172", after := #[{ on := 8, ground := Ground.data }, { on := 7, ground := Ground.guard }], guard := some (7, true) }) (v := .string s1) rfl (by kernel_rfl) (by kernel_rfl) (by kernel_rfl) (fun _ _ _ h => h.elim) (Or.inl ⟨by rfl, ?y9⟩) hS' ?_
  case y9 =>
    intro W hW
    rw [hSd] at hW; obtain ⟨s1, s2, s3, s4⟩ := hW
    go_simp
  simp only [Act.put, List.setIfInBounds_toArray, List.set_cons_zero, List.set_cons_succ]
  refine wpAnyH_take (i := 10) (oi := { dst := some 106, op := Op.move (Operand.tmp 8), type := 44, pos := "law.go:172", after := #[{ on := 7, ground := Ground.guard }], guard := some (7, true) }) (v := .slice (some ⟨rw0, 0, none⟩) 4 cw) rfl (by kernel_rfl) (by kernel_rfl) (by kernel_rfl) (fun _ _ _ h => h.elim) (Or.inl ⟨by rfl, ?y10⟩) hS' ?_
  case y10 =>
    intro W hW
    rw [hSd] at hW; obtain ⟨s1, s2, s3, s4⟩ := hW
    go_simp
  simp only [Act.put, List.setIfInBounds_toArray, List.set_cons_zero, List.set_cons_succ]
  refine wpAnyH_take (i := 11) (oi := { dst := some 107, op := Op.move (Operand.tmp 14), type := 3, pos := "law.go:172", after := #[{ on := 7, ground := Ground.guard }], guard := some (7, true) }) (v := .int .i64 (t : Int)) rfl (by kernel_rfl) (by kernel_rfl) (by kernel_rfl) (fun _ _ _ h => h.elim) (Or.inl ⟨by rfl, ?y11⟩) hS' ?_
  case y11 =>
    intro W hW
    rw [hSd] at hW; obtain ⟨s1, s2, s3, s4⟩ := hW
    go_simp
  simp only [Act.put, List.setIfInBounds_toArray, List.set_cons_zero, List.set_cons_succ]
  refine wpAnyH_take (i := 12) (oi := { dst := some 108, op := Op.indexAddr 44 (Operand.tmp 106) (Operand.tmp 107), type := 0, pos := "law.go:172", after := #[{ on := 10, ground := Ground.data }, { on := 11, ground := Ground.data }, { on := 7, ground := Ground.guard }], guard := some (7, true) }) (v := .pointer (some ⟨rw0, t, none⟩)) rfl (by kernel_rfl) (by kernel_rfl) (by kernel_rfl) (fun _ _ _ h => h.elim) (Or.inl ⟨by rfl, ?y12⟩) hS' ?_
  case y12 =>
    intro W hW
    rw [hSd] at hW; obtain ⟨s1, s2, s3, s4⟩ := hW
    go_simp
  simp only [Act.put, List.setIfInBounds_toArray, List.set_cons_zero, List.set_cons_succ]
  refine wpAnyH_take (i := 13) (oi := { dst := some 109, op := Op.load 30 (Operand.tmp 108), type := 30, pos := "law.go:172", after := #[{ on := 12, ground := Ground.data }, { on := 7, ground := Ground.guard }], guard := some (7, true) }) (v := .slice aw nw cc) rfl (by kernel_rfl) (by kernel_rfl) (by kernel_rfl) (fun _ _ _ h => h.elim) (Or.inl ⟨by rfl, ?y13⟩) hS' ?_
  case y13 =>
    intro W hW
    rw [hSd] at hW; obtain ⟨s1, s2, s3, s4⟩ := hW
    go_simp
  simp only [Act.put, List.setIfInBounds_toArray, List.set_cons_zero, List.set_cons_succ]
  refine wpAnyH_take (i := 14) (oi := { dst := some 110, op := Op.convert 30 9 (Operand.tmp 109), type := 9, pos := "law.go:172", after := #[{ on := 13, ground := Ground.data }, { on := 7, ground := Ground.guard }], guard := some (7, true) }) (v := .string s1) rfl (by kernel_rfl) (by kernel_rfl) (by kernel_rfl) (fun _ _ _ h => h.elim) (Or.inl ⟨by rfl, ?y14⟩) hS' ?_
  case y14 =>
    intro W hW
    rw [hSd] at hW; obtain ⟨s1, s2, s3, s4⟩ := hW
    go_simp
  simp only [Act.put, List.setIfInBounds_toArray, List.set_cons_zero, List.set_cons_succ]
  refine wpAnyH_take (i := 15) (oi := { dst := some 111, op := Op.binOp BinOp.neq 9 (Operand.tmp 105) (Operand.tmp 110) 9, type := 4, pos := "law.go:172", after := #[{ on := 9, ground := Ground.data }, { on := 14, ground := Ground.data }, { on := 7, ground := Ground.guard }], guard := some (7, true) }) (v := .bool false) rfl (by kernel_rfl) (by kernel_rfl) (by kernel_rfl) (fun _ _ _ h => h.elim) (Or.inl ⟨by rfl, ?y15⟩) hS' ?_
  case y15 =>
    intro W hW
    rw [hSd] at hW; obtain ⟨s1, s2, s3, s4⟩ := hW
    go_simp
  simp only [Act.put, List.setIfInBounds_toArray, List.set_cons_zero, List.set_cons_succ]
  refine wpAnyH_take (i := 16) (oi := { dst := some 112, op := Op.pick (Operand.tmp 103) (Operand.tmp 111) (Operand.const (Value.bool false)), type := 4, pos := "law.go:172", after := #[{ on := 7, ground := Ground.data }, { on := 15, ground := Ground.data }, { on := 2, ground := Ground.guard }], guard := some (2, false) }) (v := .bool false) rfl (by kernel_rfl) (by kernel_rfl) (by kernel_rfl) (fun _ _ _ h => h.elim) (Or.inl ⟨by rfl, ?y16⟩) hS' ?_
  case y16 =>
    intro W hW
    rw [hSd] at hW; obtain ⟨s1, s2, s3, s4⟩ := hW
    go_simp
  simp only [Act.put, List.setIfInBounds_toArray, List.set_cons_zero, List.set_cons_succ]
  refine wpAnyH_take (i := 17) (oi := { dst := some 113, op := Op.pick (Operand.tmp 98) (Operand.const (Value.bool true)) (Operand.tmp 112), type := 4, pos := "law.go:172", after := #[{ on := 2, ground := Ground.data }, { on := 16, ground := Ground.data }], guard := none }) (v := .bool false) rfl (by kernel_rfl) (by kernel_rfl) (by kernel_rfl) (fun _ _ _ h => h.elim) (Or.inl ⟨by rfl, ?y17⟩) hS' ?_
  case y17 =>
    intro W hW
    rw [hSd] at hW; obtain ⟨s1, s2, s3, s4⟩ := hW
    go_simp
  simp only [Act.put, List.setIfInBounds_toArray, List.set_cons_zero, List.set_cons_succ]
  refine wpAnyH_done (by kernel_rfl) ?_ _
  exact hQ
#print axioms s29_same
end Go.Proofs.Ytebgemidemiapaa.Oct
