/-
  Layer 9 (names): the one condition of the reference's 'Longest', whatever its order.
-/
import Derived.Test.YthhdogokigpieaaStrsView
import Derived.Deep.RegionHeldLaw
namespace Go.Proofs.Ythhdogokigpieaa.Oct
open Go.RowKit
set_option maxRecDepth 100000 in
set_option maxHeartbeats 2000000 in
theorem lr_no {Q : Exit → Act → World → Prop} {x2 x3 x4 x7 x8 x9 x10 x11 x12 x13 x14 x15 x16 x17 x18 x19 x20 x21 x22 x23 x24 x25 x26 x27 x28 x29 x30 x31 x32 x33 x34 x35 x36 x37 : Value} {ds : List Deferred} {A : World} {b off n cp t : Nat} {s x : ByteArray} {f : Int}
    (cX : A.cell? ⟨b, off + t, none⟩ = some (.string x)) (hc : cov x s = false) (hs : s.size ≤ 140737488355328) (ht : (t : Int) < (n : Int))
    (hQ : ∀ w9, Below A.heap.size A w9 → Q .normal { tmps := #[.slice (some ⟨b, off, none⟩) n cp, .string s, x2, x3, x4, .int .i64 f, .int .i64 (t : Int), x7, x8, x9, x10, x11, x12, .slice (some ⟨b, off, none⟩) n cp, .int .i64 (t : Int), .pointer (some ⟨b, off + t, none⟩), .string x, .string s, .bool false, .bool false, undef, undef, undef, undef, undef, undef, undef, undef, undef, undef, undef, undef, undef, undef, undef, .bool false, x36, x37], defers := ds } w9) :
    (Code.region 5 #[{ dst := some 13, op := Op.move (Operand.tmp 0), type := 24, pos := "ref.go:95", after := #[], guard := none }, { dst := some 14, op := Op.move (Operand.tmp 6), type := 3, pos := "ref.go:95", after := #[], guard := none }, { dst := some 15, op := Op.indexAddr 24 (Operand.tmp 13) (Operand.tmp 14), type := 0, pos := "ref.go:95", after := #[{ on := 0, ground := Ground.data }, { on := 1, ground := Ground.data }], guard := none }, { dst := some 16, op := Op.load 9 (Operand.tmp 15), type := 9, pos := "ref.go:95", after := #[{ on := 2, ground := Ground.data }], guard := none }, { dst := some 17, op := Op.move (Operand.tmp 1), type := 9, pos := "ref.go:95", after := #[], guard := none }, { dst := some 18, op := Op.call { callee := Callee.value (Operand.func 18), args := #[Operand.tmp 16, Operand.tmp 17], argTypes := #[9, 9] }, type := 4, pos := "ref.go:95", after := #[{ on := 3, ground := Ground.data }, { on := 4, ground := Ground.data }], guard := none }, { dst := some 19, op := Op.move (Operand.tmp 18), type := 4, pos := "ref.go:95", after := #[{ on := 5, ground := Ground.data }, { on := 5, ground := Ground.chain }], guard := none }, { dst := some 20, op := Op.move (Operand.tmp 5), type := 3, pos := "ref.go:95", after := #[{ on := 6, ground := Ground.guard }], guard := some (6, true) }, { dst := some 21, op := Op.binOp BinOp.lss 3 (Operand.tmp 20) (Operand.const (Value.int IntKind.i64 0)) 3, type := 4, pos := "ref.go:95", after := #[{ on := 7, ground := Ground.data }, { on := 6, ground := Ground.guard }], guard := some (6, true) }, { dst := some 22, op := Op.move (Operand.tmp 21), type := 4, pos := "ref.go:95", after := #[{ on := 8, ground := Ground.data }, { on := 6, ground := Ground.chain }, { on := 6, ground := Ground.guard }], guard := some (6, true) }, { dst := some 23, op := Op.move (Operand.tmp 0), type := 24, pos := "ref.go:95", after := #[{ on := 9, ground := Ground.guard }], guard := some (9, false) }, { dst := some 24, op := Op.move (Operand.tmp 6), type := 3, pos := "ref.go:95", after := #[{ on := 9, ground := Ground.guard }], guard := some (9, false) }, { dst := some 25, op := Op.indexAddr 24 (Operand.tmp 23) (Operand.tmp 24), type := 0, pos := "ref.go:95", after := #[{ on := 10, ground := Ground.data }, { on := 11, ground := Ground.data }, { on := 9, ground := Ground.guard }], guard := some (9, false) }, { dst := some 26, op := Op.load 9 (Operand.tmp 25), type := 9, pos := "ref.go:95", after := #[{ on := 12, ground := Ground.data }, { on := 9, ground := Ground.guard }], guard := some (9, false) }, { dst := some 27, op := Op.call { callee := Callee.builtin Builtin.len, args := #[Operand.tmp 26], argTypes := #[9] }, type := 3, pos := "ref.go:95", after := #[{ on := 13, ground := Ground.data }, { on := 9, ground := Ground.guard }], guard := some (9, false) }, { dst := some 28, op := Op.move (Operand.tmp 0), type := 24, pos := "ref.go:95", after := #[{ on := 9, ground := Ground.guard }], guard := some (9, false) }, { dst := some 29, op := Op.move (Operand.tmp 5), type := 3, pos := "ref.go:95", after := #[{ on := 9, ground := Ground.guard }], guard := some (9, false) }, { dst := some 30, op := Op.indexAddr 24 (Operand.tmp 28) (Operand.tmp 29), type := 0, pos := "ref.go:95", after := #[{ on := 15, ground := Ground.data }, { on := 16, ground := Ground.data }, { on := 9, ground := Ground.guard }], guard := some (9, false) }, { dst := some 31, op := Op.load 9 (Operand.tmp 30), type := 9, pos := "ref.go:95", after := #[{ on := 17, ground := Ground.data }, { on := 9, ground := Ground.guard }], guard := some (9, false) }, { dst := some 32, op := Op.call { callee := Callee.builtin Builtin.len, args := #[Operand.tmp 31], argTypes := #[9] }, type := 3, pos := "ref.go:95", after := #[{ on := 18, ground := Ground.data }, { on := 9, ground := Ground.guard }], guard := some (9, false) }, { dst := some 33, op := Op.binOp BinOp.gtr 3 (Operand.tmp 27) (Operand.tmp 32) 3, type := 4, pos := "ref.go:95", after := #[{ on := 14, ground := Ground.data }, { on := 19, ground := Ground.data }, { on := 9, ground := Ground.guard }], guard := some (9, false) }, { dst := some 34, op := Op.pick (Operand.tmp 22) (Operand.const (Value.bool true)) (Operand.tmp 33), type := 4, pos := "ref.go:95", after := #[{ on := 9, ground := Ground.data }, { on := 20, ground := Ground.data }, { on := 6, ground := Ground.guard }], guard := some (6, true) }, { dst := some 35, op := Op.pick (Operand.tmp 19) (Operand.tmp 34) (Operand.const (Value.bool false)), type := 4, pos := "ref.go:95", after := #[{ on := 6, ground := Ground.data }, { on := 21, ground := Ground.data }], guard := none }] true).wp Try.prog Q { tmps := #[.slice (some ⟨b, off, none⟩) n cp, .string s, x2, x3, x4, .int .i64 f, .int .i64 (t : Int), x7, x8, x9, x10, x11, x12, x13, x14, x15, x16, x17, x18, x19, x20, x21, x22, x23, x24, x25, x26, x27, x28, x29, x30, x31, x32, x33, x34, x35, x36, x37], defers := ds } A := by
  refine Code.wp_mono (Q := fun x a' w' => match x with | .normal => Q .normal a' w' | _ => False) (by intro x a' w' h; cases x <;> first | exact h | exact h.elim) ?_
  obtain ⟨S, hSd⟩ : ∃ S : World → Prop, S = fun W => W.cell? ⟨b, off + t, none⟩ = some (.string x) := ⟨_, rfl⟩
  refine wp_region_held (S := S) (by kernel_rfl) ?_
  have hS : S A.drew := by rw [hSd]; exact cX
  have HC : Hid (cov x s = false) := hc
  have HNS : Hid (s.size ≤ 140737488355328) := hs
  have ht2 : t < n := by omega
  clear hc hs
  change wpAnyH Try.prog .any _ _ S 23 (Array.replicate 23 false) _ A.drew
  refine wpAnyH_take (i := 0) (oi := { dst := some 13, op := Op.move (Operand.tmp 0), type := 24, pos := "ref.go:95", after := #[], guard := none }) (v := .slice (some ⟨b, off, none⟩) n cp) rfl (by kernel_rfl) (by kernel_rfl) (by kernel_rfl) (fun _ _ _ h => h.elim) (Or.inl ⟨by rfl, ?y0⟩) hS ?_
  case y0 =>
    intro W hW
    rw [hSd] at hW; obtain s1 := hW
    go_simp
  simp only [Act.put, List.setIfInBounds_toArray, List.set_cons_zero, List.set_cons_succ]
  refine wpAnyH_take (i := 1) (oi := { dst := some 14, op := Op.move (Operand.tmp 6), type := 3, pos := "ref.go:95", after := #[], guard := none }) (v := .int .i64 (t : Int)) rfl (by kernel_rfl) (by kernel_rfl) (by kernel_rfl) (fun _ _ _ h => h.elim) (Or.inl ⟨by rfl, ?y1⟩) hS ?_
  case y1 =>
    intro W hW
    rw [hSd] at hW; obtain s1 := hW
    go_simp
  simp only [Act.put, List.setIfInBounds_toArray, List.set_cons_zero, List.set_cons_succ]
  refine wpAnyH_take (i := 2) (oi := { dst := some 15, op := Op.indexAddr 24 (Operand.tmp 13) (Operand.tmp 14), type := 0, pos := "ref.go:95", after := #[{ on := 0, ground := Ground.data }, { on := 1, ground := Ground.data }], guard := none }) (v := .pointer (some ⟨b, off + t, none⟩)) rfl (by kernel_rfl) (by kernel_rfl) (by kernel_rfl) (fun _ _ _ h => h.elim) (Or.inl ⟨by rfl, ?y2⟩) hS ?_
  case y2 =>
    intro W hW
    rw [hSd] at hW; obtain s1 := hW
    go_simp
  simp only [Act.put, List.setIfInBounds_toArray, List.set_cons_zero, List.set_cons_succ]
  refine wpAnyH_take (i := 3) (oi := { dst := some 16, op := Op.load 9 (Operand.tmp 15), type := 9, pos := "ref.go:95", after := #[{ on := 2, ground := Ground.data }], guard := none }) (v := .string x) rfl (by kernel_rfl) (by kernel_rfl) (by kernel_rfl) (fun _ _ _ h => h.elim) (Or.inl ⟨by rfl, ?y3⟩) hS ?_
  case y3 =>
    intro W hW
    rw [hSd] at hW; obtain s1 := hW
    go_simp
  simp only [Act.put, List.setIfInBounds_toArray, List.set_cons_zero, List.set_cons_succ]
  refine wpAnyH_take (i := 4) (oi := { dst := some 17, op := Op.move (Operand.tmp 1), type := 9, pos := "ref.go:95", after := #[], guard := none }) (v := .string s) rfl (by kernel_rfl) (by kernel_rfl) (by kernel_rfl) (fun _ _ _ h => h.elim) (Or.inl ⟨by rfl, ?y4⟩) hS ?_
  case y4 =>
    intro W hW
    rw [hSd] at hW; obtain s1 := hW
    go_simp
  simp only [Act.put, List.setIfInBounds_toArray, List.set_cons_zero, List.set_cons_succ]
  refine wpAnyH_ready (rs := [5]) (by kernel_rfl) (by simp) (AllReadyH.cons (i := 5) (o := { dst := some 18, op := Op.call { callee := Callee.value (Operand.func 18), args := #[Operand.tmp 16, Operand.tmp 17], argTypes := #[9, 9] }, type := 4, pos := "ref.go:95", after := #[{ on := 3, ground := Ground.data }, { on := 4, ground := Ground.data }], guard := none }) rfl ?_ AllReadyH.nil)
  intro K' hK'
  rw [if_pos (by rfl)]
  have HLV : Hid (Calls Try.prog 18 #[.string x, .string s] A.drew fun e w' => e = .returned (.bool false) ∧ Below A.drew.heap.size A.drew w') := refCovers_any x s false HC.out A.drew HNS.out
  go_wp2_with (first | (go_at_call 18; refine HLV.out.mono ?_; rintro e w9 ⟨rfl, hb9⟩))
  have HB9 : Hid (Below A.heap.size A w9) := ⟨hb9.os, hb9.tape, hb9.output, hb9.size, hb9.block⟩
  have hS9 : S w9 := by rw [hSd]; exact (HB9.out.cell (p := ⟨b, off + t, none⟩) (World.block_lt_of_cell? A _ cX)).trans cX
  clear hb9
  refine hK'.out _ _ hS9 ?_
  clear hS hK'
  intro hS
  refine wpAnyH_take (i := 6) (oi := { dst := some 19, op := Op.move (Operand.tmp 18), type := 4, pos := "ref.go:95", after := #[{ on := 5, ground := Ground.data }, { on := 5, ground := Ground.chain }], guard := none }) (v := .bool false) rfl (by kernel_rfl) (by kernel_rfl) (by kernel_rfl) (fun _ _ _ h => h.elim) (Or.inl ⟨by rfl, ?y6⟩) hS ?_
  case y6 =>
    intro W hW
    rw [hSd] at hW; obtain s1 := hW
    go_simp
  simp only [Act.put, List.setIfInBounds_toArray, List.set_cons_zero, List.set_cons_succ]
  refine wpAnyH_take (i := 7) (oi := { dst := some 20, op := Op.move (Operand.tmp 5), type := 3, pos := "ref.go:95", after := #[{ on := 6, ground := Ground.guard }], guard := some (6, true) }) (v := undef) rfl (by kernel_rfl) (by kernel_rfl) (by kernel_rfl) (fun _ _ _ h => h.elim) (Or.inr ⟨by rfl, rfl⟩) hS ?_
  simp only [Act.put, List.setIfInBounds_toArray, List.set_cons_zero, List.set_cons_succ]
  refine wpAnyH_take (i := 8) (oi := { dst := some 21, op := Op.binOp BinOp.lss 3 (Operand.tmp 20) (Operand.const (Value.int IntKind.i64 0)) 3, type := 4, pos := "ref.go:95", after := #[{ on := 7, ground := Ground.data }, { on := 6, ground := Ground.guard }], guard := some (6, true) }) (v := undef) rfl (by kernel_rfl) (by kernel_rfl) (by kernel_rfl) (fun _ _ _ h => h.elim) (Or.inr ⟨by rfl, rfl⟩) hS ?_
  simp only [Act.put, List.setIfInBounds_toArray, List.set_cons_zero, List.set_cons_succ]
  refine wpAnyH_take (i := 9) (oi := { dst := some 22, op := Op.move (Operand.tmp 21), type := 4, pos := "ref.go:95", after := #[{ on := 8, ground := Ground.data }, { on := 6, ground := Ground.chain }, { on := 6, ground := Ground.guard }], guard := some (6, true) }) (v := undef) rfl (by kernel_rfl) (by kernel_rfl) (by kernel_rfl) (fun _ _ _ h => h.elim) (Or.inr ⟨by rfl, rfl⟩) hS ?_
  simp only [Act.put, List.setIfInBounds_toArray, List.set_cons_zero, List.set_cons_succ]
  refine wpAnyH_take (i := 10) (oi := { dst := some 23, op := Op.move (Operand.tmp 0), type := 24, pos := "ref.go:95", after := #[{ on := 9, ground := Ground.guard }], guard := some (9, false) }) (v := undef) rfl (by kernel_rfl) (by kernel_rfl) (by kernel_rfl) (fun _ _ _ h => h.elim) (Or.inr ⟨by rfl, rfl⟩) hS ?_
  simp only [Act.put, List.setIfInBounds_toArray, List.set_cons_zero, List.set_cons_succ]
  refine wpAnyH_take (i := 11) (oi := { dst := some 24, op := Op.move (Operand.tmp 6), type := 3, pos := "ref.go:95", after := #[{ on := 9, ground := Ground.guard }], guard := some (9, false) }) (v := undef) rfl (by kernel_rfl) (by kernel_rfl) (by kernel_rfl) (fun _ _ _ h => h.elim) (Or.inr ⟨by rfl, rfl⟩) hS ?_
  simp only [Act.put, List.setIfInBounds_toArray, List.set_cons_zero, List.set_cons_succ]
  refine wpAnyH_take (i := 12) (oi := { dst := some 25, op := Op.indexAddr 24 (Operand.tmp 23) (Operand.tmp 24), type := 0, pos := "ref.go:95", after := #[{ on := 10, ground := Ground.data }, { on := 11, ground := Ground.data }, { on := 9, ground := Ground.guard }], guard := some (9, false) }) (v := undef) rfl (by kernel_rfl) (by kernel_rfl) (by kernel_rfl) (fun _ _ _ h => h.elim) (Or.inr ⟨by rfl, rfl⟩) hS ?_
  simp only [Act.put, List.setIfInBounds_toArray, List.set_cons_zero, List.set_cons_succ]
  refine wpAnyH_take (i := 13) (oi := { dst := some 26, op := Op.load 9 (Operand.tmp 25), type := 9, pos := "ref.go:95", after := #[{ on := 12, ground := Ground.data }, { on := 9, ground := Ground.guard }], guard := some (9, false) }) (v := undef) rfl (by kernel_rfl) (by kernel_rfl) (by kernel_rfl) (fun _ _ _ h => h.elim) (Or.inr ⟨by rfl, rfl⟩) hS ?_
  simp only [Act.put, List.setIfInBounds_toArray, List.set_cons_zero, List.set_cons_succ]
  refine wpAnyH_take (i := 14) (oi := { dst := some 27, op := Op.call { callee := Callee.builtin Builtin.len, args := #[Operand.tmp 26], argTypes := #[9] }, type := 3, pos := "ref.go:95", after := #[{ on := 13, ground := Ground.data }, { on := 9, ground := Ground.guard }], guard := some (9, false) }) (v := undef) rfl (by kernel_rfl) (by kernel_rfl) (by kernel_rfl) (fun _ _ _ h => h.elim) (Or.inr ⟨by rfl, rfl⟩) hS ?_
  simp only [Act.put, List.setIfInBounds_toArray, List.set_cons_zero, List.set_cons_succ]
  refine wpAnyH_take (i := 15) (oi := { dst := some 28, op := Op.move (Operand.tmp 0), type := 24, pos := "ref.go:95", after := #[{ on := 9, ground := Ground.guard }], guard := some (9, false) }) (v := undef) rfl (by kernel_rfl) (by kernel_rfl) (by kernel_rfl) (fun _ _ _ h => h.elim) (Or.inr ⟨by rfl, rfl⟩) hS ?_
  simp only [Act.put, List.setIfInBounds_toArray, List.set_cons_zero, List.set_cons_succ]
  refine wpAnyH_take (i := 16) (oi := { dst := some 29, op := Op.move (Operand.tmp 5), type := 3, pos := "ref.go:95", after := #[{ on := 9, ground := Ground.guard }], guard := some (9, false) }) (v := undef) rfl (by kernel_rfl) (by kernel_rfl) (by kernel_rfl) (fun _ _ _ h => h.elim) (Or.inr ⟨by rfl, rfl⟩) hS ?_
  simp only [Act.put, List.setIfInBounds_toArray, List.set_cons_zero, List.set_cons_succ]
  refine wpAnyH_take (i := 17) (oi := { dst := some 30, op := Op.indexAddr 24 (Operand.tmp 28) (Operand.tmp 29), type := 0, pos := "ref.go:95", after := #[{ on := 15, ground := Ground.data }, { on := 16, ground := Ground.data }, { on := 9, ground := Ground.guard }], guard := some (9, false) }) (v := undef) rfl (by kernel_rfl) (by kernel_rfl) (by kernel_rfl) (fun _ _ _ h => h.elim) (Or.inr ⟨by rfl, rfl⟩) hS ?_
  simp only [Act.put, List.setIfInBounds_toArray, List.set_cons_zero, List.set_cons_succ]
  refine wpAnyH_take (i := 18) (oi := { dst := some 31, op := Op.load 9 (Operand.tmp 30), type := 9, pos := "ref.go:95", after := #[{ on := 17, ground := Ground.data }, { on := 9, ground := Ground.guard }], guard := some (9, false) }) (v := undef) rfl (by kernel_rfl) (by kernel_rfl) (by kernel_rfl) (fun _ _ _ h => h.elim) (Or.inr ⟨by rfl, rfl⟩) hS ?_
  simp only [Act.put, List.setIfInBounds_toArray, List.set_cons_zero, List.set_cons_succ]
  refine wpAnyH_take (i := 19) (oi := { dst := some 32, op := Op.call { callee := Callee.builtin Builtin.len, args := #[Operand.tmp 31], argTypes := #[9] }, type := 3, pos := "ref.go:95", after := #[{ on := 18, ground := Ground.data }, { on := 9, ground := Ground.guard }], guard := some (9, false) }) (v := undef) rfl (by kernel_rfl) (by kernel_rfl) (by kernel_rfl) (fun _ _ _ h => h.elim) (Or.inr ⟨by rfl, rfl⟩) hS ?_
  simp only [Act.put, List.setIfInBounds_toArray, List.set_cons_zero, List.set_cons_succ]
  refine wpAnyH_take (i := 20) (oi := { dst := some 33, op := Op.binOp BinOp.gtr 3 (Operand.tmp 27) (Operand.tmp 32) 3, type := 4, pos := "ref.go:95", after := #[{ on := 14, ground := Ground.data }, { on := 19, ground := Ground.data }, { on := 9, ground := Ground.guard }], guard := some (9, false) }) (v := undef) rfl (by kernel_rfl) (by kernel_rfl) (by kernel_rfl) (fun _ _ _ h => h.elim) (Or.inr ⟨by rfl, rfl⟩) hS ?_
  simp only [Act.put, List.setIfInBounds_toArray, List.set_cons_zero, List.set_cons_succ]
  refine wpAnyH_take (i := 21) (oi := { dst := some 34, op := Op.pick (Operand.tmp 22) (Operand.const (Value.bool true)) (Operand.tmp 33), type := 4, pos := "ref.go:95", after := #[{ on := 9, ground := Ground.data }, { on := 20, ground := Ground.data }, { on := 6, ground := Ground.guard }], guard := some (6, true) }) (v := undef) rfl (by kernel_rfl) (by kernel_rfl) (by kernel_rfl) (fun _ _ _ h => h.elim) (Or.inr ⟨by rfl, rfl⟩) hS ?_
  simp only [Act.put, List.setIfInBounds_toArray, List.set_cons_zero, List.set_cons_succ]
  refine wpAnyH_take (i := 22) (oi := { dst := some 35, op := Op.pick (Operand.tmp 19) (Operand.tmp 34) (Operand.const (Value.bool false)), type := 4, pos := "ref.go:95", after := #[{ on := 6, ground := Ground.data }, { on := 21, ground := Ground.data }], guard := none }) (v := .bool false) rfl (by kernel_rfl) (by kernel_rfl) (by kernel_rfl) (fun _ _ _ h => h.elim) (Or.inl ⟨by rfl, ?y22⟩) hS ?_
  case y22 =>
    intro W hW
    rw [hSd] at hW; obtain s1 := hW
    go_simp
  simp only [Act.put, List.setIfInBounds_toArray, List.set_cons_zero, List.set_cons_succ]
  refine wpAnyH_done (by kernel_rfl) ?_ _
  exact hQ _ HB9.out
#print axioms lr_no
set_option maxRecDepth 100000 in
set_option maxHeartbeats 2000000 in
theorem lr_first {Q : Exit → Act → World → Prop} {x2 x3 x4 x7 x8 x9 x10 x11 x12 x13 x14 x15 x16 x17 x18 x19 x20 x21 x22 x23 x24 x25 x26 x27 x28 x29 x30 x31 x32 x33 x34 x35 x36 x37 : Value} {ds : List Deferred} {A : World} {b off n cp t : Nat} {s x : ByteArray}
    (cX : A.cell? ⟨b, off + t, none⟩ = some (.string x)) (hc : cov x s = true) (hs : s.size ≤ 140737488355328) (ht : (t : Int) < (n : Int))
    (hQ : ∀ w9, Below A.heap.size A w9 → Q .normal { tmps := #[.slice (some ⟨b, off, none⟩) n cp, .string s, x2, x3, x4, .int .i64 (-1), .int .i64 (t : Int), x7, x8, x9, x10, x11, x12, .slice (some ⟨b, off, none⟩) n cp, .int .i64 (t : Int), .pointer (some ⟨b, off + t, none⟩), .string x, .string s, .bool true, .bool true, .int .i64 (-1), .bool true, .bool true, undef, undef, undef, undef, undef, undef, undef, undef, undef, undef, undef, .bool true, .bool true, x36, x37], defers := ds } w9) :
    (Code.region 5 #[{ dst := some 13, op := Op.move (Operand.tmp 0), type := 24, pos := "ref.go:95", after := #[], guard := none }, { dst := some 14, op := Op.move (Operand.tmp 6), type := 3, pos := "ref.go:95", after := #[], guard := none }, { dst := some 15, op := Op.indexAddr 24 (Operand.tmp 13) (Operand.tmp 14), type := 0, pos := "ref.go:95", after := #[{ on := 0, ground := Ground.data }, { on := 1, ground := Ground.data }], guard := none }, { dst := some 16, op := Op.load 9 (Operand.tmp 15), type := 9, pos := "ref.go:95", after := #[{ on := 2, ground := Ground.data }], guard := none }, { dst := some 17, op := Op.move (Operand.tmp 1), type := 9, pos := "ref.go:95", after := #[], guard := none }, { dst := some 18, op := Op.call { callee := Callee.value (Operand.func 18), args := #[Operand.tmp 16, Operand.tmp 17], argTypes := #[9, 9] }, type := 4, pos := "ref.go:95", after := #[{ on := 3, ground := Ground.data }, { on := 4, ground := Ground.data }], guard := none }, { dst := some 19, op := Op.move (Operand.tmp 18), type := 4, pos := "ref.go:95", after := #[{ on := 5, ground := Ground.data }, { on := 5, ground := Ground.chain }], guard := none }, { dst := some 20, op := Op.move (Operand.tmp 5), type := 3, pos := "ref.go:95", after := #[{ on := 6, ground := Ground.guard }], guard := some (6, true) }, { dst := some 21, op := Op.binOp BinOp.lss 3 (Operand.tmp 20) (Operand.const (Value.int IntKind.i64 0)) 3, type := 4, pos := "ref.go:95", after := #[{ on := 7, ground := Ground.data }, { on := 6, ground := Ground.guard }], guard := some (6, true) }, { dst := some 22, op := Op.move (Operand.tmp 21), type := 4, pos := "ref.go:95", after := #[{ on := 8, ground := Ground.data }, { on := 6, ground := Ground.chain }, { on := 6, ground := Ground.guard }], guard := some (6, true) }, { dst := some 23, op := Op.move (Operand.tmp 0), type := 24, pos := "ref.go:95", after := #[{ on := 9, ground := Ground.guard }], guard := some (9, false) }, { dst := some 24, op := Op.move (Operand.tmp 6), type := 3, pos := "ref.go:95", after := #[{ on := 9, ground := Ground.guard }], guard := some (9, false) }, { dst := some 25, op := Op.indexAddr 24 (Operand.tmp 23) (Operand.tmp 24), type := 0, pos := "ref.go:95", after := #[{ on := 10, ground := Ground.data }, { on := 11, ground := Ground.data }, { on := 9, ground := Ground.guard }], guard := some (9, false) }, { dst := some 26, op := Op.load 9 (Operand.tmp 25), type := 9, pos := "ref.go:95", after := #[{ on := 12, ground := Ground.data }, { on := 9, ground := Ground.guard }], guard := some (9, false) }, { dst := some 27, op := Op.call { callee := Callee.builtin Builtin.len, args := #[Operand.tmp 26], argTypes := #[9] }, type := 3, pos := "ref.go:95", after := #[{ on := 13, ground := Ground.data }, { on := 9, ground := Ground.guard }], guard := some (9, false) }, { dst := some 28, op := Op.move (Operand.tmp 0), type := 24, pos := "ref.go:95", after := #[{ on := 9, ground := Ground.guard }], guard := some (9, false) }, { dst := some 29, op := Op.move (Operand.tmp 5), type := 3, pos := "ref.go:95", after := #[{ on := 9, ground := Ground.guard }], guard := some (9, false) }, { dst := some 30, op := Op.indexAddr 24 (Operand.tmp 28) (Operand.tmp 29), type := 0, pos := "ref.go:95", after := #[{ on := 15, ground := Ground.data }, { on := 16, ground := Ground.data }, { on := 9, ground := Ground.guard }], guard := some (9, false) }, { dst := some 31, op := Op.load 9 (Operand.tmp 30), type := 9, pos := "ref.go:95", after := #[{ on := 17, ground := Ground.data }, { on := 9, ground := Ground.guard }], guard := some (9, false) }, { dst := some 32, op := Op.call { callee := Callee.builtin Builtin.len, args := #[Operand.tmp 31], argTypes := #[9] }, type := 3, pos := "ref.go:95", after := #[{ on := 18, ground := Ground.data }, { on := 9, ground := Ground.guard }], guard := some (9, false) }, { dst := some 33, op := Op.binOp BinOp.gtr 3 (Operand.tmp 27) (Operand.tmp 32) 3, type := 4, pos := "ref.go:95", after := #[{ on := 14, ground := Ground.data }, { on := 19, ground := Ground.data }, { on := 9, ground := Ground.guard }], guard := some (9, false) }, { dst := some 34, op := Op.pick (Operand.tmp 22) (Operand.const (Value.bool true)) (Operand.tmp 33), type := 4, pos := "ref.go:95", after := #[{ on := 9, ground := Ground.data }, { on := 20, ground := Ground.data }, { on := 6, ground := Ground.guard }], guard := some (6, true) }, { dst := some 35, op := Op.pick (Operand.tmp 19) (Operand.tmp 34) (Operand.const (Value.bool false)), type := 4, pos := "ref.go:95", after := #[{ on := 6, ground := Ground.data }, { on := 21, ground := Ground.data }], guard := none }] true).wp Try.prog Q { tmps := #[.slice (some ⟨b, off, none⟩) n cp, .string s, x2, x3, x4, .int .i64 (-1), .int .i64 (t : Int), x7, x8, x9, x10, x11, x12, x13, x14, x15, x16, x17, x18, x19, x20, x21, x22, x23, x24, x25, x26, x27, x28, x29, x30, x31, x32, x33, x34, x35, x36, x37], defers := ds } A := by
  refine Code.wp_mono (Q := fun x a' w' => match x with | .normal => Q .normal a' w' | _ => False) (by intro x a' w' h; cases x <;> first | exact h | exact h.elim) ?_
  obtain ⟨S, hSd⟩ : ∃ S : World → Prop, S = fun W => W.cell? ⟨b, off + t, none⟩ = some (.string x) := ⟨_, rfl⟩
  refine wp_region_held (S := S) (by kernel_rfl) ?_
  have hS : S A.drew := by rw [hSd]; exact cX
  have HC : Hid (cov x s = true) := hc
  have HNS : Hid (s.size ≤ 140737488355328) := hs
  have ht2 : t < n := by omega
  clear hc hs
  change wpAnyH Try.prog .any _ _ S 23 (Array.replicate 23 false) _ A.drew
  refine wpAnyH_take (i := 0) (oi := { dst := some 13, op := Op.move (Operand.tmp 0), type := 24, pos := "ref.go:95", after := #[], guard := none }) (v := .slice (some ⟨b, off, none⟩) n cp) rfl (by kernel_rfl) (by kernel_rfl) (by kernel_rfl) (fun _ _ _ h => h.elim) (Or.inl ⟨by rfl, ?y0⟩) hS ?_
  case y0 =>
    intro W hW
    rw [hSd] at hW; obtain s1 := hW
    go_simp
  simp only [Act.put, List.setIfInBounds_toArray, List.set_cons_zero, List.set_cons_succ]
  refine wpAnyH_take (i := 1) (oi := { dst := some 14, op := Op.move (Operand.tmp 6), type := 3, pos := "ref.go:95", after := #[], guard := none }) (v := .int .i64 (t : Int)) rfl (by kernel_rfl) (by kernel_rfl) (by kernel_rfl) (fun _ _ _ h => h.elim) (Or.inl ⟨by rfl, ?y1⟩) hS ?_
  case y1 =>
    intro W hW
    rw [hSd] at hW; obtain s1 := hW
    go_simp
  simp only [Act.put, List.setIfInBounds_toArray, List.set_cons_zero, List.set_cons_succ]
  refine wpAnyH_take (i := 2) (oi := { dst := some 15, op := Op.indexAddr 24 (Operand.tmp 13) (Operand.tmp 14), type := 0, pos := "ref.go:95", after := #[{ on := 0, ground := Ground.data }, { on := 1, ground := Ground.data }], guard := none }) (v := .pointer (some ⟨b, off + t, none⟩)) rfl (by kernel_rfl) (by kernel_rfl) (by kernel_rfl) (fun _ _ _ h => h.elim) (Or.inl ⟨by rfl, ?y2⟩) hS ?_
  case y2 =>
    intro W hW
    rw [hSd] at hW; obtain s1 := hW
    go_simp
  simp only [Act.put, List.setIfInBounds_toArray, List.set_cons_zero, List.set_cons_succ]
  refine wpAnyH_take (i := 3) (oi := { dst := some 16, op := Op.load 9 (Operand.tmp 15), type := 9, pos := "ref.go:95", after := #[{ on := 2, ground := Ground.data }], guard := none }) (v := .string x) rfl (by kernel_rfl) (by kernel_rfl) (by kernel_rfl) (fun _ _ _ h => h.elim) (Or.inl ⟨by rfl, ?y3⟩) hS ?_
  case y3 =>
    intro W hW
    rw [hSd] at hW; obtain s1 := hW
    go_simp
  simp only [Act.put, List.setIfInBounds_toArray, List.set_cons_zero, List.set_cons_succ]
  refine wpAnyH_take (i := 4) (oi := { dst := some 17, op := Op.move (Operand.tmp 1), type := 9, pos := "ref.go:95", after := #[], guard := none }) (v := .string s) rfl (by kernel_rfl) (by kernel_rfl) (by kernel_rfl) (fun _ _ _ h => h.elim) (Or.inl ⟨by rfl, ?y4⟩) hS ?_
  case y4 =>
    intro W hW
    rw [hSd] at hW; obtain s1 := hW
    go_simp
  simp only [Act.put, List.setIfInBounds_toArray, List.set_cons_zero, List.set_cons_succ]
  refine wpAnyH_ready (rs := [5]) (by kernel_rfl) (by simp) (AllReadyH.cons (i := 5) (o := { dst := some 18, op := Op.call { callee := Callee.value (Operand.func 18), args := #[Operand.tmp 16, Operand.tmp 17], argTypes := #[9, 9] }, type := 4, pos := "ref.go:95", after := #[{ on := 3, ground := Ground.data }, { on := 4, ground := Ground.data }], guard := none }) rfl ?_ AllReadyH.nil)
  intro K' hK'
  rw [if_pos (by rfl)]
  have HLV : Hid (Calls Try.prog 18 #[.string x, .string s] A.drew fun e w' => e = .returned (.bool true) ∧ Below A.drew.heap.size A.drew w') := refCovers_any x s true HC.out A.drew HNS.out
  go_wp2_with (first | (go_at_call 18; refine HLV.out.mono ?_; rintro e w9 ⟨rfl, hb9⟩))
  have HB9 : Hid (Below A.heap.size A w9) := ⟨hb9.os, hb9.tape, hb9.output, hb9.size, hb9.block⟩
  have hS9 : S w9 := by rw [hSd]; exact (HB9.out.cell (p := ⟨b, off + t, none⟩) (World.block_lt_of_cell? A _ cX)).trans cX
  clear hb9
  refine hK'.out _ _ hS9 ?_
  clear hS hK'
  intro hS
  refine wpAnyH_take (i := 6) (oi := { dst := some 19, op := Op.move (Operand.tmp 18), type := 4, pos := "ref.go:95", after := #[{ on := 5, ground := Ground.data }, { on := 5, ground := Ground.chain }], guard := none }) (v := .bool true) rfl (by kernel_rfl) (by kernel_rfl) (by kernel_rfl) (fun _ _ _ h => h.elim) (Or.inl ⟨by rfl, ?y6⟩) hS ?_
  case y6 =>
    intro W hW
    rw [hSd] at hW; obtain s1 := hW
    go_simp
  simp only [Act.put, List.setIfInBounds_toArray, List.set_cons_zero, List.set_cons_succ]
  refine wpAnyH_take (i := 7) (oi := { dst := some 20, op := Op.move (Operand.tmp 5), type := 3, pos := "ref.go:95", after := #[{ on := 6, ground := Ground.guard }], guard := some (6, true) }) (v := .int .i64 (-1)) rfl (by kernel_rfl) (by kernel_rfl) (by kernel_rfl) (fun _ _ _ h => h.elim) (Or.inl ⟨by rfl, ?y7⟩) hS ?_
  case y7 =>
    intro W hW
    rw [hSd] at hW; obtain s1 := hW
    go_simp
  simp only [Act.put, List.setIfInBounds_toArray, List.set_cons_zero, List.set_cons_succ]
  refine wpAnyH_take (i := 8) (oi := { dst := some 21, op := Op.binOp BinOp.lss 3 (Operand.tmp 20) (Operand.const (Value.int IntKind.i64 0)) 3, type := 4, pos := "ref.go:95", after := #[{ on := 7, ground := Ground.data }, { on := 6, ground := Ground.guard }], guard := some (6, true) }) (v := .bool true) rfl (by kernel_rfl) (by kernel_rfl) (by kernel_rfl) (fun _ _ _ h => h.elim) (Or.inl ⟨by rfl, ?y8⟩) hS ?_
  case y8 =>
    intro W hW
    rw [hSd] at hW; obtain s1 := hW
    go_simp
  simp only [Act.put, List.setIfInBounds_toArray, List.set_cons_zero, List.set_cons_succ]
  refine wpAnyH_take (i := 9) (oi := { dst := some 22, op := Op.move (Operand.tmp 21), type := 4, pos := "ref.go:95", after := #[{ on := 8, ground := Ground.data }, { on := 6, ground := Ground.chain }, { on := 6, ground := Ground.guard }], guard := some (6, true) }) (v := .bool true) rfl (by kernel_rfl) (by kernel_rfl) (by kernel_rfl) (fun _ _ _ h => h.elim) (Or.inl ⟨by rfl, ?y9⟩) hS ?_
  case y9 =>
    intro W hW
    rw [hSd] at hW; obtain s1 := hW
    go_simp
  simp only [Act.put, List.setIfInBounds_toArray, List.set_cons_zero, List.set_cons_succ]
  refine wpAnyH_take (i := 10) (oi := { dst := some 23, op := Op.move (Operand.tmp 0), type := 24, pos := "ref.go:95", after := #[{ on := 9, ground := Ground.guard }], guard := some (9, false) }) (v := undef) rfl (by kernel_rfl) (by kernel_rfl) (by kernel_rfl) (fun _ _ _ h => h.elim) (Or.inr ⟨by rfl, rfl⟩) hS ?_
  simp only [Act.put, List.setIfInBounds_toArray, List.set_cons_zero, List.set_cons_succ]
  refine wpAnyH_take (i := 11) (oi := { dst := some 24, op := Op.move (Operand.tmp 6), type := 3, pos := "ref.go:95", after := #[{ on := 9, ground := Ground.guard }], guard := some (9, false) }) (v := undef) rfl (by kernel_rfl) (by kernel_rfl) (by kernel_rfl) (fun _ _ _ h => h.elim) (Or.inr ⟨by rfl, rfl⟩) hS ?_
  simp only [Act.put, List.setIfInBounds_toArray, List.set_cons_zero, List.set_cons_succ]
  refine wpAnyH_take (i := 12) (oi := { dst := some 25, op := Op.indexAddr 24 (Operand.tmp 23) (Operand.tmp 24), type := 0, pos := "ref.go:95", after := #[{ on := 10, ground := Ground.data }, { on := 11, ground := Ground.data }, { on := 9, ground := Ground.guard }], guard := some (9, false) }) (v := undef) rfl (by kernel_rfl) (by kernel_rfl) (by kernel_rfl) (fun _ _ _ h => h.elim) (Or.inr ⟨by rfl, rfl⟩) hS ?_
  simp only [Act.put, List.setIfInBounds_toArray, List.set_cons_zero, List.set_cons_succ]
  refine wpAnyH_take (i := 13) (oi := { dst := some 26, op := Op.load 9 (Operand.tmp 25), type := 9, pos := "ref.go:95", after := #[{ on := 12, ground := Ground.data }, { on := 9, ground := Ground.guard }], guard := some (9, false) }) (v := undef) rfl (by kernel_rfl) (by kernel_rfl) (by kernel_rfl) (fun _ _ _ h => h.elim) (Or.inr ⟨by rfl, rfl⟩) hS ?_
  simp only [Act.put, List.setIfInBounds_toArray, List.set_cons_zero, List.set_cons_succ]
  refine wpAnyH_take (i := 14) (oi := { dst := some 27, op := Op.call { callee := Callee.builtin Builtin.len, args := #[Operand.tmp 26], argTypes := #[9] }, type := 3, pos := "ref.go:95", after := #[{ on := 13, ground := Ground.data }, { on := 9, ground := Ground.guard }], guard := some (9, false) }) (v := undef) rfl (by kernel_rfl) (by kernel_rfl) (by kernel_rfl) (fun _ _ _ h => h.elim) (Or.inr ⟨by rfl, rfl⟩) hS ?_
  simp only [Act.put, List.setIfInBounds_toArray, List.set_cons_zero, List.set_cons_succ]
  refine wpAnyH_take (i := 15) (oi := { dst := some 28, op := Op.move (Operand.tmp 0), type := 24, pos := "ref.go:95", after := #[{ on := 9, ground := Ground.guard }], guard := some (9, false) }) (v := undef) rfl (by kernel_rfl) (by kernel_rfl) (by kernel_rfl) (fun _ _ _ h => h.elim) (Or.inr ⟨by rfl, rfl⟩) hS ?_
  simp only [Act.put, List.setIfInBounds_toArray, List.set_cons_zero, List.set_cons_succ]
  refine wpAnyH_take (i := 16) (oi := { dst := some 29, op := Op.move (Operand.tmp 5), type := 3, pos := "ref.go:95", after := #[{ on := 9, ground := Ground.guard }], guard := some (9, false) }) (v := undef) rfl (by kernel_rfl) (by kernel_rfl) (by kernel_rfl) (fun _ _ _ h => h.elim) (Or.inr ⟨by rfl, rfl⟩) hS ?_
  simp only [Act.put, List.setIfInBounds_toArray, List.set_cons_zero, List.set_cons_succ]
  refine wpAnyH_take (i := 17) (oi := { dst := some 30, op := Op.indexAddr 24 (Operand.tmp 28) (Operand.tmp 29), type := 0, pos := "ref.go:95", after := #[{ on := 15, ground := Ground.data }, { on := 16, ground := Ground.data }, { on := 9, ground := Ground.guard }], guard := some (9, false) }) (v := undef) rfl (by kernel_rfl) (by kernel_rfl) (by kernel_rfl) (fun _ _ _ h => h.elim) (Or.inr ⟨by rfl, rfl⟩) hS ?_
  simp only [Act.put, List.setIfInBounds_toArray, List.set_cons_zero, List.set_cons_succ]
  refine wpAnyH_take (i := 18) (oi := { dst := some 31, op := Op.load 9 (Operand.tmp 30), type := 9, pos := "ref.go:95", after := #[{ on := 17, ground := Ground.data }, { on := 9, ground := Ground.guard }], guard := some (9, false) }) (v := undef) rfl (by kernel_rfl) (by kernel_rfl) (by kernel_rfl) (fun _ _ _ h => h.elim) (Or.inr ⟨by rfl, rfl⟩) hS ?_
  simp only [Act.put, List.setIfInBounds_toArray, List.set_cons_zero, List.set_cons_succ]
  refine wpAnyH_take (i := 19) (oi := { dst := some 32, op := Op.call { callee := Callee.builtin Builtin.len, args := #[Operand.tmp 31], argTypes := #[9] }, type := 3, pos := "ref.go:95", after := #[{ on := 18, ground := Ground.data }, { on := 9, ground := Ground.guard }], guard := some (9, false) }) (v := undef) rfl (by kernel_rfl) (by kernel_rfl) (by kernel_rfl) (fun _ _ _ h => h.elim) (Or.inr ⟨by rfl, rfl⟩) hS ?_
  simp only [Act.put, List.setIfInBounds_toArray, List.set_cons_zero, List.set_cons_succ]
  refine wpAnyH_take (i := 20) (oi := { dst := some 33, op := Op.binOp BinOp.gtr 3 (Operand.tmp 27) (Operand.tmp 32) 3, type := 4, pos := "ref.go:95", after := #[{ on := 14, ground := Ground.data }, { on := 19, ground := Ground.data }, { on := 9, ground := Ground.guard }], guard := some (9, false) }) (v := undef) rfl (by kernel_rfl) (by kernel_rfl) (by kernel_rfl) (fun _ _ _ h => h.elim) (Or.inr ⟨by rfl, rfl⟩) hS ?_
  simp only [Act.put, List.setIfInBounds_toArray, List.set_cons_zero, List.set_cons_succ]
  refine wpAnyH_take (i := 21) (oi := { dst := some 34, op := Op.pick (Operand.tmp 22) (Operand.const (Value.bool true)) (Operand.tmp 33), type := 4, pos := "ref.go:95", after := #[{ on := 9, ground := Ground.data }, { on := 20, ground := Ground.data }, { on := 6, ground := Ground.guard }], guard := some (6, true) }) (v := .bool true) rfl (by kernel_rfl) (by kernel_rfl) (by kernel_rfl) (fun _ _ _ h => h.elim) (Or.inl ⟨by rfl, ?y21⟩) hS ?_
  case y21 =>
    intro W hW
    rw [hSd] at hW; obtain s1 := hW
    go_simp
  simp only [Act.put, List.setIfInBounds_toArray, List.set_cons_zero, List.set_cons_succ]
  refine wpAnyH_take (i := 22) (oi := { dst := some 35, op := Op.pick (Operand.tmp 19) (Operand.tmp 34) (Operand.const (Value.bool false)), type := 4, pos := "ref.go:95", after := #[{ on := 6, ground := Ground.data }, { on := 21, ground := Ground.data }], guard := none }) (v := .bool true) rfl (by kernel_rfl) (by kernel_rfl) (by kernel_rfl) (fun _ _ _ h => h.elim) (Or.inl ⟨by rfl, ?y22⟩) hS ?_
  case y22 =>
    intro W hW
    rw [hSd] at hW; obtain s1 := hW
    go_simp
  simp only [Act.put, List.setIfInBounds_toArray, List.set_cons_zero, List.set_cons_succ]
  refine wpAnyH_done (by kernel_rfl) ?_ _
  exact hQ _ HB9.out
#print axioms lr_first
set_option maxRecDepth 100000 in
set_option maxHeartbeats 2000000 in
theorem lr_next {Q : Exit → Act → World → Prop} {x2 x3 x4 x7 x8 x9 x10 x11 x12 x13 x14 x15 x16 x17 x18 x19 x20 x21 x22 x23 x24 x25 x26 x27 x28 x29 x30 x31 x32 x33 x34 x35 x36 x37 : Value} {ds : List Deferred} {A : World} {b off n cp t k : Nat} {s x y : ByteArray} {G : Bool}
    (cX : A.cell? ⟨b, off + t, none⟩ = some (.string x)) (hc : cov x s = true) (hs : s.size ≤ 140737488355328) (ht : (t : Int) < (n : Int)) (cY : A.cell? ⟨b, off + k, none⟩ = some (.string y)) (hk : (k : Int) < (n : Int)) (hG : decide ((y.size : Int) < (x.size : Int)) = G)
    (hQ : ∀ w9, Below A.heap.size A w9 → Q .normal { tmps := #[.slice (some ⟨b, off, none⟩) n cp, .string s, x2, x3, x4, .int .i64 (k : Int), .int .i64 (t : Int), x7, x8, x9, x10, x11, x12, .slice (some ⟨b, off, none⟩) n cp, .int .i64 (t : Int), .pointer (some ⟨b, off + t, none⟩), .string x, .string s, .bool true, .bool true, .int .i64 (k : Int), .bool false, .bool false, .slice (some ⟨b, off, none⟩) n cp, .int .i64 (t : Int), .pointer (some ⟨b, off + t, none⟩), .string x, .int .i64 (x.size : Int), .slice (some ⟨b, off, none⟩) n cp, .int .i64 (k : Int), .pointer (some ⟨b, off + k, none⟩), .string y, .int .i64 (y.size : Int), .bool G, .bool G, .bool G, x36, x37], defers := ds } w9) :
    (Code.region 5 #[{ dst := some 13, op := Op.move (Operand.tmp 0), type := 24, pos := "ref.go:95", after := #[], guard := none }, { dst := some 14, op := Op.move (Operand.tmp 6), type := 3, pos := "ref.go:95", after := #[], guard := none }, { dst := some 15, op := Op.indexAddr 24 (Operand.tmp 13) (Operand.tmp 14), type := 0, pos := "ref.go:95", after := #[{ on := 0, ground := Ground.data }, { on := 1, ground := Ground.data }], guard := none }, { dst := some 16, op := Op.load 9 (Operand.tmp 15), type := 9, pos := "ref.go:95", after := #[{ on := 2, ground := Ground.data }], guard := none }, { dst := some 17, op := Op.move (Operand.tmp 1), type := 9, pos := "ref.go:95", after := #[], guard := none }, { dst := some 18, op := Op.call { callee := Callee.value (Operand.func 18), args := #[Operand.tmp 16, Operand.tmp 17], argTypes := #[9, 9] }, type := 4, pos := "ref.go:95", after := #[{ on := 3, ground := Ground.data }, { on := 4, ground := Ground.data }], guard := none }, { dst := some 19, op := Op.move (Operand.tmp 18), type := 4, pos := "ref.go:95", after := #[{ on := 5, ground := Ground.data }, { on := 5, ground := Ground.chain }], guard := none }, { dst := some 20, op := Op.move (Operand.tmp 5), type := 3, pos := "ref.go:95", after := #[{ on := 6, ground := Ground.guard }], guard := some (6, true) }, { dst := some 21, op := Op.binOp BinOp.lss 3 (Operand.tmp 20) (Operand.const (Value.int IntKind.i64 0)) 3, type := 4, pos := "ref.go:95", after := #[{ on := 7, ground := Ground.data }, { on := 6, ground := Ground.guard }], guard := some (6, true) }, { dst := some 22, op := Op.move (Operand.tmp 21), type := 4, pos := "ref.go:95", after := #[{ on := 8, ground := Ground.data }, { on := 6, ground := Ground.chain }, { on := 6, ground := Ground.guard }], guard := some (6, true) }, { dst := some 23, op := Op.move (Operand.tmp 0), type := 24, pos := "ref.go:95", after := #[{ on := 9, ground := Ground.guard }], guard := some (9, false) }, { dst := some 24, op := Op.move (Operand.tmp 6), type := 3, pos := "ref.go:95", after := #[{ on := 9, ground := Ground.guard }], guard := some (9, false) }, { dst := some 25, op := Op.indexAddr 24 (Operand.tmp 23) (Operand.tmp 24), type := 0, pos := "ref.go:95", after := #[{ on := 10, ground := Ground.data }, { on := 11, ground := Ground.data }, { on := 9, ground := Ground.guard }], guard := some (9, false) }, { dst := some 26, op := Op.load 9 (Operand.tmp 25), type := 9, pos := "ref.go:95", after := #[{ on := 12, ground := Ground.data }, { on := 9, ground := Ground.guard }], guard := some (9, false) }, { dst := some 27, op := Op.call { callee := Callee.builtin Builtin.len, args := #[Operand.tmp 26], argTypes := #[9] }, type := 3, pos := "ref.go:95", after := #[{ on := 13, ground := Ground.data }, { on := 9, ground := Ground.guard }], guard := some (9, false) }, { dst := some 28, op := Op.move (Operand.tmp 0), type := 24, pos := "ref.go:95", after := #[{ on := 9, ground := Ground.guard }], guard := some (9, false) }, { dst := some 29, op := Op.move (Operand.tmp 5), type := 3, pos := "ref.go:95", after := #[{ on := 9, ground := Ground.guard }], guard := some (9, false) }, { dst := some 30, op := Op.indexAddr 24 (Operand.tmp 28) (Operand.tmp 29), type := 0, pos := "ref.go:95", after := #[{ on := 15, ground := Ground.data }, { on := 16, ground := Ground.data }, { on := 9, ground := Ground.guard }], guard := some (9, false) }, { dst := some 31, op := Op.load 9 (Operand.tmp 30), type := 9, pos := "ref.go:95", after := #[{ on := 17, ground := Ground.data }, { on := 9, ground := Ground.guard }], guard := some (9, false) }, { dst := some 32, op := Op.call { callee := Callee.builtin Builtin.len, args := #[Operand.tmp 31], argTypes := #[9] }, type := 3, pos := "ref.go:95", after := #[{ on := 18, ground := Ground.data }, { on := 9, ground := Ground.guard }], guard := some (9, false) }, { dst := some 33, op := Op.binOp BinOp.gtr 3 (Operand.tmp 27) (Operand.tmp 32) 3, type := 4, pos := "ref.go:95", after := #[{ on := 14, ground := Ground.data }, { on := 19, ground := Ground.data }, { on := 9, ground := Ground.guard }], guard := some (9, false) }, { dst := some 34, op := Op.pick (Operand.tmp 22) (Operand.const (Value.bool true)) (Operand.tmp 33), type := 4, pos := "ref.go:95", after := #[{ on := 9, ground := Ground.data }, { on := 20, ground := Ground.data }, { on := 6, ground := Ground.guard }], guard := some (6, true) }, { dst := some 35, op := Op.pick (Operand.tmp 19) (Operand.tmp 34) (Operand.const (Value.bool false)), type := 4, pos := "ref.go:95", after := #[{ on := 6, ground := Ground.data }, { on := 21, ground := Ground.data }], guard := none }] true).wp Try.prog Q { tmps := #[.slice (some ⟨b, off, none⟩) n cp, .string s, x2, x3, x4, .int .i64 (k : Int), .int .i64 (t : Int), x7, x8, x9, x10, x11, x12, x13, x14, x15, x16, x17, x18, x19, x20, x21, x22, x23, x24, x25, x26, x27, x28, x29, x30, x31, x32, x33, x34, x35, x36, x37], defers := ds } A := by
  refine Code.wp_mono (Q := fun x a' w' => match x with | .normal => Q .normal a' w' | _ => False) (by intro x a' w' h; cases x <;> first | exact h | exact h.elim) ?_
  obtain ⟨S, hSd⟩ : ∃ S : World → Prop, S = fun W => W.cell? ⟨b, off + t, none⟩ = some (.string x) ∧ W.cell? ⟨b, off + k, none⟩ = some (.string y) := ⟨_, rfl⟩
  refine wp_region_held (S := S) (by kernel_rfl) ?_
  have hS : S A.drew := by rw [hSd]; exact ⟨cX, cY⟩
  have HC : Hid (cov x s = true) := hc
  have HNS : Hid (s.size ≤ 140737488355328) := hs
  have ht2 : t < n := by omega
  have hk2 : k < n := by omega
  have hk0 : ¬ (k : Int) < 0 := by omega
  clear hc hs
  change wpAnyH Try.prog .any _ _ S 23 (Array.replicate 23 false) _ A.drew
  refine wpAnyH_take (i := 0) (oi := { dst := some 13, op := Op.move (Operand.tmp 0), type := 24, pos := "ref.go:95", after := #[], guard := none }) (v := .slice (some ⟨b, off, none⟩) n cp) rfl (by kernel_rfl) (by kernel_rfl) (by kernel_rfl) (fun _ _ _ h => h.elim) (Or.inl ⟨by rfl, ?y0⟩) hS ?_
  case y0 =>
    intro W hW
    rw [hSd] at hW; obtain ⟨s1, s2⟩ := hW
    go_simp
  simp only [Act.put, List.setIfInBounds_toArray, List.set_cons_zero, List.set_cons_succ]
  refine wpAnyH_take (i := 1) (oi := { dst := some 14, op := Op.move (Operand.tmp 6), type := 3, pos := "ref.go:95", after := #[], guard := none }) (v := .int .i64 (t : Int)) rfl (by kernel_rfl) (by kernel_rfl) (by kernel_rfl) (fun _ _ _ h => h.elim) (Or.inl ⟨by rfl, ?y1⟩) hS ?_
  case y1 =>
    intro W hW
    rw [hSd] at hW; obtain ⟨s1, s2⟩ := hW
    go_simp
  simp only [Act.put, List.setIfInBounds_toArray, List.set_cons_zero, List.set_cons_succ]
  refine wpAnyH_take (i := 2) (oi := { dst := some 15, op := Op.indexAddr 24 (Operand.tmp 13) (Operand.tmp 14), type := 0, pos := "ref.go:95", after := #[{ on := 0, ground := Ground.data }, { on := 1, ground := Ground.data }], guard := none }) (v := .pointer (some ⟨b, off + t, none⟩)) rfl (by kernel_rfl) (by kernel_rfl) (by kernel_rfl) (fun _ _ _ h => h.elim) (Or.inl ⟨by rfl, ?y2⟩) hS ?_
  case y2 =>
    intro W hW
    rw [hSd] at hW; obtain ⟨s1, s2⟩ := hW
    go_simp
  simp only [Act.put, List.setIfInBounds_toArray, List.set_cons_zero, List.set_cons_succ]
  refine wpAnyH_take (i := 3) (oi := { dst := some 16, op := Op.load 9 (Operand.tmp 15), type := 9, pos := "ref.go:95", after := #[{ on := 2, ground := Ground.data }], guard := none }) (v := .string x) rfl (by kernel_rfl) (by kernel_rfl) (by kernel_rfl) (fun _ _ _ h => h.elim) (Or.inl ⟨by rfl, ?y3⟩) hS ?_
  case y3 =>
    intro W hW
    rw [hSd] at hW; obtain ⟨s1, s2⟩ := hW
    go_simp
  simp only [Act.put, List.setIfInBounds_toArray, List.set_cons_zero, List.set_cons_succ]
  refine wpAnyH_take (i := 4) (oi := { dst := some 17, op := Op.move (Operand.tmp 1), type := 9, pos := "ref.go:95", after := #[], guard := none }) (v := .string s) rfl (by kernel_rfl) (by kernel_rfl) (by kernel_rfl) (fun _ _ _ h => h.elim) (Or.inl ⟨by rfl, ?y4⟩) hS ?_
  case y4 =>
    intro W hW
    rw [hSd] at hW; obtain ⟨s1, s2⟩ := hW
    go_simp
  simp only [Act.put, List.setIfInBounds_toArray, List.set_cons_zero, List.set_cons_succ]
  refine wpAnyH_ready (rs := [5]) (by kernel_rfl) (by simp) (AllReadyH.cons (i := 5) (o := { dst := some 18, op := Op.call { callee := Callee.value (Operand.func 18), args := #[Operand.tmp 16, Operand.tmp 17], argTypes := #[9, 9] }, type := 4, pos := "ref.go:95", after := #[{ on := 3, ground := Ground.data }, { on := 4, ground := Ground.data }], guard := none }) rfl ?_ AllReadyH.nil)
  intro K' hK'
  rw [if_pos (by rfl)]
  have HLV : Hid (Calls Try.prog 18 #[.string x, .string s] A.drew fun e w' => e = .returned (.bool true) ∧ Below A.drew.heap.size A.drew w') := refCovers_any x s true HC.out A.drew HNS.out
  go_wp2_with (first | (go_at_call 18; refine HLV.out.mono ?_; rintro e w9 ⟨rfl, hb9⟩))
  have HB9 : Hid (Below A.heap.size A w9) := ⟨hb9.os, hb9.tape, hb9.output, hb9.size, hb9.block⟩
  have hS9 : S w9 := by rw [hSd]; exact ⟨(HB9.out.cell (p := ⟨b, off + t, none⟩) (World.block_lt_of_cell? A _ cX)).trans cX, (HB9.out.cell (p := ⟨b, off + k, none⟩) (World.block_lt_of_cell? A _ cY)).trans cY⟩
  clear hb9
  refine hK'.out _ _ hS9 ?_
  clear hS hK'
  intro hS
  refine wpAnyH_take (i := 6) (oi := { dst := some 19, op := Op.move (Operand.tmp 18), type := 4, pos := "ref.go:95", after := #[{ on := 5, ground := Ground.data }, { on := 5, ground := Ground.chain }], guard := none }) (v := .bool true) rfl (by kernel_rfl) (by kernel_rfl) (by kernel_rfl) (fun _ _ _ h => h.elim) (Or.inl ⟨by rfl, ?y6⟩) hS ?_
  case y6 =>
    intro W hW
    rw [hSd] at hW; obtain ⟨s1, s2⟩ := hW
    go_simp
  simp only [Act.put, List.setIfInBounds_toArray, List.set_cons_zero, List.set_cons_succ]
  refine wpAnyH_take (i := 7) (oi := { dst := some 20, op := Op.move (Operand.tmp 5), type := 3, pos := "ref.go:95", after := #[{ on := 6, ground := Ground.guard }], guard := some (6, true) }) (v := .int .i64 (k : Int)) rfl (by kernel_rfl) (by kernel_rfl) (by kernel_rfl) (fun _ _ _ h => h.elim) (Or.inl ⟨by rfl, ?y7⟩) hS ?_
  case y7 =>
    intro W hW
    rw [hSd] at hW; obtain ⟨s1, s2⟩ := hW
    go_simp
  simp only [Act.put, List.setIfInBounds_toArray, List.set_cons_zero, List.set_cons_succ]
  refine wpAnyH_take (i := 8) (oi := { dst := some 21, op := Op.binOp BinOp.lss 3 (Operand.tmp 20) (Operand.const (Value.int IntKind.i64 0)) 3, type := 4, pos := "ref.go:95", after := #[{ on := 7, ground := Ground.data }, { on := 6, ground := Ground.guard }], guard := some (6, true) }) (v := .bool false) rfl (by kernel_rfl) (by kernel_rfl) (by kernel_rfl) (fun _ _ _ h => h.elim) (Or.inl ⟨by rfl, ?y8⟩) hS ?_
  case y8 =>
    intro W hW
    rw [hSd] at hW; obtain ⟨s1, s2⟩ := hW
    go_simp
  simp only [Act.put, List.setIfInBounds_toArray, List.set_cons_zero, List.set_cons_succ]
  refine wpAnyH_take (i := 9) (oi := { dst := some 22, op := Op.move (Operand.tmp 21), type := 4, pos := "ref.go:95", after := #[{ on := 8, ground := Ground.data }, { on := 6, ground := Ground.chain }, { on := 6, ground := Ground.guard }], guard := some (6, true) }) (v := .bool false) rfl (by kernel_rfl) (by kernel_rfl) (by kernel_rfl) (fun _ _ _ h => h.elim) (Or.inl ⟨by rfl, ?y9⟩) hS ?_
  case y9 =>
    intro W hW
    rw [hSd] at hW; obtain ⟨s1, s2⟩ := hW
    go_simp
  simp only [Act.put, List.setIfInBounds_toArray, List.set_cons_zero, List.set_cons_succ]
  refine wpAnyH_take (i := 10) (oi := { dst := some 23, op := Op.move (Operand.tmp 0), type := 24, pos := "ref.go:95", after := #[{ on := 9, ground := Ground.guard }], guard := some (9, false) }) (v := .slice (some ⟨b, off, none⟩) n cp) rfl (by kernel_rfl) (by kernel_rfl) (by kernel_rfl) (fun _ _ _ h => h.elim) (Or.inl ⟨by rfl, ?y10⟩) hS ?_
  case y10 =>
    intro W hW
    rw [hSd] at hW; obtain ⟨s1, s2⟩ := hW
    go_simp
  simp only [Act.put, List.setIfInBounds_toArray, List.set_cons_zero, List.set_cons_succ]
  refine wpAnyH_take (i := 11) (oi := { dst := some 24, op := Op.move (Operand.tmp 6), type := 3, pos := "ref.go:95", after := #[{ on := 9, ground := Ground.guard }], guard := some (9, false) }) (v := .int .i64 (t : Int)) rfl (by kernel_rfl) (by kernel_rfl) (by kernel_rfl) (fun _ _ _ h => h.elim) (Or.inl ⟨by rfl, ?y11⟩) hS ?_
  case y11 =>
    intro W hW
    rw [hSd] at hW; obtain ⟨s1, s2⟩ := hW
    go_simp
  simp only [Act.put, List.setIfInBounds_toArray, List.set_cons_zero, List.set_cons_succ]
  refine wpAnyH_take (i := 12) (oi := { dst := some 25, op := Op.indexAddr 24 (Operand.tmp 23) (Operand.tmp 24), type := 0, pos := "ref.go:95", after := #[{ on := 10, ground := Ground.data }, { on := 11, ground := Ground.data }, { on := 9, ground := Ground.guard }], guard := some (9, false) }) (v := .pointer (some ⟨b, off + t, none⟩)) rfl (by kernel_rfl) (by kernel_rfl) (by kernel_rfl) (fun _ _ _ h => h.elim) (Or.inl ⟨by rfl, ?y12⟩) hS ?_
  case y12 =>
    intro W hW
    rw [hSd] at hW; obtain ⟨s1, s2⟩ := hW
    go_simp
  simp only [Act.put, List.setIfInBounds_toArray, List.set_cons_zero, List.set_cons_succ]
  refine wpAnyH_take (i := 13) (oi := { dst := some 26, op := Op.load 9 (Operand.tmp 25), type := 9, pos := "ref.go:95", after := #[{ on := 12, ground := Ground.data }, { on := 9, ground := Ground.guard }], guard := some (9, false) }) (v := .string x) rfl (by kernel_rfl) (by kernel_rfl) (by kernel_rfl) (fun _ _ _ h => h.elim) (Or.inl ⟨by rfl, ?y13⟩) hS ?_
  case y13 =>
    intro W hW
    rw [hSd] at hW; obtain ⟨s1, s2⟩ := hW
    go_simp
  simp only [Act.put, List.setIfInBounds_toArray, List.set_cons_zero, List.set_cons_succ]
  refine wpAnyH_take (i := 14) (oi := { dst := some 27, op := Op.call { callee := Callee.builtin Builtin.len, args := #[Operand.tmp 26], argTypes := #[9] }, type := 3, pos := "ref.go:95", after := #[{ on := 13, ground := Ground.data }, { on := 9, ground := Ground.guard }], guard := some (9, false) }) (v := .int .i64 (x.size : Int)) rfl (by kernel_rfl) (by kernel_rfl) (by kernel_rfl) (fun _ _ _ h => h.elim) (Or.inl ⟨by rfl, ?y14⟩) hS ?_
  case y14 =>
    intro W hW
    rw [hSd] at hW; obtain ⟨s1, s2⟩ := hW
    go_simp
  simp only [Act.put, List.setIfInBounds_toArray, List.set_cons_zero, List.set_cons_succ]
  refine wpAnyH_take (i := 15) (oi := { dst := some 28, op := Op.move (Operand.tmp 0), type := 24, pos := "ref.go:95", after := #[{ on := 9, ground := Ground.guard }], guard := some (9, false) }) (v := .slice (some ⟨b, off, none⟩) n cp) rfl (by kernel_rfl) (by kernel_rfl) (by kernel_rfl) (fun _ _ _ h => h.elim) (Or.inl ⟨by rfl, ?y15⟩) hS ?_
  case y15 =>
    intro W hW
    rw [hSd] at hW; obtain ⟨s1, s2⟩ := hW
    go_simp
  simp only [Act.put, List.setIfInBounds_toArray, List.set_cons_zero, List.set_cons_succ]
  refine wpAnyH_take (i := 16) (oi := { dst := some 29, op := Op.move (Operand.tmp 5), type := 3, pos := "ref.go:95", after := #[{ on := 9, ground := Ground.guard }], guard := some (9, false) }) (v := .int .i64 (k : Int)) rfl (by kernel_rfl) (by kernel_rfl) (by kernel_rfl) (fun _ _ _ h => h.elim) (Or.inl ⟨by rfl, ?y16⟩) hS ?_
  case y16 =>
    intro W hW
    rw [hSd] at hW; obtain ⟨s1, s2⟩ := hW
    go_simp
  simp only [Act.put, List.setIfInBounds_toArray, List.set_cons_zero, List.set_cons_succ]
  refine wpAnyH_take (i := 17) (oi := { dst := some 30, op := Op.indexAddr 24 (Operand.tmp 28) (Operand.tmp 29), type := 0, pos := "ref.go:95", after := #[{ on := 15, ground := Ground.data }, { on := 16, ground := Ground.data }, { on := 9, ground := Ground.guard }], guard := some (9, false) }) (v := .pointer (some ⟨b, off + k, none⟩)) rfl (by kernel_rfl) (by kernel_rfl) (by kernel_rfl) (fun _ _ _ h => h.elim) (Or.inl ⟨by rfl, ?y17⟩) hS ?_
  case y17 =>
    intro W hW
    rw [hSd] at hW; obtain ⟨s1, s2⟩ := hW
    go_simp
  simp only [Act.put, List.setIfInBounds_toArray, List.set_cons_zero, List.set_cons_succ]
  refine wpAnyH_take (i := 18) (oi := { dst := some 31, op := Op.load 9 (Operand.tmp 30), type := 9, pos := "ref.go:95", after := #[{ on := 17, ground := Ground.data }, { on := 9, ground := Ground.guard }], guard := some (9, false) }) (v := .string y) rfl (by kernel_rfl) (by kernel_rfl) (by kernel_rfl) (fun _ _ _ h => h.elim) (Or.inl ⟨by rfl, ?y18⟩) hS ?_
  case y18 =>
    intro W hW
    rw [hSd] at hW; obtain ⟨s1, s2⟩ := hW
    go_simp
  simp only [Act.put, List.setIfInBounds_toArray, List.set_cons_zero, List.set_cons_succ]
  refine wpAnyH_take (i := 19) (oi := { dst := some 32, op := Op.call { callee := Callee.builtin Builtin.len, args := #[Operand.tmp 31], argTypes := #[9] }, type := 3, pos := "ref.go:95", after := #[{ on := 18, ground := Ground.data }, { on := 9, ground := Ground.guard }], guard := some (9, false) }) (v := .int .i64 (y.size : Int)) rfl (by kernel_rfl) (by kernel_rfl) (by kernel_rfl) (fun _ _ _ h => h.elim) (Or.inl ⟨by rfl, ?y19⟩) hS ?_
  case y19 =>
    intro W hW
    rw [hSd] at hW; obtain ⟨s1, s2⟩ := hW
    go_simp
  simp only [Act.put, List.setIfInBounds_toArray, List.set_cons_zero, List.set_cons_succ]
  refine wpAnyH_take (i := 20) (oi := { dst := some 33, op := Op.binOp BinOp.gtr 3 (Operand.tmp 27) (Operand.tmp 32) 3, type := 4, pos := "ref.go:95", after := #[{ on := 14, ground := Ground.data }, { on := 19, ground := Ground.data }, { on := 9, ground := Ground.guard }], guard := some (9, false) }) (v := .bool G) rfl (by kernel_rfl) (by kernel_rfl) (by kernel_rfl) (fun _ _ _ h => h.elim) (Or.inl ⟨by rfl, ?y20⟩) hS ?_
  case y20 =>
    intro W hW
    rw [hSd] at hW; obtain ⟨s1, s2⟩ := hW
    (first | (go_simp; done) | (go_simp; rw [← hG]; rfl) | (subst hG; go_simp))
  simp only [Act.put, List.setIfInBounds_toArray, List.set_cons_zero, List.set_cons_succ]
  refine wpAnyH_take (i := 21) (oi := { dst := some 34, op := Op.pick (Operand.tmp 22) (Operand.const (Value.bool true)) (Operand.tmp 33), type := 4, pos := "ref.go:95", after := #[{ on := 9, ground := Ground.data }, { on := 20, ground := Ground.data }, { on := 6, ground := Ground.guard }], guard := some (6, true) }) (v := .bool G) rfl (by kernel_rfl) (by kernel_rfl) (by kernel_rfl) (fun _ _ _ h => h.elim) (Or.inl ⟨by rfl, ?y21⟩) hS ?_
  case y21 =>
    intro W hW
    rw [hSd] at hW; obtain ⟨s1, s2⟩ := hW
    go_simp
  simp only [Act.put, List.setIfInBounds_toArray, List.set_cons_zero, List.set_cons_succ]
  refine wpAnyH_take (i := 22) (oi := { dst := some 35, op := Op.pick (Operand.tmp 19) (Operand.tmp 34) (Operand.const (Value.bool false)), type := 4, pos := "ref.go:95", after := #[{ on := 6, ground := Ground.data }, { on := 21, ground := Ground.data }], guard := none }) (v := .bool G) rfl (by kernel_rfl) (by kernel_rfl) (by kernel_rfl) (fun _ _ _ h => h.elim) (Or.inl ⟨by rfl, ?y22⟩) hS ?_
  case y22 =>
    intro W hW
    rw [hSd] at hW; obtain ⟨s1, s2⟩ := hW
    go_simp
  simp only [Act.put, List.setIfInBounds_toArray, List.set_cons_zero, List.set_cons_succ]
  refine wpAnyH_done (by kernel_rfl) ?_ _
  exact hQ _ HB9.out
#print axioms lr_next
end Go.Proofs.Ythhdogokigpieaa.Oct
