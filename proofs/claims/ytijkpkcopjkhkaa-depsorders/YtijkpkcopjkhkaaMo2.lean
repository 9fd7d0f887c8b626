/-
  Layer 12 (deps): the reference: With: its conditions, whatever their order.
  Layer 12 (deps): slices.SortFunc as this program bears it: the body of which the library's contract was proved.
  Layer 12 (deps): bytes.Compare of two hashes; their order.
  Layer 12 (deps): the comparison that the sort is handed: its one statement, whatever its order.
  Layer 12 (deps): the order of hashes; the comparison that the sort is handed.
  Layer 12 (deps): hashes put in order.
  Layer 12 (deps): a set's hashes in order.
  Layer 12 (deps): what steps lead to; plain facts.
  Layer 12 (deps): what steps lead to.
  Layer 12 (deps): Needs and Above: their last statements, whatever their order.
  Layer 12 (deps): Needs and Above.
  Layer 12 (deps): the reference: With.
  Layer 12 (deps): Missing.
  Layer 12 (deps): Closed.
  Layer 12 (deps): the memory of a web: rows of numbers, the rows above, numbers by names.
-/
import Derived.Test.YtijkpkcopjkhkaaMo1
import Derived.Test.YtijkpkcopjkhkaaRows
import Derived.Shelf.SlSortCmp.NoneTotal
import Derived.Lib.Bytealg
import Derived.Sort.Grow
import Derived.Maps.Range
import Derived.Deep.OwnRows
/- Layer 12 (deps): the reference: With: its conditions, whatever their order. -/
namespace Go.Proofs.Ytijkpkcopjkhkaa.Oct
open Go.RowKit
set_option linter.unusedSimpArgs false

set_option maxRecDepth 100000 in
set_option maxHeartbeats 2000000 in
theorem with_region_t {Q : Exit → Act → World → Prop} {x1 x2 x4 x6 x7 x8 x9 x10 x11 x12 x13 x14 x15 x16 x17 x18 x19 x20 x21 x22 x23 x24 x25 x26 x27 x28 x29 x30 x31 x32 x33 x34 x35 x36 x37 x38 x39 x40 x41 x42 x43 x44 x45 x46 x47 : Value} {ds : List Deferred} {A : World} {g off n c hb i : Nat} {x h : Hs} {r : Bool}
    (hx : x.length = 32) (hh : h.length = 32) (q1 : (i : Int) < (n : Int)) (HK : Hid (A.rangeAt g (off + i * 32) (U x) ∧ A.rangeAt hb 0 (U h) ∧ g < A.heap.size ∧ hb < A.heap.size)) (hr : Op.bytesLess x h = r)
    (hQ : ∀ (V : World), Below A.heap.size A V → Q .normal { tmps := #[.slice (some ⟨g, off, none⟩) n c, x1, x2, .pointer (some ⟨hb, 0, none⟩), x4, .int .i64 (i : Int), x6, .int .i64 (i : Int), .slice (some ⟨g, off, none⟩) n c, .int .i64 (n : Int), .bool true, .bool true, .slice (some ⟨g, off, none⟩) n c, .int .i64 (i : Int), .pointer (some ⟨g, off + i * 32, none⟩), .agg (U x).toArray, .agg (U h).toArray, .bool r, .bool r, x19, x20, x21, x22, x23, x24, x25, x26, x27, x28, x29, x30, x31, x32, x33, x34, x35, x36, x37, x38, x39, x40, x41, x42, x43, x44, x45, x46, x47], defers := ds } V) :
    (Code.region 2 #[{ dst := some 7, op := Op.move (Operand.tmp 5), type := 3, pos := "ref.go:21", after := #[], guard := none }, { dst := some 8, op := Op.move (Operand.tmp 0), type := 26, pos := "ref.go:21", after := #[], guard := none }, { dst := some 9, op := Op.call { callee := Callee.builtin Builtin.len, args := #[Operand.tmp 8], argTypes := #[26] }, type := 3, pos := "ref.go:21", after := #[{ on := 1, ground := Ground.data }], guard := none }, { dst := some 10, op := Op.binOp BinOp.lss 3 (Operand.tmp 7) (Operand.tmp 9) 3, type := 4, pos := "ref.go:21", after := #[{ on := 0, ground := Ground.data }, { on := 2, ground := Ground.data }], guard := none }, { dst := some 11, op := Op.move (Operand.tmp 10), type := 4, pos := "ref.go:21", after := #[{ on := 3, ground := Ground.data }], guard := none }, { dst := some 12, op := Op.move (Operand.tmp 0), type := 26, pos := "ref.go:21", after := #[{ on := 4, ground := Ground.guard }], guard := some (4, true) }, { dst := some 13, op := Op.move (Operand.tmp 5), type := 3, pos := "ref.go:21", after := #[{ on := 4, ground := Ground.guard }], guard := some (4, true) }, { dst := some 14, op := Op.indexAddr 26 (Operand.tmp 12) (Operand.tmp 13), type := 0, pos := "ref.go:21", after := #[{ on := 5, ground := Ground.data }, { on := 6, ground := Ground.data }, { on := 4, ground := Ground.guard }], guard := some (4, true) }, { dst := some 15, op := Op.load 34 (Operand.tmp 14), type := 34, pos := "ref.go:21", after := #[{ on := 7, ground := Ground.data }, { on := 4, ground := Ground.guard }], guard := some (4, true) }, { dst := some 16, op := Op.load 34 (Operand.tmp 3), type := 34, pos := "ref.go:21", after := #[{ on := 4, ground := Ground.guard }], guard := some (4, true) }, { dst := some 17, op := Op.call { callee := Callee.value (Operand.func 28), args := #[Operand.tmp 15, Operand.tmp 16], argTypes := #[34, 34] }, type := 4, pos := "ref.go:21", after := #[{ on := 8, ground := Ground.data }, { on := 9, ground := Ground.data }, { on := 4, ground := Ground.chain }, { on := 4, ground := Ground.guard }], guard := some (4, true) }, { dst := some 18, op := Op.pick (Operand.tmp 11) (Operand.tmp 17) (Operand.const (Value.bool false)), type := 4, pos := "ref.go:21", after := #[{ on := 4, ground := Ground.data }, { on := 10, ground := Ground.data }], guard := none }] true).wp Try.prog Q { tmps := #[.slice (some ⟨g, off, none⟩) n c, x1, x2, .pointer (some ⟨hb, 0, none⟩), x4, .int .i64 (i : Int), x6, x7, x8, x9, x10, x11, x12, x13, x14, x15, x16, x17, x18, x19, x20, x21, x22, x23, x24, x25, x26, x27, x28, x29, x30, x31, x32, x33, x34, x35, x36, x37, x38, x39, x40, x41, x42, x43, x44, x45, x46, x47], defers := ds } A := by
  refine Code.wp_mono (Q := fun x a' w' => match x with | .normal => Q .normal a' w' | _ => False) (by intro x a' w' h; cases x <;> first | exact h | exact h.elim) ?_
  refine wp_region_held (S := fun V => Below A.heap.size A V) (by kernel_rfl) ?_
  have hS0 : Hid (Below A.heap.size A A.drew) := below_drew' A
  change wpAnyH Try.prog .any _ _ (fun V => Below A.heap.size A V) 12 (Array.replicate 12 false) _ A.drew
  refine wpAnyH_take (i := 0) (oi := { dst := some 7, op := Op.move (Operand.tmp 5), type := 3, pos := "ref.go:21", after := #[], guard := none }) (v := .int .i64 (i : Int)) rfl (by kernel_rfl) (by kernel_rfl) (by kernel_rfl) (fun _ _ _ h => h.elim) (Or.inl ⟨by rfl, ?y0⟩) hS0.out ?_
  case y0 =>
    intro V hV
    go_simp
  simp only [Act.put, List.setIfInBounds_toArray, List.set_cons_zero, List.set_cons_succ]
  refine wpAnyH_take (i := 1) (oi := { dst := some 8, op := Op.move (Operand.tmp 0), type := 26, pos := "ref.go:21", after := #[], guard := none }) (v := .slice (some ⟨g, off, none⟩) n c) rfl (by kernel_rfl) (by kernel_rfl) (by kernel_rfl) (fun _ _ _ h => h.elim) (Or.inl ⟨by rfl, ?y1⟩) hS0.out ?_
  case y1 =>
    intro V hV
    go_simp
  simp only [Act.put, List.setIfInBounds_toArray, List.set_cons_zero, List.set_cons_succ]
  refine wpAnyH_take (i := 2) (oi := { dst := some 9, op := Op.call { callee := Callee.builtin Builtin.len, args := #[Operand.tmp 8], argTypes := #[26] }, type := 3, pos := "ref.go:21", after := #[{ on := 1, ground := Ground.data }], guard := none }) (v := .int .i64 (n : Int)) rfl (by kernel_rfl) (by kernel_rfl) (by kernel_rfl) (fun _ _ _ h => h.elim) (Or.inl ⟨by rfl, ?y2⟩) hS0.out ?_
  case y2 =>
    intro V hV
    go_simp
  simp only [Act.put, List.setIfInBounds_toArray, List.set_cons_zero, List.set_cons_succ]
  refine wpAnyH_take (i := 3) (oi := { dst := some 10, op := Op.binOp BinOp.lss 3 (Operand.tmp 7) (Operand.tmp 9) 3, type := 4, pos := "ref.go:21", after := #[{ on := 0, ground := Ground.data }, { on := 2, ground := Ground.data }], guard := none }) (v := .bool true) rfl (by kernel_rfl) (by kernel_rfl) (by kernel_rfl) (fun _ _ _ h => h.elim) (Or.inl ⟨by rfl, ?y3⟩) hS0.out ?_
  case y3 =>
    intro V hV
    go_simp
  simp only [Act.put, List.setIfInBounds_toArray, List.set_cons_zero, List.set_cons_succ]
  refine wpAnyH_take (i := 4) (oi := { dst := some 11, op := Op.move (Operand.tmp 10), type := 4, pos := "ref.go:21", after := #[{ on := 3, ground := Ground.data }], guard := none }) (v := .bool true) rfl (by kernel_rfl) (by kernel_rfl) (by kernel_rfl) (fun _ _ _ h => h.elim) (Or.inl ⟨by rfl, ?y4⟩) hS0.out ?_
  case y4 =>
    intro V hV
    go_simp
  simp only [Act.put, List.setIfInBounds_toArray, List.set_cons_zero, List.set_cons_succ]
  refine wpAnyH_take (i := 5) (oi := { dst := some 12, op := Op.move (Operand.tmp 0), type := 26, pos := "ref.go:21", after := #[{ on := 4, ground := Ground.guard }], guard := some (4, true) }) (v := .slice (some ⟨g, off, none⟩) n c) rfl (by kernel_rfl) (by kernel_rfl) (by kernel_rfl) (fun _ _ _ h => h.elim) (Or.inl ⟨by rfl, ?y5⟩) hS0.out ?_
  case y5 =>
    intro V hV
    go_simp
  simp only [Act.put, List.setIfInBounds_toArray, List.set_cons_zero, List.set_cons_succ]
  refine wpAnyH_take (i := 6) (oi := { dst := some 13, op := Op.move (Operand.tmp 5), type := 3, pos := "ref.go:21", after := #[{ on := 4, ground := Ground.guard }], guard := some (4, true) }) (v := .int .i64 (i : Int)) rfl (by kernel_rfl) (by kernel_rfl) (by kernel_rfl) (fun _ _ _ h => h.elim) (Or.inl ⟨by rfl, ?y6⟩) hS0.out ?_
  case y6 =>
    intro V hV
    go_simp
  simp only [Act.put, List.setIfInBounds_toArray, List.set_cons_zero, List.set_cons_succ]
  refine wpAnyH_take (i := 7) (oi := { dst := some 14, op := Op.indexAddr 26 (Operand.tmp 12) (Operand.tmp 13), type := 0, pos := "ref.go:21", after := #[{ on := 5, ground := Ground.data }, { on := 6, ground := Ground.data }, { on := 4, ground := Ground.guard }], guard := some (4, true) }) (v := .pointer (some ⟨g, off + i * 32, none⟩)) rfl (by kernel_rfl) (by kernel_rfl) (by kernel_rfl) (fun _ _ _ h => h.elim) (Or.inl ⟨by rfl, ?y7⟩) hS0.out ?_
  case y7 =>
    intro V hV
    go_simp
  simp only [Act.put, List.setIfInBounds_toArray, List.set_cons_zero, List.set_cons_succ]
  refine wpAnyH_take (i := 8) (oi := { dst := some 15, op := Op.load 34 (Operand.tmp 14), type := 34, pos := "ref.go:21", after := #[{ on := 7, ground := Ground.data }, { on := 4, ground := Ground.guard }], guard := some (4, true) }) (v := .agg (U x).toArray) rfl (by kernel_rfl) (by kernel_rfl) (by kernel_rfl) (fun _ _ _ h => h.elim) (yieldsIf_load_mid (by rfl) _ _ rfl _ _ rfl (U x) _ (fun V hV => rangeAt_same (HK.out.1) ((show Below A.heap.size A V from hV).block _ (HK.out.2.2.1))) Try.underlying34 rfl (info34 x hx)) hS0.out ?_
  simp only [Act.put, List.setIfInBounds_toArray, List.set_cons_zero, List.set_cons_succ]
  refine wpAnyH_take (i := 9) (oi := { dst := some 16, op := Op.load 34 (Operand.tmp 3), type := 34, pos := "ref.go:21", after := #[{ on := 4, ground := Ground.guard }], guard := some (4, true) }) (v := .agg (U h).toArray) rfl (by kernel_rfl) (by kernel_rfl) (by kernel_rfl) (fun _ _ _ h => h.elim) (yieldsIf_load_mid (by rfl) _ _ rfl _ _ rfl (U h) _ (fun V hV => rangeAt_same (HK.out.2.1) ((show Below A.heap.size A V from hV).block _ (HK.out.2.2.2))) Try.underlying34 rfl (info34 h hh)) hS0.out ?_
  simp only [Act.put, List.setIfInBounds_toArray, List.set_cons_zero, List.set_cons_succ]
  refine wpAnyH_ready (rs := [10]) (by kernel_rfl) (by simp) (AllReadyH.cons (i := 10) (o := { dst := some 17, op := Op.call { callee := Callee.value (Operand.func 28), args := #[Operand.tmp 15, Operand.tmp 16], argTypes := #[34, 34] }, type := 4, pos := "ref.go:21", after := #[{ on := 8, ground := Ground.data }, { on := 9, ground := Ground.data }, { on := 4, ground := Ground.chain }, { on := 4, ground := Ground.guard }], guard := some (4, true) }) rfl ?_ AllReadyH.nil)
  intro K1 hK1
  rw [if_pos (by rfl)]
  have HC1 := rbelow_is A.drew x h hx hh
  go_wp2_with fail
  refine HC1.mono ?_
  rintro e V1 ⟨rfl, HB1⟩
  dsimp only
  clear HC1
  have hS1 : Hid (Below A.heap.size A V1) := hS0.out.trans (HB1.out.mono hS0.out.size)
  rw [hr]
  refine hK1.out _ _ hS1.out ?_
  clear hK1
  intro _
  try simp only [Act.put, List.setIfInBounds_toArray, List.set_cons_zero, List.set_cons_succ]
  refine wpAnyH_take (i := 11) (oi := { dst := some 18, op := Op.pick (Operand.tmp 11) (Operand.tmp 17) (Operand.const (Value.bool false)), type := 4, pos := "ref.go:21", after := #[{ on := 4, ground := Ground.data }, { on := 10, ground := Ground.data }], guard := none }) (v := .bool r) rfl (by kernel_rfl) (by kernel_rfl) (by kernel_rfl) (fun _ _ _ h => h.elim) (Or.inl ⟨by rfl, ?y11⟩) hS1.out ?_
  case y11 =>
    intro V hV
    go_simp
  simp only [Act.put, List.setIfInBounds_toArray, List.set_cons_zero, List.set_cons_succ]
  refine wpAnyH_done (by kernel_rfl) ?_ _
  exact hQ V1 hS1.out
set_option maxRecDepth 100000 in
set_option maxHeartbeats 2000000 in
theorem with_region_f {Q : Exit → Act → World → Prop} {x1 x2 x3 x4 x6 x7 x8 x9 x10 x11 x12 x13 x14 x15 x16 x17 x18 x19 x20 x21 x22 x23 x24 x25 x26 x27 x28 x29 x30 x31 x32 x33 x34 x35 x36 x37 x38 x39 x40 x41 x42 x43 x44 x45 x46 x47 : Value} {ds : List Deferred} {A : World} {a : Option Addr} {n c i : Nat}
    (q1 : ¬ (i : Int) < (n : Int))
    (hQ : Q .normal { tmps := #[.slice a n c, x1, x2, x3, x4, .int .i64 (i : Int), x6, .int .i64 (i : Int), .slice a n c, .int .i64 (n : Int), .bool false, .bool false, undef, undef, undef, undef, undef, undef, .bool false, x19, x20, x21, x22, x23, x24, x25, x26, x27, x28, x29, x30, x31, x32, x33, x34, x35, x36, x37, x38, x39, x40, x41, x42, x43, x44, x45, x46, x47], defers := ds } A.drew) :
    (Code.region 2 #[{ dst := some 7, op := Op.move (Operand.tmp 5), type := 3, pos := "ref.go:21", after := #[], guard := none }, { dst := some 8, op := Op.move (Operand.tmp 0), type := 26, pos := "ref.go:21", after := #[], guard := none }, { dst := some 9, op := Op.call { callee := Callee.builtin Builtin.len, args := #[Operand.tmp 8], argTypes := #[26] }, type := 3, pos := "ref.go:21", after := #[{ on := 1, ground := Ground.data }], guard := none }, { dst := some 10, op := Op.binOp BinOp.lss 3 (Operand.tmp 7) (Operand.tmp 9) 3, type := 4, pos := "ref.go:21", after := #[{ on := 0, ground := Ground.data }, { on := 2, ground := Ground.data }], guard := none }, { dst := some 11, op := Op.move (Operand.tmp 10), type := 4, pos := "ref.go:21", after := #[{ on := 3, ground := Ground.data }], guard := none }, { dst := some 12, op := Op.move (Operand.tmp 0), type := 26, pos := "ref.go:21", after := #[{ on := 4, ground := Ground.guard }], guard := some (4, true) }, { dst := some 13, op := Op.move (Operand.tmp 5), type := 3, pos := "ref.go:21", after := #[{ on := 4, ground := Ground.guard }], guard := some (4, true) }, { dst := some 14, op := Op.indexAddr 26 (Operand.tmp 12) (Operand.tmp 13), type := 0, pos := "ref.go:21", after := #[{ on := 5, ground := Ground.data }, { on := 6, ground := Ground.data }, { on := 4, ground := Ground.guard }], guard := some (4, true) }, { dst := some 15, op := Op.load 34 (Operand.tmp 14), type := 34, pos := "ref.go:21", after := #[{ on := 7, ground := Ground.data }, { on := 4, ground := Ground.guard }], guard := some (4, true) }, { dst := some 16, op := Op.load 34 (Operand.tmp 3), type := 34, pos := "ref.go:21", after := #[{ on := 4, ground := Ground.guard }], guard := some (4, true) }, { dst := some 17, op := Op.call { callee := Callee.value (Operand.func 28), args := #[Operand.tmp 15, Operand.tmp 16], argTypes := #[34, 34] }, type := 4, pos := "ref.go:21", after := #[{ on := 8, ground := Ground.data }, { on := 9, ground := Ground.data }, { on := 4, ground := Ground.chain }, { on := 4, ground := Ground.guard }], guard := some (4, true) }, { dst := some 18, op := Op.pick (Operand.tmp 11) (Operand.tmp 17) (Operand.const (Value.bool false)), type := 4, pos := "ref.go:21", after := #[{ on := 4, ground := Ground.data }, { on := 10, ground := Ground.data }], guard := none }] true).wp Try.prog Q { tmps := #[.slice a n c, x1, x2, x3, x4, .int .i64 (i : Int), x6, x7, x8, x9, x10, x11, x12, x13, x14, x15, x16, x17, x18, x19, x20, x21, x22, x23, x24, x25, x26, x27, x28, x29, x30, x31, x32, x33, x34, x35, x36, x37, x38, x39, x40, x41, x42, x43, x44, x45, x46, x47], defers := ds } A := by
  refine Code.wp_mono (Q := fun x a' w' => match x with | .normal => Q .normal a' w' | _ => False) (by intro x a' w' h; cases x <;> first | exact h | exact h.elim) ?_
  refine wp_region_held (S := fun V => Below A.heap.size A V) (by kernel_rfl) ?_
  have hS0 : Hid (Below A.heap.size A A.drew) := below_drew' A
  change wpAnyH Try.prog .any _ _ (fun V => Below A.heap.size A V) 12 (Array.replicate 12 false) _ A.drew
  refine wpAnyH_take (i := 0) (oi := { dst := some 7, op := Op.move (Operand.tmp 5), type := 3, pos := "ref.go:21", after := #[], guard := none }) (v := .int .i64 (i : Int)) rfl (by kernel_rfl) (by kernel_rfl) (by kernel_rfl) (fun _ _ _ h => h.elim) (Or.inl ⟨by rfl, ?y0⟩) hS0.out ?_
  case y0 =>
    intro V hV
    go_simp
  simp only [Act.put, List.setIfInBounds_toArray, List.set_cons_zero, List.set_cons_succ]
  refine wpAnyH_take (i := 1) (oi := { dst := some 8, op := Op.move (Operand.tmp 0), type := 26, pos := "ref.go:21", after := #[], guard := none }) (v := .slice a n c) rfl (by kernel_rfl) (by kernel_rfl) (by kernel_rfl) (fun _ _ _ h => h.elim) (Or.inl ⟨by rfl, ?y1⟩) hS0.out ?_
  case y1 =>
    intro V hV
    go_simp
  simp only [Act.put, List.setIfInBounds_toArray, List.set_cons_zero, List.set_cons_succ]
  refine wpAnyH_take (i := 2) (oi := { dst := some 9, op := Op.call { callee := Callee.builtin Builtin.len, args := #[Operand.tmp 8], argTypes := #[26] }, type := 3, pos := "ref.go:21", after := #[{ on := 1, ground := Ground.data }], guard := none }) (v := .int .i64 (n : Int)) rfl (by kernel_rfl) (by kernel_rfl) (by kernel_rfl) (fun _ _ _ h => h.elim) (Or.inl ⟨by rfl, ?y2⟩) hS0.out ?_
  case y2 =>
    intro V hV
    go_simp
  simp only [Act.put, List.setIfInBounds_toArray, List.set_cons_zero, List.set_cons_succ]
  refine wpAnyH_take (i := 3) (oi := { dst := some 10, op := Op.binOp BinOp.lss 3 (Operand.tmp 7) (Operand.tmp 9) 3, type := 4, pos := "ref.go:21", after := #[{ on := 0, ground := Ground.data }, { on := 2, ground := Ground.data }], guard := none }) (v := .bool false) rfl (by kernel_rfl) (by kernel_rfl) (by kernel_rfl) (fun _ _ _ h => h.elim) (Or.inl ⟨by rfl, ?y3⟩) hS0.out ?_
  case y3 =>
    intro V hV
    go_simp
  simp only [Act.put, List.setIfInBounds_toArray, List.set_cons_zero, List.set_cons_succ]
  refine wpAnyH_take (i := 4) (oi := { dst := some 11, op := Op.move (Operand.tmp 10), type := 4, pos := "ref.go:21", after := #[{ on := 3, ground := Ground.data }], guard := none }) (v := .bool false) rfl (by kernel_rfl) (by kernel_rfl) (by kernel_rfl) (fun _ _ _ h => h.elim) (Or.inl ⟨by rfl, ?y4⟩) hS0.out ?_
  case y4 =>
    intro V hV
    go_simp
  simp only [Act.put, List.setIfInBounds_toArray, List.set_cons_zero, List.set_cons_succ]
  refine wpAnyH_take (i := 5) (oi := { dst := some 12, op := Op.move (Operand.tmp 0), type := 26, pos := "ref.go:21", after := #[{ on := 4, ground := Ground.guard }], guard := some (4, true) }) (v := undef) rfl (by kernel_rfl) (by kernel_rfl) (by kernel_rfl) (fun _ _ _ h => h.elim) (Or.inr ⟨by rfl, rfl⟩) hS0.out ?_
  simp only [Act.put, List.setIfInBounds_toArray, List.set_cons_zero, List.set_cons_succ]
  refine wpAnyH_take (i := 6) (oi := { dst := some 13, op := Op.move (Operand.tmp 5), type := 3, pos := "ref.go:21", after := #[{ on := 4, ground := Ground.guard }], guard := some (4, true) }) (v := undef) rfl (by kernel_rfl) (by kernel_rfl) (by kernel_rfl) (fun _ _ _ h => h.elim) (Or.inr ⟨by rfl, rfl⟩) hS0.out ?_
  simp only [Act.put, List.setIfInBounds_toArray, List.set_cons_zero, List.set_cons_succ]
  refine wpAnyH_take (i := 7) (oi := { dst := some 14, op := Op.indexAddr 26 (Operand.tmp 12) (Operand.tmp 13), type := 0, pos := "ref.go:21", after := #[{ on := 5, ground := Ground.data }, { on := 6, ground := Ground.data }, { on := 4, ground := Ground.guard }], guard := some (4, true) }) (v := undef) rfl (by kernel_rfl) (by kernel_rfl) (by kernel_rfl) (fun _ _ _ h => h.elim) (Or.inr ⟨by rfl, rfl⟩) hS0.out ?_
  simp only [Act.put, List.setIfInBounds_toArray, List.set_cons_zero, List.set_cons_succ]
  refine wpAnyH_take (i := 8) (oi := { dst := some 15, op := Op.load 34 (Operand.tmp 14), type := 34, pos := "ref.go:21", after := #[{ on := 7, ground := Ground.data }, { on := 4, ground := Ground.guard }], guard := some (4, true) }) (v := undef) rfl (by kernel_rfl) (by kernel_rfl) (by kernel_rfl) (fun _ _ _ h => h.elim) (Or.inr ⟨by rfl, rfl⟩) hS0.out ?_
  simp only [Act.put, List.setIfInBounds_toArray, List.set_cons_zero, List.set_cons_succ]
  refine wpAnyH_take (i := 9) (oi := { dst := some 16, op := Op.load 34 (Operand.tmp 3), type := 34, pos := "ref.go:21", after := #[{ on := 4, ground := Ground.guard }], guard := some (4, true) }) (v := undef) rfl (by kernel_rfl) (by kernel_rfl) (by kernel_rfl) (fun _ _ _ h => h.elim) (Or.inr ⟨by rfl, rfl⟩) hS0.out ?_
  simp only [Act.put, List.setIfInBounds_toArray, List.set_cons_zero, List.set_cons_succ]
  refine wpAnyH_take (i := 10) (oi := { dst := some 17, op := Op.call { callee := Callee.value (Operand.func 28), args := #[Operand.tmp 15, Operand.tmp 16], argTypes := #[34, 34] }, type := 4, pos := "ref.go:21", after := #[{ on := 8, ground := Ground.data }, { on := 9, ground := Ground.data }, { on := 4, ground := Ground.chain }, { on := 4, ground := Ground.guard }], guard := some (4, true) }) (v := undef) rfl (by kernel_rfl) (by kernel_rfl) (by kernel_rfl) (fun _ _ _ h => h.elim) (Or.inr ⟨by rfl, rfl⟩) hS0.out ?_
  simp only [Act.put, List.setIfInBounds_toArray, List.set_cons_zero, List.set_cons_succ]
  refine wpAnyH_take (i := 11) (oi := { dst := some 18, op := Op.pick (Operand.tmp 11) (Operand.tmp 17) (Operand.const (Value.bool false)), type := 4, pos := "ref.go:21", after := #[{ on := 4, ground := Ground.data }, { on := 10, ground := Ground.data }], guard := none }) (v := .bool false) rfl (by kernel_rfl) (by kernel_rfl) (by kernel_rfl) (fun _ _ _ h => h.elim) (Or.inl ⟨by rfl, ?y11⟩) hS0.out ?_
  case y11 =>
    intro V hV
    go_simp
  simp only [Act.put, List.setIfInBounds_toArray, List.set_cons_zero, List.set_cons_succ]
  refine wpAnyH_done (by kernel_rfl) ?_ _
  exact hQ
set_option maxRecDepth 100000 in
set_option maxHeartbeats 2000000 in
theorem with_region4_t {Q : Exit → Act → World → Prop} {x1 x2 x4 x6 x7 x8 x9 x10 x11 x12 x13 x14 x15 x16 x17 x18 x19 x20 x21 x22 x23 x24 x25 x26 x27 x28 x29 x30 x31 x32 x33 x34 x35 x36 x37 x38 x39 x40 x41 x42 x43 x44 x45 x46 x47 : Value} {ds : List Deferred} {A : World} {g off n c hb i : Nat} {x h : Hs} {r : Bool}
    (hx : x.length = 32) (hh : h.length = 32) (q1 : (i : Int) < (n : Int)) (HK : Hid (A.rangeAt g (off + i * 32) (U x) ∧ A.rangeAt hb 0 (U h) ∧ g < A.heap.size ∧ hb < A.heap.size)) (heq : ∀ W, (Op.equalIn 10000 34 (.agg (U x).toArray) (.agg (U h).toArray)).run Try.prog W = .ok r W)
    (hQ : Q .normal { tmps := #[.slice (some ⟨g, off, none⟩) n c, x1, x2, .pointer (some ⟨hb, 0, none⟩), x4, .int .i64 (i : Int), x6, x7, x8, x9, x10, x11, x12, x13, x14, x15, x16, x17, x18, x19, x20, .int .i64 (i : Int), .slice (some ⟨g, off, none⟩) n c, .int .i64 (n : Int), .bool true, .bool true, .slice (some ⟨g, off, none⟩) n c, .int .i64 (i : Int), .pointer (some ⟨g, off + i * 32, none⟩), .agg (U x).toArray, .agg (U h).toArray, .bool r, .bool r, x33, x34, x35, x36, x37, x38, x39, x40, x41, x42, x43, x44, x45, x46, x47], defers := ds } A.drew) :
    (Code.region 4 #[{ dst := some 21, op := Op.move (Operand.tmp 5), type := 3, pos := "ref.go:24", after := #[], guard := none }, { dst := some 22, op := Op.move (Operand.tmp 0), type := 26, pos := "ref.go:24", after := #[], guard := none }, { dst := some 23, op := Op.call { callee := Callee.builtin Builtin.len, args := #[Operand.tmp 22], argTypes := #[26] }, type := 3, pos := "ref.go:24", after := #[{ on := 1, ground := Ground.data }], guard := none }, { dst := some 24, op := Op.binOp BinOp.lss 3 (Operand.tmp 21) (Operand.tmp 23) 3, type := 4, pos := "ref.go:24", after := #[{ on := 0, ground := Ground.data }, { on := 2, ground := Ground.data }], guard := none }, { dst := some 25, op := Op.move (Operand.tmp 24), type := 4, pos := "ref.go:24", after := #[{ on := 3, ground := Ground.data }], guard := none }, { dst := some 26, op := Op.move (Operand.tmp 0), type := 26, pos := "ref.go:24", after := #[{ on := 4, ground := Ground.guard }], guard := some (4, true) }, { dst := some 27, op := Op.move (Operand.tmp 5), type := 3, pos := "ref.go:24", after := #[{ on := 4, ground := Ground.guard }], guard := some (4, true) }, { dst := some 28, op := Op.indexAddr 26 (Operand.tmp 26) (Operand.tmp 27), type := 0, pos := "ref.go:24", after := #[{ on := 5, ground := Ground.data }, { on := 6, ground := Ground.data }, { on := 4, ground := Ground.guard }], guard := some (4, true) }, { dst := some 29, op := Op.load 34 (Operand.tmp 28), type := 34, pos := "ref.go:24", after := #[{ on := 7, ground := Ground.data }, { on := 4, ground := Ground.guard }], guard := some (4, true) }, { dst := some 30, op := Op.load 34 (Operand.tmp 3), type := 34, pos := "ref.go:24", after := #[{ on := 4, ground := Ground.guard }], guard := some (4, true) }, { dst := some 31, op := Op.binOp BinOp.eql 34 (Operand.tmp 29) (Operand.tmp 30) 34, type := 4, pos := "ref.go:24", after := #[{ on := 8, ground := Ground.data }, { on := 9, ground := Ground.data }, { on := 4, ground := Ground.guard }], guard := some (4, true) }, { dst := some 32, op := Op.pick (Operand.tmp 25) (Operand.tmp 31) (Operand.const (Value.bool false)), type := 4, pos := "ref.go:24", after := #[{ on := 4, ground := Ground.data }, { on := 10, ground := Ground.data }], guard := none }] true).wp Try.prog Q { tmps := #[.slice (some ⟨g, off, none⟩) n c, x1, x2, .pointer (some ⟨hb, 0, none⟩), x4, .int .i64 (i : Int), x6, x7, x8, x9, x10, x11, x12, x13, x14, x15, x16, x17, x18, x19, x20, x21, x22, x23, x24, x25, x26, x27, x28, x29, x30, x31, x32, x33, x34, x35, x36, x37, x38, x39, x40, x41, x42, x43, x44, x45, x46, x47], defers := ds } A := by
  refine Code.wp_mono (Q := fun x a' w' => match x with | .normal => Q .normal a' w' | _ => False) (by intro x a' w' h; cases x <;> first | exact h | exact h.elim) ?_
  refine wp_region_held (S := fun V => Below A.heap.size A V) (by kernel_rfl) ?_
  have hS0 : Hid (Below A.heap.size A A.drew) := below_drew' A
  change wpAnyH Try.prog .any _ _ (fun V => Below A.heap.size A V) 12 (Array.replicate 12 false) _ A.drew
  refine wpAnyH_take (i := 0) (oi := { dst := some 21, op := Op.move (Operand.tmp 5), type := 3, pos := "ref.go:24", after := #[], guard := none }) (v := .int .i64 (i : Int)) rfl (by kernel_rfl) (by kernel_rfl) (by kernel_rfl) (fun _ _ _ h => h.elim) (Or.inl ⟨by rfl, ?y0⟩) hS0.out ?_
  case y0 =>
    intro V hV
    go_simp
  simp only [Act.put, List.setIfInBounds_toArray, List.set_cons_zero, List.set_cons_succ]
  refine wpAnyH_take (i := 1) (oi := { dst := some 22, op := Op.move (Operand.tmp 0), type := 26, pos := "ref.go:24", after := #[], guard := none }) (v := .slice (some ⟨g, off, none⟩) n c) rfl (by kernel_rfl) (by kernel_rfl) (by kernel_rfl) (fun _ _ _ h => h.elim) (Or.inl ⟨by rfl, ?y1⟩) hS0.out ?_
  case y1 =>
    intro V hV
    go_simp
  simp only [Act.put, List.setIfInBounds_toArray, List.set_cons_zero, List.set_cons_succ]
  refine wpAnyH_take (i := 2) (oi := { dst := some 23, op := Op.call { callee := Callee.builtin Builtin.len, args := #[Operand.tmp 22], argTypes := #[26] }, type := 3, pos := "ref.go:24", after := #[{ on := 1, ground := Ground.data }], guard := none }) (v := .int .i64 (n : Int)) rfl (by kernel_rfl) (by kernel_rfl) (by kernel_rfl) (fun _ _ _ h => h.elim) (Or.inl ⟨by rfl, ?y2⟩) hS0.out ?_
  case y2 =>
    intro V hV
    go_simp
  simp only [Act.put, List.setIfInBounds_toArray, List.set_cons_zero, List.set_cons_succ]
  refine wpAnyH_take (i := 3) (oi := { dst := some 24, op := Op.binOp BinOp.lss 3 (Operand.tmp 21) (Operand.tmp 23) 3, type := 4, pos := "ref.go:24", after := #[{ on := 0, ground := Ground.data }, { on := 2, ground := Ground.data }], guard := none }) (v := .bool true) rfl (by kernel_rfl) (by kernel_rfl) (by kernel_rfl) (fun _ _ _ h => h.elim) (Or.inl ⟨by rfl, ?y3⟩) hS0.out ?_
  case y3 =>
    intro V hV
    go_simp
  simp only [Act.put, List.setIfInBounds_toArray, List.set_cons_zero, List.set_cons_succ]
  refine wpAnyH_take (i := 4) (oi := { dst := some 25, op := Op.move (Operand.tmp 24), type := 4, pos := "ref.go:24", after := #[{ on := 3, ground := Ground.data }], guard := none }) (v := .bool true) rfl (by kernel_rfl) (by kernel_rfl) (by kernel_rfl) (fun _ _ _ h => h.elim) (Or.inl ⟨by rfl, ?y4⟩) hS0.out ?_
  case y4 =>
    intro V hV
    go_simp
  simp only [Act.put, List.setIfInBounds_toArray, List.set_cons_zero, List.set_cons_succ]
  refine wpAnyH_take (i := 5) (oi := { dst := some 26, op := Op.move (Operand.tmp 0), type := 26, pos := "ref.go:24", after := #[{ on := 4, ground := Ground.guard }], guard := some (4, true) }) (v := .slice (some ⟨g, off, none⟩) n c) rfl (by kernel_rfl) (by kernel_rfl) (by kernel_rfl) (fun _ _ _ h => h.elim) (Or.inl ⟨by rfl, ?y5⟩) hS0.out ?_
  case y5 =>
    intro V hV
    go_simp
  simp only [Act.put, List.setIfInBounds_toArray, List.set_cons_zero, List.set_cons_succ]
  refine wpAnyH_take (i := 6) (oi := { dst := some 27, op := Op.move (Operand.tmp 5), type := 3, pos := "ref.go:24", after := #[{ on := 4, ground := Ground.guard }], guard := some (4, true) }) (v := .int .i64 (i : Int)) rfl (by kernel_rfl) (by kernel_rfl) (by kernel_rfl) (fun _ _ _ h => h.elim) (Or.inl ⟨by rfl, ?y6⟩) hS0.out ?_
  case y6 =>
    intro V hV
    go_simp
  simp only [Act.put, List.setIfInBounds_toArray, List.set_cons_zero, List.set_cons_succ]
  refine wpAnyH_take (i := 7) (oi := { dst := some 28, op := Op.indexAddr 26 (Operand.tmp 26) (Operand.tmp 27), type := 0, pos := "ref.go:24", after := #[{ on := 5, ground := Ground.data }, { on := 6, ground := Ground.data }, { on := 4, ground := Ground.guard }], guard := some (4, true) }) (v := .pointer (some ⟨g, off + i * 32, none⟩)) rfl (by kernel_rfl) (by kernel_rfl) (by kernel_rfl) (fun _ _ _ h => h.elim) (Or.inl ⟨by rfl, ?y7⟩) hS0.out ?_
  case y7 =>
    intro V hV
    go_simp
  simp only [Act.put, List.setIfInBounds_toArray, List.set_cons_zero, List.set_cons_succ]
  refine wpAnyH_take (i := 8) (oi := { dst := some 29, op := Op.load 34 (Operand.tmp 28), type := 34, pos := "ref.go:24", after := #[{ on := 7, ground := Ground.data }, { on := 4, ground := Ground.guard }], guard := some (4, true) }) (v := .agg (U x).toArray) rfl (by kernel_rfl) (by kernel_rfl) (by kernel_rfl) (fun _ _ _ h => h.elim) (yieldsIf_load_mid (by rfl) _ _ rfl _ _ rfl (U x) _ (fun V hV => rangeAt_same (HK.out.1) ((show Below A.heap.size A V from hV).block _ (HK.out.2.2.1))) Try.underlying34 rfl (info34 x hx)) hS0.out ?_
  simp only [Act.put, List.setIfInBounds_toArray, List.set_cons_zero, List.set_cons_succ]
  refine wpAnyH_take (i := 9) (oi := { dst := some 30, op := Op.load 34 (Operand.tmp 3), type := 34, pos := "ref.go:24", after := #[{ on := 4, ground := Ground.guard }], guard := some (4, true) }) (v := .agg (U h).toArray) rfl (by kernel_rfl) (by kernel_rfl) (by kernel_rfl) (fun _ _ _ h => h.elim) (yieldsIf_load_mid (by rfl) _ _ rfl _ _ rfl (U h) _ (fun V hV => rangeAt_same (HK.out.2.1) ((show Below A.heap.size A V from hV).block _ (HK.out.2.2.2))) Try.underlying34 rfl (info34 h hh)) hS0.out ?_
  simp only [Act.put, List.setIfInBounds_toArray, List.set_cons_zero, List.set_cons_succ]
  refine wpAnyH_take (i := 10) (oi := { dst := some 31, op := Op.binOp BinOp.eql 34 (Operand.tmp 29) (Operand.tmp 30) 34, type := 4, pos := "ref.go:24", after := #[{ on := 8, ground := Ground.data }, { on := 9, ground := Ground.data }, { on := 4, ground := Ground.guard }], guard := some (4, true) }) (v := .bool r) rfl (by kernel_rfl) (by kernel_rfl) (by kernel_rfl) (fun _ _ _ h => h.elim) (Or.inl ⟨by rfl, ?y10⟩) hS0.out ?_
  case y10 =>
    intro V hV
    go_simp
  simp only [Act.put, List.setIfInBounds_toArray, List.set_cons_zero, List.set_cons_succ]
  refine wpAnyH_take (i := 11) (oi := { dst := some 32, op := Op.pick (Operand.tmp 25) (Operand.tmp 31) (Operand.const (Value.bool false)), type := 4, pos := "ref.go:24", after := #[{ on := 4, ground := Ground.data }, { on := 10, ground := Ground.data }], guard := none }) (v := .bool r) rfl (by kernel_rfl) (by kernel_rfl) (by kernel_rfl) (fun _ _ _ h => h.elim) (Or.inl ⟨by rfl, ?y11⟩) hS0.out ?_
  case y11 =>
    intro V hV
    go_simp
  simp only [Act.put, List.setIfInBounds_toArray, List.set_cons_zero, List.set_cons_succ]
  refine wpAnyH_done (by kernel_rfl) ?_ _
  exact hQ
set_option maxRecDepth 100000 in
set_option maxHeartbeats 2000000 in
theorem with_region4_f {Q : Exit → Act → World → Prop} {x1 x2 x3 x4 x6 x7 x8 x9 x10 x11 x12 x13 x14 x15 x16 x17 x18 x19 x20 x21 x22 x23 x24 x25 x26 x27 x28 x29 x30 x31 x32 x33 x34 x35 x36 x37 x38 x39 x40 x41 x42 x43 x44 x45 x46 x47 : Value} {ds : List Deferred} {A : World} {a : Option Addr} {n c i : Nat}
    (q1 : ¬ (i : Int) < (n : Int))
    (hQ : Q .normal { tmps := #[.slice a n c, x1, x2, x3, x4, .int .i64 (i : Int), x6, x7, x8, x9, x10, x11, x12, x13, x14, x15, x16, x17, x18, x19, x20, .int .i64 (i : Int), .slice a n c, .int .i64 (n : Int), .bool false, .bool false, undef, undef, undef, undef, undef, undef, .bool false, x33, x34, x35, x36, x37, x38, x39, x40, x41, x42, x43, x44, x45, x46, x47], defers := ds } A.drew) :
    (Code.region 4 #[{ dst := some 21, op := Op.move (Operand.tmp 5), type := 3, pos := "ref.go:24", after := #[], guard := none }, { dst := some 22, op := Op.move (Operand.tmp 0), type := 26, pos := "ref.go:24", after := #[], guard := none }, { dst := some 23, op := Op.call { callee := Callee.builtin Builtin.len, args := #[Operand.tmp 22], argTypes := #[26] }, type := 3, pos := "ref.go:24", after := #[{ on := 1, ground := Ground.data }], guard := none }, { dst := some 24, op := Op.binOp BinOp.lss 3 (Operand.tmp 21) (Operand.tmp 23) 3, type := 4, pos := "ref.go:24", after := #[{ on := 0, ground := Ground.data }, { on := 2, ground := Ground.data }], guard := none }, { dst := some 25, op := Op.move (Operand.tmp 24), type := 4, pos := "ref.go:24", after := #[{ on := 3, ground := Ground.data }], guard := none }, { dst := some 26, op := Op.move (Operand.tmp 0), type := 26, pos := "ref.go:24", after := #[{ on := 4, ground := Ground.guard }], guard := some (4, true) }, { dst := some 27, op := Op.move (Operand.tmp 5), type := 3, pos := "ref.go:24", after := #[{ on := 4, ground := Ground.guard }], guard := some (4, true) }, { dst := some 28, op := Op.indexAddr 26 (Operand.tmp 26) (Operand.tmp 27), type := 0, pos := "ref.go:24", after := #[{ on := 5, ground := Ground.data }, { on := 6, ground := Ground.data }, { on := 4, ground := Ground.guard }], guard := some (4, true) }, { dst := some 29, op := Op.load 34 (Operand.tmp 28), type := 34, pos := "ref.go:24", after := #[{ on := 7, ground := Ground.data }, { on := 4, ground := Ground.guard }], guard := some (4, true) }, { dst := some 30, op := Op.load 34 (Operand.tmp 3), type := 34, pos := "ref.go:24", after := #[{ on := 4, ground := Ground.guard }], guard := some (4, true) }, { dst := some 31, op := Op.binOp BinOp.eql 34 (Operand.tmp 29) (Operand.tmp 30) 34, type := 4, pos := "ref.go:24", after := #[{ on := 8, ground := Ground.data }, { on := 9, ground := Ground.data }, { on := 4, ground := Ground.guard }], guard := some (4, true) }, { dst := some 32, op := Op.pick (Operand.tmp 25) (Operand.tmp 31) (Operand.const (Value.bool false)), type := 4, pos := "ref.go:24", after := #[{ on := 4, ground := Ground.data }, { on := 10, ground := Ground.data }], guard := none }] true).wp Try.prog Q { tmps := #[.slice a n c, x1, x2, x3, x4, .int .i64 (i : Int), x6, x7, x8, x9, x10, x11, x12, x13, x14, x15, x16, x17, x18, x19, x20, x21, x22, x23, x24, x25, x26, x27, x28, x29, x30, x31, x32, x33, x34, x35, x36, x37, x38, x39, x40, x41, x42, x43, x44, x45, x46, x47], defers := ds } A := by
  refine Code.wp_mono (Q := fun x a' w' => match x with | .normal => Q .normal a' w' | _ => False) (by intro x a' w' h; cases x <;> first | exact h | exact h.elim) ?_
  refine wp_region_held (S := fun V => Below A.heap.size A V) (by kernel_rfl) ?_
  have hS0 : Hid (Below A.heap.size A A.drew) := below_drew' A
  change wpAnyH Try.prog .any _ _ (fun V => Below A.heap.size A V) 12 (Array.replicate 12 false) _ A.drew
  refine wpAnyH_take (i := 0) (oi := { dst := some 21, op := Op.move (Operand.tmp 5), type := 3, pos := "ref.go:24", after := #[], guard := none }) (v := .int .i64 (i : Int)) rfl (by kernel_rfl) (by kernel_rfl) (by kernel_rfl) (fun _ _ _ h => h.elim) (Or.inl ⟨by rfl, ?y0⟩) hS0.out ?_
  case y0 =>
    intro V hV
    go_simp
  simp only [Act.put, List.setIfInBounds_toArray, List.set_cons_zero, List.set_cons_succ]
  refine wpAnyH_take (i := 1) (oi := { dst := some 22, op := Op.move (Operand.tmp 0), type := 26, pos := "ref.go:24", after := #[], guard := none }) (v := .slice a n c) rfl (by kernel_rfl) (by kernel_rfl) (by kernel_rfl) (fun _ _ _ h => h.elim) (Or.inl ⟨by rfl, ?y1⟩) hS0.out ?_
  case y1 =>
    intro V hV
    go_simp
  simp only [Act.put, List.setIfInBounds_toArray, List.set_cons_zero, List.set_cons_succ]
  refine wpAnyH_take (i := 2) (oi := { dst := some 23, op := Op.call { callee := Callee.builtin Builtin.len, args := #[Operand.tmp 22], argTypes := #[26] }, type := 3, pos := "ref.go:24", after := #[{ on := 1, ground := Ground.data }], guard := none }) (v := .int .i64 (n : Int)) rfl (by kernel_rfl) (by kernel_rfl) (by kernel_rfl) (fun _ _ _ h => h.elim) (Or.inl ⟨by rfl, ?y2⟩) hS0.out ?_
  case y2 =>
    intro V hV
    go_simp
  simp only [Act.put, List.setIfInBounds_toArray, List.set_cons_zero, List.set_cons_succ]
  refine wpAnyH_take (i := 3) (oi := { dst := some 24, op := Op.binOp BinOp.lss 3 (Operand.tmp 21) (Operand.tmp 23) 3, type := 4, pos := "ref.go:24", after := #[{ on := 0, ground := Ground.data }, { on := 2, ground := Ground.data }], guard := none }) (v := .bool false) rfl (by kernel_rfl) (by kernel_rfl) (by kernel_rfl) (fun _ _ _ h => h.elim) (Or.inl ⟨by rfl, ?y3⟩) hS0.out ?_
  case y3 =>
    intro V hV
    go_simp
  simp only [Act.put, List.setIfInBounds_toArray, List.set_cons_zero, List.set_cons_succ]
  refine wpAnyH_take (i := 4) (oi := { dst := some 25, op := Op.move (Operand.tmp 24), type := 4, pos := "ref.go:24", after := #[{ on := 3, ground := Ground.data }], guard := none }) (v := .bool false) rfl (by kernel_rfl) (by kernel_rfl) (by kernel_rfl) (fun _ _ _ h => h.elim) (Or.inl ⟨by rfl, ?y4⟩) hS0.out ?_
  case y4 =>
    intro V hV
    go_simp
  simp only [Act.put, List.setIfInBounds_toArray, List.set_cons_zero, List.set_cons_succ]
  refine wpAnyH_take (i := 5) (oi := { dst := some 26, op := Op.move (Operand.tmp 0), type := 26, pos := "ref.go:24", after := #[{ on := 4, ground := Ground.guard }], guard := some (4, true) }) (v := undef) rfl (by kernel_rfl) (by kernel_rfl) (by kernel_rfl) (fun _ _ _ h => h.elim) (Or.inr ⟨by rfl, rfl⟩) hS0.out ?_
  simp only [Act.put, List.setIfInBounds_toArray, List.set_cons_zero, List.set_cons_succ]
  refine wpAnyH_take (i := 6) (oi := { dst := some 27, op := Op.move (Operand.tmp 5), type := 3, pos := "ref.go:24", after := #[{ on := 4, ground := Ground.guard }], guard := some (4, true) }) (v := undef) rfl (by kernel_rfl) (by kernel_rfl) (by kernel_rfl) (fun _ _ _ h => h.elim) (Or.inr ⟨by rfl, rfl⟩) hS0.out ?_
  simp only [Act.put, List.setIfInBounds_toArray, List.set_cons_zero, List.set_cons_succ]
  refine wpAnyH_take (i := 7) (oi := { dst := some 28, op := Op.indexAddr 26 (Operand.tmp 26) (Operand.tmp 27), type := 0, pos := "ref.go:24", after := #[{ on := 5, ground := Ground.data }, { on := 6, ground := Ground.data }, { on := 4, ground := Ground.guard }], guard := some (4, true) }) (v := undef) rfl (by kernel_rfl) (by kernel_rfl) (by kernel_rfl) (fun _ _ _ h => h.elim) (Or.inr ⟨by rfl, rfl⟩) hS0.out ?_
  simp only [Act.put, List.setIfInBounds_toArray, List.set_cons_zero, List.set_cons_succ]
  refine wpAnyH_take (i := 8) (oi := { dst := some 29, op := Op.load 34 (Operand.tmp 28), type := 34, pos := "ref.go:24", after := #[{ on := 7, ground := Ground.data }, { on := 4, ground := Ground.guard }], guard := some (4, true) }) (v := undef) rfl (by kernel_rfl) (by kernel_rfl) (by kernel_rfl) (fun _ _ _ h => h.elim) (Or.inr ⟨by rfl, rfl⟩) hS0.out ?_
  simp only [Act.put, List.setIfInBounds_toArray, List.set_cons_zero, List.set_cons_succ]
  refine wpAnyH_take (i := 9) (oi := { dst := some 30, op := Op.load 34 (Operand.tmp 3), type := 34, pos := "ref.go:24", after := #[{ on := 4, ground := Ground.guard }], guard := some (4, true) }) (v := undef) rfl (by kernel_rfl) (by kernel_rfl) (by kernel_rfl) (fun _ _ _ h => h.elim) (Or.inr ⟨by rfl, rfl⟩) hS0.out ?_
  simp only [Act.put, List.setIfInBounds_toArray, List.set_cons_zero, List.set_cons_succ]
  refine wpAnyH_take (i := 10) (oi := { dst := some 31, op := Op.binOp BinOp.eql 34 (Operand.tmp 29) (Operand.tmp 30) 34, type := 4, pos := "ref.go:24", after := #[{ on := 8, ground := Ground.data }, { on := 9, ground := Ground.data }, { on := 4, ground := Ground.guard }], guard := some (4, true) }) (v := undef) rfl (by kernel_rfl) (by kernel_rfl) (by kernel_rfl) (fun _ _ _ h => h.elim) (Or.inr ⟨by rfl, rfl⟩) hS0.out ?_
  simp only [Act.put, List.setIfInBounds_toArray, List.set_cons_zero, List.set_cons_succ]
  refine wpAnyH_take (i := 11) (oi := { dst := some 32, op := Op.pick (Operand.tmp 25) (Operand.tmp 31) (Operand.const (Value.bool false)), type := 4, pos := "ref.go:24", after := #[{ on := 4, ground := Ground.data }, { on := 10, ground := Ground.data }], guard := none }) (v := .bool false) rfl (by kernel_rfl) (by kernel_rfl) (by kernel_rfl) (fun _ _ _ h => h.elim) (Or.inl ⟨by rfl, ?y11⟩) hS0.out ?_
  case y11 =>
    intro V hV
    go_simp
  simp only [Act.put, List.setIfInBounds_toArray, List.set_cons_zero, List.set_cons_succ]
  refine wpAnyH_done (by kernel_rfl) ?_ _
  exact hQ
end Go.Proofs.Ytijkpkcopjkhkaa.Oct

/- Layer 12 (deps): slices.SortFunc as this program bears it: the body of which the library's contract was proved. -/
namespace Go.Proofs.Ytijkpkcopjkhkaa.Oct
open Go.Shelf
def laysSF_ren : Go.Shelf.Ren := ⟨fun | 6 => 46 | 15 => 51 | 14 => 50 | 28 => 61 | 29 => 62 | 20 => 53 | 21 => 54 | 22 => 55 | 23 => 56 | 24 => 57 | 25 => 58 | 26 => 59 | 27 => 60 | 46 => 63 | 47 => 64 | 48 => 65 | 49 => 66 | 50 => 67 | 57 => 68 | n => n, fun | 22 => 26 | 24 => 34 | 25 => 67 | 3 => 3 | 39 => 41 | 0 => 0 | 53 => 85 | 55 => 87 | 4 => 4 | 46 => 79 | 45 => 78 | 50 => 61 | 5 => 5 | 9 => 9 | 66 => 88 | 70 => 92 | 76 => 94 | 77 => 95 | n => n, fun | n => n⟩
theorem laysSF : Go.Proofs.SlLaysF0.n6 Try.prog laysSF_ren := {
  mixed := by kernel_rfl
  f6 := ⟨Try.f46.name, by decide, Try.func46.trans (congrArg some (by kernel_rfl))⟩
  f14 := ⟨Try.f50.name, by decide, Try.func50.trans (congrArg some (by kernel_rfl))⟩
  f15 := Try.func51.trans (congrArg some (by kernel_rfl))
  f20 := ⟨Try.f53.name, by decide, Try.func53.trans (congrArg some (by kernel_rfl))⟩
  f21 := ⟨Try.f54.name, by decide, Try.func54.trans (congrArg some (by kernel_rfl))⟩
  f22 := ⟨Try.f55.name, by decide, Try.func55.trans (congrArg some (by kernel_rfl))⟩
  f23 := ⟨Try.f56.name, by decide, Try.func56.trans (congrArg some (by kernel_rfl))⟩
  f24 := ⟨Try.f57.name, by decide, Try.func57.trans (congrArg some (by kernel_rfl))⟩
  f25 := ⟨Try.f58.name, by decide, Try.func58.trans (congrArg some (by kernel_rfl))⟩
  f26 := ⟨Try.f59.name, by decide, Try.func59.trans (congrArg some (by kernel_rfl))⟩
  f27 := ⟨Try.f60.name, by decide, Try.func60.trans (congrArg some (by kernel_rfl))⟩
  f28 := Try.func61.trans (congrArg some (by kernel_rfl))
  f29 := Try.func62.trans (congrArg some (by kernel_rfl))
  f46 := ⟨Try.f63.name, by decide, Try.func63.trans (congrArg some (by kernel_rfl))⟩
  f47 := Try.func64.trans (congrArg some (by kernel_rfl))
  f48 := Try.func65.trans (congrArg some (by kernel_rfl))
  f49 := ⟨Try.f66.name, by decide, Try.func66.trans (congrArg some (by kernel_rfl))⟩
  f50 := ⟨Try.f67.name, by decide, Try.func67.trans (congrArg some (by kernel_rfl))⟩
  f57 := ⟨Try.f68.name, by decide, Try.func68.trans (congrArg some (by kernel_rfl))⟩
  t0 := Try.underlying0
  a0 := Try.isAgg0
  z0 := Try.sizeOf0
  v0 := Try.zeroValue0
  t3 := Try.underlying3
  a3 := Try.isAgg3
  z3 := Try.sizeOf3
  v3 := Try.zeroValue3
  t4 := Try.underlying4
  a4 := Try.isAgg4
  z4 := Try.sizeOf4
  v4 := Try.zeroValue4
  t5 := Try.underlying5
  a5 := Try.isAgg5
  z5 := Try.sizeOf5
  v5 := Try.zeroValue5
  t9 := Try.underlying9
  a9 := Try.isAgg9
  z9 := Try.sizeOf9
  v9 := Try.zeroValue9
  t22 := Try.underlying26
  a22 := Try.isAgg26
  z22 := Try.sizeOf26
  v22 := Try.zeroValue26
  t25 := Try.underlying67
  a25 := Try.isAgg67
  z25 := Try.sizeOf67
  v25 := Try.zeroValue67
  t39 := Try.underlying41
  a39 := Try.isAgg41
  z39 := Try.sizeOf41
  v39 := Try.zeroValue41
  t45 := Try.underlying78
  a45 := Try.isAgg78
  z45 := Try.sizeOf78
  v45 := Try.zeroValue78
  t46 := Try.underlying79
  a46 := Try.isAgg79
  z46 := Try.sizeOf79
  v46 := Try.zeroValue79
  t50 := Try.underlying61
  a50 := Try.isAgg61
  z50 := Try.sizeOf61
  v50 := Try.zeroValue61
  t53 := Try.underlying85
  a53 := Try.isAgg85
  z53 := Try.sizeOf85
  v53 := Try.zeroValue85
  t55 := Try.underlying87
  a55 := Try.isAgg87
  z55 := Try.sizeOf87
  v55 := Try.zeroValue87
  t66 := Try.underlying88
  a66 := Try.isAgg88
  z66 := Try.sizeOf88
  v66 := Try.zeroValue88
  t70 := Try.underlying92
  a70 := Try.isAgg92
  z70 := Try.sizeOf92
  v70 := Try.zeroValue92
  t76 := Try.underlying94
  a76 := Try.isAgg94
  z76 := Try.sizeOf94
  v76 := Try.zeroValue94
  t77 := Try.underlying95
  a77 := Try.isAgg95
  z77 := Try.sizeOf95
  v77 := Try.zeroValue95 }
end Go.Proofs.Ytijkpkcopjkhkaa.Oct

/- Layer 12 (deps): bytes.Compare of two hashes; their order. -/
namespace Go.Proofs.Ytijkpkcopjkhkaa.Oct
open Go.RowKit Go.Shelf Go.Lib Go.Sort

theorem run_loadBytes (W : World) (g : Nat) : ∀ (l : Hs) (o : Nat) (acc : ByteArray), W.rangeAt g o (U l) → (Extern.Bytes.loadBytes ⟨g, o, none⟩ l.length acc).run Try.prog W = .ok ⟨(acc.data.toList ++ l).toArray⟩ W
  | [], o, acc, _ => by simp [Extern.Bytes.loadBytes]
  | c :: l, o, acc, h => by
    have h0 := h 0 (.int .u8 (c.toNat : Int)) rfl
    have ih := run_loadBytes W g l (o + 1) (acc.push c) (by
      intro j v hj
      have := h (j + 1) v (by simpa [U] using hj)
      rw [show o + (j + 1) = o + 1 + j by omega] at this
      exact this)
    have hl : (load ⟨g, o, none⟩).run Try.prog W = .ok (.int .u8 (c.toNat : Int)) W := by
      have := h0
      simp only [Nat.add_zero] at this
      go_simp
    simp only [List.length_cons, Extern.Bytes.loadBytes, Sem.run_bind, hl, Result.andThen_ok]
    have hc : (c.toNat : Int).toNat.toUInt8 = c := by simp
    rw [hc]
    rw [show (⟨g, o, none⟩ : Addr).add 1 = ⟨g, o + 1, none⟩ from rfl, ih]
    simp
theorem run_compare (W : World) (g o g2 o2 c c2 : Nat) (x y : Hs) (hx : W.rangeAt g o (U x)) (hy : W.rangeAt g2 o2 (U y)) :
    (Extern.BytealgCompare.compare #[.slice (some ⟨g, o, none⟩) x.length c, .slice (some ⟨g2, o2, none⟩) y.length c2]).run Try.prog W = .ok (.int .i64 (compareBytes x y)) W := by
  have h1 := run_loadBytes W g x o .empty hx
  have h2 := run_loadBytes W g2 y o2 .empty hy
  show (do pure (goInt (Extern.BytealgCompare.cmp (← Extern.Bytes.bytesOf (.slice (some ⟨g, o, none⟩) x.length c)) (← Extern.Bytes.bytesOf (.slice (some ⟨g2, o2, none⟩) y.length c2)))) : Sem Value).run Try.prog W = _
  simp only [Extern.Bytes.bytesOf, Sem.run_bind, h1, h2, Result.andThen_ok, cmp_eq]
  simp [goInt]

theorem cmp41 (w : World) (g o g2 o2 c c2 : Nat) (x y : Hs) (hx : w.rangeAt g o (U x)) (hy : w.rangeAt g2 o2 (U y)) (hxl : x.length = 32) (hyl : y.length = 32) :
    Calls Try.prog 41 #[.slice (some ⟨g, o, none⟩) 32 c, .slice (some ⟨g2, o2, none⟩) 32 c2] w fun e w' => e = .returned (.int .i64 (compareBytes x y)) ∧ w = w' := by
  have HR := run_compare w g o g2 o2 c c2 x y hx hy
  rw [hxl, hyl] at HR
  have H : Hid ((Extern.BytealgCompare.compare #[.slice (some ⟨g, o, none⟩) 32 c, .slice (some ⟨g2, o2, none⟩) 32 c2]).run Try.prog w = .ok (.int .i64 (compareBytes x y)) w) := HR
  clear HR hx hy
  generalize compareBytes x y = r at *
  go_enter Try.func41, Try.ntmps41
  go_wp2
  rw [run_callFunc_extern Try.func47 (by kernel_rfl) (by kernel_rfl) (by kernel_rfl) (e := Extern.BytealgCompare.compare) (by kernel_rfl), H.out]
  simp only [Result.andThen]
  rw [Oper.upon_value]
  go_wp2
  go_ret
  exact ⟨rfl, rfl⟩
end Go.Proofs.Ytijkpkcopjkhkaa.Oct

/- Layer 12 (deps): the comparison that the sort is handed: its one statement, whatever its order. -/
namespace Go.Proofs.Ytijkpkcopjkhkaa.Oct
open Go.RowKit

set_option maxRecDepth 100000 in
set_option maxHeartbeats 2000000 in
theorem cmp_region {Q : Exit → Act → World → Prop} {x0 x1 x4 x5 x6 x7 : Value} {ds : List Deferred} {A : World} {b1 b2 : Nat} {cx cy : List Value} {r : Int}
    (h41 : ∀ V : World, V.rangeAt b1 0 cx → V.rangeAt b2 0 cy → Calls Try.prog 41 #[.slice (some ⟨b1, 0, none⟩) 32 32, .slice (some ⟨b2, 0, none⟩) 32 32] V fun e w' => e = .returned (.int .i64 r) ∧ V = w') (hS : A.drew.rangeAt b1 0 cx ∧ A.drew.rangeAt b2 0 cy)
    (hQ : Q .normal { tmps := #[x0, x1, .pointer (some ⟨b1, 0, none⟩), .pointer (some ⟨b2, 0, none⟩), .int .i64 r, .slice (some ⟨b1, 0, none⟩) 32 32, .slice (some ⟨b2, 0, none⟩) 32 32, .int .i64 r], defers := ds } A.drew) :
    (Code.region 1 #[{ dst := some 5, op := Op.slice 34 (Operand.tmp 2) none none none, type := 64, pos := "deps.go:53", after := #[], guard := none }, { dst := some 6, op := Op.slice 34 (Operand.tmp 3) none none none, type := 64, pos := "deps.go:53", after := #[], guard := none }, { dst := some 7, op := Op.call { callee := Callee.value (Operand.func 41), args := #[Operand.tmp 5, Operand.tmp 6], argTypes := #[64, 64] }, type := 3, pos := "deps.go:53", after := #[{ on := 0, ground := Ground.data }, { on := 1, ground := Ground.data }], guard := none }, { dst := some 4, op := Op.assign (Operand.tmp 7), type := 3, pos := "deps.go:53", after := #[{ on := 2, ground := Ground.data }, { on := 2, ground := Ground.chain }, { on := 0, ground := Ground.phase }, { on := 1, ground := Ground.phase }, { on := 2, ground := Ground.phase }], guard := none }] true).wp Try.prog Q { tmps := #[x0, x1, .pointer (some ⟨b1, 0, none⟩), .pointer (some ⟨b2, 0, none⟩), x4, x5, x6, x7], defers := ds } A := by
  refine Code.wp_mono (Q := fun x a' w' => match x with | .normal => Q .normal a' w' | _ => False) (by intro x a' w' h; cases x <;> first | exact h | exact h.elim) ?_
  obtain ⟨S, hSd⟩ : ∃ S : World → Prop, S = fun W => W.rangeAt b1 0 cx ∧ W.rangeAt b2 0 cy := ⟨_, rfl⟩
  refine wp_region_held (S := S) (by kernel_rfl) ?_
  have hS' : S A.drew := by rw [hSd]; exact hS
  clear hS
  change wpAnyH Try.prog .any _ _ S 4 (Array.replicate 4 false) _ A.drew
  refine wpAnyH_take (i := 0) (oi := { dst := some 5, op := Op.slice 34 (Operand.tmp 2) none none none, type := 64, pos := "deps.go:53", after := #[], guard := none }) (v := .slice (some ⟨b1, 0, none⟩) 32 32) rfl (by kernel_rfl) (by kernel_rfl) (by kernel_rfl) (fun _ _ _ h => h.elim) (Or.inl ⟨by rfl, ?y0⟩) hS' ?_
  case y0 =>
    intro W hW
    rw [hSd] at hW; obtain ⟨s1, s2⟩ := hW
    go_simp
  simp only [Act.put, List.setIfInBounds_toArray, List.set_cons_zero, List.set_cons_succ]
  refine wpAnyH_take (i := 1) (oi := { dst := some 6, op := Op.slice 34 (Operand.tmp 3) none none none, type := 64, pos := "deps.go:53", after := #[], guard := none }) (v := .slice (some ⟨b2, 0, none⟩) 32 32) rfl (by kernel_rfl) (by kernel_rfl) (by kernel_rfl) (fun _ _ _ h => h.elim) (Or.inl ⟨by rfl, ?y1⟩) hS' ?_
  case y1 =>
    intro W hW
    rw [hSd] at hW; obtain ⟨s1, s2⟩ := hW
    go_simp
  simp only [Act.put, List.setIfInBounds_toArray, List.set_cons_zero, List.set_cons_succ]
  refine wpAnyH_ready (rs := [2]) (by kernel_rfl) (by simp) (AllReadyH.cons (i := 2) (o := { dst := some 7, op := Op.call { callee := Callee.value (Operand.func 41), args := #[Operand.tmp 5, Operand.tmp 6], argTypes := #[64, 64] }, type := 3, pos := "deps.go:53", after := #[{ on := 0, ground := Ground.data }, { on := 1, ground := Ground.data }], guard := none }) rfl ?_ AllReadyH.nil)
  intro K1 hK1
  rw [if_pos (by rfl)]
  have H41 := h41 A.drew (by rw [hSd] at hS'; exact hS'.1) (by rw [hSd] at hS'; exact hS'.2)
  clear h41
  go_wp2_with fail
  refine H41.mono ?_
  rintro e w' ⟨rfl, rfl⟩
  dsimp only
  refine hK1.out _ _ (by rw [hSd]; rw [hSd] at hS'; exact hS') ?_
  clear hS' hK1
  intro hS'
  try simp only [Act.put, List.setIfInBounds_toArray, List.set_cons_zero, List.set_cons_succ]
  refine wpAnyH_take (i := 3) (oi := { dst := some 4, op := Op.assign (Operand.tmp 7), type := 3, pos := "deps.go:53", after := #[{ on := 2, ground := Ground.data }, { on := 2, ground := Ground.chain }, { on := 0, ground := Ground.phase }, { on := 1, ground := Ground.phase }, { on := 2, ground := Ground.phase }], guard := none }) (v := .int .i64 r) rfl (by kernel_rfl) (by kernel_rfl) (by kernel_rfl) (fun _ _ _ h => h.elim) (Or.inl ⟨by rfl, ?y3⟩) hS' ?_
  case y3 =>
    intro W hW
    rw [hSd] at hW; obtain ⟨s1, s2⟩ := hW
    go_simp
  simp only [Act.put, List.setIfInBounds_toArray, List.set_cons_zero, List.set_cons_succ]
  refine wpAnyH_done (by kernel_rfl) ?_ _
  exact hQ
end Go.Proofs.Ytijkpkcopjkhkaa.Oct

/- Layer 12 (deps): the order of hashes; the comparison that the sort is handed. -/
namespace Go.Proofs.Ytijkpkcopjkhkaa.Oct
open Go.RowKit Go.Shelf Go.Lib Go.Sort

theorem u8_tri (a b : UInt8) : a < b ∨ a = b ∨ b < a := by
  rw [UInt8.lt_iff_toNat_lt, UInt8.lt_iff_toNat_lt, ← UInt8.toNat_inj]; omega
theorem u8_not {a b : UInt8} (h : a < b) : ¬ b < a := by rw [UInt8.lt_iff_toNat_lt] at *; omega
theorem u8_irr (a : UInt8) : ¬ a < a := by rw [UInt8.lt_iff_toNat_lt]; omega
theorem u8_tr {a b c : UInt8} (h : a < b) (k : b < c) : a < c := by rw [UInt8.lt_iff_toNat_lt] at *; omega
theorem cb_self : ∀ a : Hs, compareBytes a a = 0
  | [] => rfl
  | c :: a => by unfold compareBytes; rw [if_neg (u8_irr c), if_neg (u8_irr c)]; exact cb_self a
theorem cb_swap : ∀ a b : Hs, compareBytes b a = - compareBytes a b
  | [], [] => rfl
  | [], _ :: _ => rfl
  | _ :: _, [] => rfl
  | x :: a, y :: b => by
    unfold compareBytes
    rcases u8_tri x y with h | rfl | h
    · rw [if_neg (u8_not h), if_pos h, if_pos h]; rfl
    · simp only [u8_irr x, if_false]; exact cb_swap a b
    · rw [if_pos h, if_neg (u8_not h), if_pos h]
theorem cb_zero : ∀ a b : Hs, compareBytes a b = 0 → a = b
  | [], [], _ => rfl
  | [], _ :: _, h => by simp [compareBytes] at h
  | _ :: _, [], h => by simp [compareBytes] at h
  | x :: a, y :: b, h => by
    unfold compareBytes at h
    rcases u8_tri x y with h1 | rfl | h1
    · rw [if_pos h1] at h; omega
    · rw [if_neg (u8_irr x), if_neg (u8_irr x)] at h; rw [cb_zero a b h]
    · rw [if_neg (u8_not h1), if_pos h1] at h; omega
theorem cb_trans : ∀ a b c : Hs, compareBytes a b < 0 → compareBytes b c < 0 → compareBytes a c < 0
  | [], [], _, h, _ => by simp [compareBytes] at h
  | _ :: _, [], _, h, _ => by simp [compareBytes] at h
  | [], _ :: _, [], _, h => by simp [compareBytes] at h
  | [], _ :: _, _ :: _, _, _ => by simp [compareBytes]
  | _ :: _, _ :: _, [], _, h => by simp [compareBytes] at h
  | x :: a, y :: b, z :: c, h, k => by
    unfold compareBytes at h k ⊢
    rcases u8_tri x y with h1 | rfl | h1
    · rcases u8_tri y z with k1 | rfl | k1
      · rw [if_pos (u8_tr h1 k1)]; omega
      · rw [if_pos h1]; omega
      · rw [if_neg (u8_not k1), if_pos k1] at k; omega
    · rcases u8_tri x z with k1 | rfl | k1
      · rw [if_pos k1]; omega
      · rw [if_neg (u8_irr x), if_neg (u8_irr x)] at h k ⊢
        exact cb_trans a b c h k
      · rw [if_neg (u8_not k1), if_pos k1] at k; omega
    · rw [if_neg (u8_not h1), if_pos h1] at h; omega
/-- one hash stands ahead of another -/
def LtH (a b : Hs) : Prop := compareBytes a b < 0
instance (a b : Hs) : Decidable (LtH a b) := inferInstanceAs (Decidable (compareBytes a b < 0))
theorem LtH.irr (a : Hs) : ¬ LtH a a := by unfold LtH; rw [cb_self]; omega
theorem LtH.tr {a b c : Hs} (h : LtH a b) (k : LtH b c) : LtH a c := cb_trans a b c h k
theorem LtH.tri (a b : Hs) : LtH a b ∨ a = b ∨ LtH b a := by
  unfold LtH
  have h := cb_swap a b
  by_cases h0 : compareBytes a b = 0
  · exact .inr (.inl (cb_zero a b h0))
  · omega
theorem LtH.asymm {a b : Hs} (h : LtH a b) : ¬ LtH b a := fun k => LtH.irr a (h.tr k)

/-- hashes of 32 bytes -/
abbrev H32 := { h : Hs // h.length = 32 }
instance : Inhabited H32 := ⟨⟨List.replicate 32 0, by simp⟩⟩
def enc32 (x : H32) : List Value := U x.1
def cf32 (x y : H32) : Int := compareBytes x.1 y.1
theorem lt32 (x y : H32) : ltOf cf32 x y = decide (LtH x.1 y.1) := rfl
theorem swo32 : SWO (ltOf cf32) where
  irrefl x := by rw [lt32]; simpa using LtH.irr x.1
  trans x y z h1 h2 := by rw [lt32] at *; simp at *; exact h1.tr h2
  ntrans x y z h1 h2 := by
    rw [lt32] at *
    simp only [decide_eq_false_iff_not] at *
    intro h
    rcases LtH.tri x.1 y.1 with h3 | h3 | h3
    · exact h1 h3
    · rw [h3] at h; exact h2 h
    · exact h2 (h3.tr h)
theorem total32 (x y : H32) (h1 : ltOf cf32 x y = false) (h2 : ltOf cf32 y x = false) : x = y := by
  rw [lt32] at *
  simp only [decide_eq_false_iff_not] at *
  rcases LtH.tri x.1 y.1 with h3 | h3 | h3
  · exact absurd h3 h1
  · exact Subtype.ext h3
  · exact absurd h3 h2

set_option maxRecDepth 100000 in
set_option maxHeartbeats 1000000 in
theorem closure40 (x y : Hs) (hx : x.length = 32) (hy : y.length = 32) (W : World) : Calls Try.prog 40 #[.agg (U x).toArray, .agg (U y).toArray] W fun e w' => e = .returned (.int .i64 (compareBytes x y)) ∧ ∃ q os', w' = grow (W.drewN q) os' := by
  have HX : Hid (((W.alloc (.cells (U x).toArray 34)).alloc (.cells (U y).toArray 34)).rangeAt W.heap.size 0 (U x) ∧ ((W.alloc (.cells (U x).toArray 34)).alloc (.cells (U y).toArray 34)).rangeAt (W.heap.size + 1) 0 (U y)) := by
    constructor
    · refine rangeAt_same (new34 W x) (Below.heap_alloc _ _ _ (by simp))
    · have := new34 (W.alloc (.cells (U x).toArray 34)) y
      rw [World.size_alloc] at this
      exact this
  have H41 : Hid (∀ V : World, V.rangeAt W.heap.size 0 (U x) → V.rangeAt (W.heap.size + 1) 0 (U y) → Calls Try.prog 41 #[.slice (some ⟨W.heap.size, 0, none⟩) 32 32, .slice (some ⟨W.heap.size + 1, 0, none⟩) 32 32] V fun e w' => e = .returned (.int .i64 (compareBytes x y)) ∧ V = w') := fun V h1 h2 => cmp41 V _ _ _ _ _ _ x y h1 h2 hx hy
  generalize compareBytes x y = r at *
  go_enter Try.func40, Try.ntmps40
  go_wp2
  refine cmp_region H41.out HX.out ?_
  go_wp2
  go_ret
  refine ⟨rfl, 1, #[.cells (U x).toArray 34] ++ #[.cells (U y).toArray 34], ?_⟩
  rw [alloc_eq_grow, alloc_eq_grow, grow_grow]
  rfl
theorem cmpLays40 (blk off size : Nat) (w : World) : CmpLays Try.prog 40 #[] enc32 32 cf32 blk off size w :=
  fun _ _ _ _ x y => closure40 x.1 y.1 x.2 y.2 _
end Go.Proofs.Ytijkpkcopjkhkaa.Oct

/- Layer 12 (deps): hashes put in order. -/
namespace Go.Proofs.Ytijkpkcopjkhkaa.Oct
open Go.RowKit Go.Shelf Go.Lib Go.Sort

def toH (hs : List Hs) (hl : ∀ h ∈ hs, h.length = 32) : List H32 := hs.attach.map fun x => ⟨x.1, hl x.1 x.2⟩
theorem toH_val (hs : List Hs) (hl : ∀ h ∈ hs, h.length = 32) : (toH hs hl).map (·.1) = hs := by
  unfold toH
  rw [List.map_map]
  show hs.attach.map (fun x => x.1) = hs
  simp
theorem toH_length (hs : List Hs) (hl : ∀ h ∈ hs, h.length = 32) : (toH hs hl).length = hs.length := by simp [toH]
theorem rise_eq : ∀ {a b : List Hs}, a.Pairwise LtH → b.Pairwise LtH → (∀ x, x ∈ a ↔ x ∈ b) → a = b
  | [], [], _, _, _ => rfl
  | [], y :: b, _, _, h => absurd ((h y).2 (by simp)) (by simp)
  | x :: a, [], _, _, h => absurd ((h x).1 (by simp)) (by simp)
  | x :: a, y :: b, ha, hb, h => by
    have ha' := List.pairwise_cons.1 ha
    have hb' := List.pairwise_cons.1 hb
    have hxy : x = y := by
      rcases LtH.tri x y with h1 | h1 | h1
      · have := (h x).1 (by simp)
        rcases List.mem_cons.1 this with h2 | h2
        · exact h2
        · exact absurd (h1.tr (hb'.1 x h2)) (LtH.irr x)
      · exact h1
      · have := (h y).2 (by simp)
        rcases List.mem_cons.1 this with h2 | h2
        · exact h2.symm
        · exact absurd (h1.tr (ha'.1 y h2)) (LtH.irr y)
    subst hxy
    congr 1
    refine rise_eq ha'.2 hb'.2 fun z => ?_
    have hz := h z
    simp only [List.mem_cons] at hz
    constructor
    · intro hm
      rcases hz.1 (.inr hm) with h1 | h1
      · subst h1; exact absurd (ha'.1 z hm) (LtH.irr z)
      · exact h1
    · intro hm
      rcases hz.2 (.inr hm) with h1 | h1
      · subst h1; exact absurd (hb'.1 z hm) (LtH.irr z)
      · exact h1
theorem holds_of {w : World} {g : Nat} {hs : List Hs} (hl : ∀ h ∈ hs, h.length = 32) {cur : Array Value} (hg : w.heap[g]? = some (.cells cur 34 (0, 0))) (hr : ∀ i h, hs[i]? = some h → w.rangeAt g (0 + i * 32) (U h)) : HoldsK enc32 32 w g 0 (toH hs hl).toArray := by
  intro j hj
  have hj' : j < hs.length * 32 := by simpa [toH_length] using hj
  refine ⟨?_, frozen_of_row w g _ _ 34 hg⟩
  have hi : j / 32 < hs.length := by omega
  have hd : ((toH hs hl).toArray[j / 32]!).1 = hs[j / 32] := by
    have e : ((toH hs hl)[j / 32]?).map (·.1) = some hs[j / 32] := by
      rw [← List.getElem?_map, toH_val, List.getElem?_eq_getElem hi]
    have hlt : j / 32 < (toH hs hl).length := by rw [toH_length]; exact hi
    rw [List.getElem?_eq_getElem hlt] at e
    simp only [Option.map_some, Option.some.injEq] at e
    rw [getElem!_pos _ _ (by simpa using hlt)]
    simpa using e
  have hc := hr (j / 32) hs[j / 32] (List.getElem?_eq_getElem hi) (j % 32)
  have hlen : (U hs[j / 32]).length = 32 := by rw [U_length, hl _ (List.getElem_mem hi)]
  have hc2 := hc (U hs[j / 32])[j % 32] (List.getElem?_eq_getElem (by omega))
  rw [show 0 + j / 32 * 32 + j % 32 = 0 + j by omega] at hc2
  rw [hc2, get_flatK _ _ _ _ (by simpa [toH_length] using hj')]
  simp only [id]
  unfold enc32
  rw [hd, getElem!_pos _ _ (by omega)]
theorem of_holds {w : World} {g : Nat} {d : List H32} (h : HoldsK enc32 32 w g 0 d.toArray) (hg : g < w.heap.size) : HsR w (some ⟨g, 0, none⟩) d.length (d.map (·.1)) := by
  refine ⟨by simp, fun x hx => ?_, fun _ => ⟨g, 0, rfl, hg, fun i x hi => ?_⟩⟩
  · obtain ⟨y, _, rfl⟩ := List.mem_map.1 hx
    exact y.2
  · rw [List.getElem?_map] at hi
    obtain ⟨y, hy, rfl⟩ := Option.map_eq_some_iff.1 hi
    obtain ⟨hlt, hy2⟩ := List.getElem?_eq_some_iff.1 hy
    intro c v hv
    have hc : c < 32 := by have := (List.getElem?_eq_some_iff.1 hv).1; rw [U_length, y.2] at this; exact this
    have h1 := (h (i * 32 + c) (by simp; omega)).1
    rw [get_flatK _ _ _ _ (by simp; omega), show (i * 32 + c) / 32 = i by omega, show (i * 32 + c) % 32 = c by omega] at h1
    simp only [id] at h1
    rw [show 0 + i * 32 + c = 0 + (i * 32 + c) by omega, h1]
    have e : d.toArray[i]! = y := by rw [getElem!_pos _ _ (by simpa using hlt)]; simpa using hy2
    rw [e]
    unfold enc32
    rw [getElem!_pos _ _ (by rw [U_length, y.2]; exact hc)]
    have := (List.getElem?_eq_some_iff.1 hv).2
    rw [this]
theorem grown_sort (w : World) (g m : Nat) (d : Array H32) (os : Array Obj) : w.grownBy (sortWorldK enc32 32 w g 0 m d os) (some g) := by
  refine ⟨rfl, rfl, rfl, ?_, fun k hk hne => ?_⟩
  · simp [sortWorldK, grow, putRowK, putRow, mapBlock]
  · unfold sortWorldK
    rw [heap_grow_old _ _ (by simpa [putRowK, putRow, mapBlock, ahead] using hk)]
    have hkg : g ≠ k := fun e => hne (by rw [e])
    simp [putRowK, putRow, mapBlock, Array.getElem?_modify, hkg]
theorem sort46 (w : World) (B g n cap : Nat) (hs : List Hs) (hl : ∀ h ∈ hs, h.length = 32) (hnd : hs.Nodup) (ho : w.ownsRow B 34 32 (.slice (some ⟨g, 0, none⟩) n cap) n (UU hs)) (hn : n ≤ 1000000) :
    Calls Try.prog 46 #[.slice (some ⟨g, 0, none⟩) n cap, .func (.func 40) #[] #[]] w fun e w' => e = .returned (.tuple #[]) ∧ ∃ hs', Hid (hs'.Perm hs ∧ hs'.Pairwise LtH ∧ HsR w' (some ⟨g, 0, none⟩) n hs') ∧ Hid (w.grownBy w' (some g)) := by
  have hlen : hs.length = n := by have := ho.1; rw [UU_length hl] at this; omega
  rcases ho.2 with ⟨h1, _⟩ | ⟨g', cap', cur, h1, h2, h3, h4, h5, h6, h7⟩
  · cases h1
  obtain ⟨rfl, rfl⟩ : g = g' ∧ cap = cap' := by
    simp only [Value.slice.injEq, Option.some.injEq, Addr.mk.injEq] at h1
    exact ⟨h1.1.1, h1.2.2⟩
  have hr : ∀ i h, hs[i]? = some h → w.rangeAt g (0 + i * 32) (U h) := (rangeAt_UU hs 0 hl).2 (by
    intro j u hj
    have := ho.cells (g := g) rfl j u hj
    rw [Addr.add_lit] at this
    exact this)
  have hH := holds_of hl h3 hr
  have eg : ∀ args w, (callFunc 40 args).run Try.prog w = .ok (.enter 40 args) w := enters_of Try.func40 (by kernel_rfl) rfl
  have hg := (Array.getElem?_eq_some_iff.1 h3).1
  have hcon := AnyQ.slices_SortFunc_total laysSF 32 Try.isAgg34 Try.sizeOf34 enc32 (fun x => by unfold enc32; rw [U_length, x.2]) (fun x v hv => U_one x.1 v hv) cf32 swo32 40 #[] g 0 cap (toH hs hl).toArray w eg (cmpLays40 g 0 _ w) hH hg (by simp [toH_length]; omega) total32
  change Calls Try.prog 46 _ _ _ at hcon
  have hsz : (toH hs hl).toArray.size = n := by simp [toH_length, hlen]
  rw [hsz] at hcon
  refine hcon.mono ?_
  rintro e w' ⟨rfl, m, os, rfl⟩
  refine ⟨rfl, (((toH hs hl).toArray.toList.mergeSort fun x y => !ltOf cf32 y x)).map (·.1), ⟨?_, ?_, ?_⟩, grown_sort w g m _ os⟩
  · have := (List.mergeSort_perm (toH hs hl) fun x y => !ltOf cf32 y x).map (·.1)
    rw [toH_val] at this
    simpa using this
  · have hs1 : ((toH hs hl).toArray.toList.mergeSort fun x y => !ltOf cf32 y x).Pairwise (fun x y => (!ltOf cf32 y x) = true) := by
      refine List.pairwise_mergeSort ?_ ?_ _
      · intro a b c h1 h2
        simp only [Bool.not_eq_true'] at *
        exact swo32.ntrans c b a h2 h1
      · intro a b
        rw [Bool.or_eq_true]
        simp only [Bool.not_eq_true']
        by_cases hab : ltOf cf32 b a = false
        · exact .inl hab
        · refine .inr ?_
          cases hba : ltOf cf32 a b with
          | false => rfl
          | true =>
            have := swo32.trans a b a hba (by simpa using hab)
            rw [swo32.irrefl] at this
            cases this
    have hp := (List.mergeSort_perm (toH hs hl) fun x y => !ltOf cf32 y x).map (·.1)
    rw [toH_val] at hp
    have hnd2 : (((toH hs hl).toArray.toList.mergeSort fun x y => !ltOf cf32 y x).map (·.1)).Nodup := by
      have := hp.nodup_iff.2 hnd
      simpa using this
    rw [List.pairwise_map]
    have hne := List.pairwise_map.1 hnd2
    refine List.Pairwise.imp ?_ (hs1.and hne)
    rintro x y ⟨h1, h2⟩
    rw [lt32] at h1
    simp only [Bool.not_eq_true', decide_eq_false_iff_not] at h1
    rcases LtH.tri x.1 y.1 with h3 | h3 | h3
    · exact h3
    · exact absurd h3 h2
    · exact absurd h3 h1
  · have hk : HoldsK enc32 32 (sortWorldK enc32 32 w g 0 m ((toH hs hl).toArray.toList.mergeSort fun x y => !ltOf cf32 y x).toArray os) g 0 ((toH hs hl).toArray.toList.mergeSort fun x y => !ltOf cf32 y x).toArray := by
      unfold sortWorldK
      apply holdsK_grow
      · simpa [putRowK, putRow, mapBlock, ahead] using hg
      · apply holdsK_putRowK (d0 := (toH hs hl).toArray)
        · exact hH
        · simp
    have := of_holds hk (Nat.lt_of_lt_of_le hg (grown_sort w g m _ os).size)
    rw [List.length_mergeSort] at this
    simpa [toH_length, hlen] using this
end Go.Proofs.Ytijkpkcopjkhkaa.Oct

/- Layer 12 (deps): a set's hashes in order. -/
namespace Go.Proofs.Ytijkpkcopjkhkaa.Oct
open Go.RowKit

section
variable {ops : Array Oper} {rest : List Oper} {o : Oper} {a : Act} {w : World} {Q : Exit → Act → World → Prop}
theorem wpList_slen (hg : o.guard = none) (m : Operand) (hop : o.op = Op.call { callee := Callee.builtin Builtin.len, args := #[m], argTypes := #[43] }) (b : Nat) (ks : List Hs) (hm : a.eval m = .map (some b)) (hs : SM w b ks)
    (hK : wpList Try.prog ops Q rest (a.put o.dst (.int .i64 (ks.length : Int))) w) : wpList Try.prog ops Q (o :: rest) a w := by
  refine wpList_plain hg fun K' hK' => ?_
  unfold Oper.wp execOp
  simp only [hop, resolve, invoke, builtin, Sem.run_bind, Sem.run_pure, Result.andThen_ok, List.map_toArray, List.map_cons, List.map_nil, hm, hs.len]
  exact hK' _ _ hK
theorem wpList_mk (hg : o.guard = none) (l c : Operand) (hop : o.op = Op.makeSlice 26 l c) (B n : Nat) (hl : a.eval l = .int .i64 0) (hc : a.eval c = .int .i64 (n : Int)) (hn : n ≤ 1000000) (hB : B ≤ w.heap.size)
    (hK : ∀ w', w'.ownsRow B 34 32 (.slice (some ⟨w.heap.size, 0, none⟩) 0 n) 0 (UU []) → Below w.heap.size w w' → wpList Try.prog ops Q rest (a.put o.dst (.slice (some ⟨w.heap.size, 0, none⟩) 0 n)) w') : wpList Try.prog ops Q (o :: rest) a w := by
  refine wpList_plain hg fun K' hK' => ?_
  obtain ⟨i, hi, hs1, hby, z, hz, hzs⟩ := info34'
  obtain ⟨w', hrun, h1, h2⟩ := run_make_own (P := Try.prog) w B 26 34 i z 32 Try.underlying26 hi hz hs1 .i64 .i64 n (by rw [hby]; omega) (by unfold maxLen; omega) hB
  unfold Oper.wp execOp
  simp [hop, hl, hc, hrun, Result.andThen]
  exact hK' _ _ (hK w' h1 ⟨h2.os, h2.tape, h2.output, h2.size, fun k hk => h2.block k hk (by simp)⟩)
theorem wpList_srange (hg : o.guard = none) (m : Operand) (hop : o.op = Op.range 43 m) (b : Nat) (es : List Ent) (hm : a.eval m = .map (some b)) (hs : HM w b es)
    (hK : ∀ w', HMR w' b w.heap.size es es → Below w.heap.size w w' → w'.heap.size = w.heap.size + 1 → wpList Try.prog ops Q rest (a.put o.dst (.pointer (some ⟨w.heap.size, 0, none⟩))) w') : wpList Try.prog ops Q (o :: rest) a w := by
  refine wpList_plain hg fun K' hK' => ?_
  obtain ⟨w', hrun, h1, h2, h3⟩ := hs.range (t := 43) (E := 52) Try.underlying43
  unfold Oper.wp execOp
  simp [hop, hm, hrun, Result.andThen]
  exact hK' _ _ (hK w' h1 h2 h3)
end

theorem HMR.left {w : World} {b r : Nat} {es left : List Ent} (h : HMR w b r es left) : w.rangeLeft b r = left.length := by
  obtain ⟨clock, seen, h1, h2, h3, _⟩ := h
  unfold World.rangeLeft
  rw [h1, h2]
  have := congrArg List.length (filter_seen es seen)
  simp only [List.length_map, ← h3] at this
  simpa using this
theorem HMR.row_ne {w : World} {b r B n : Nat} {es left : List Ent} {v : Value} {xs : List Value} (h : HMR w b r es left) (ho : w.ownsRow B 34 32 v n xs) : some b ≠ v.ownBlock ∧ some r ≠ v.ownBlock := by
  obtain ⟨clock, seen, h1, h2, _⟩ := h
  rcases ho.2 with ⟨rfl, _⟩ | ⟨g, cap, cur, rfl, _, hg, _⟩
  · simp [Value.ownBlock]
  · constructor
    · intro e
      have : b = g := by simpa [Value.ownBlock] using e
      subst this
      rw [h1] at hg; cases hg
    · intro e
      have : r = g := by simpa [Value.ownBlock] using e
      subst this
      rw [h2] at hg; cases hg
theorem HMR.kept {w w' : World} {b r : Nat} {es left : List Ent} {row : Option Nat} (h : HMR w b r es left) (hg : w.grownBy w' row) (h1 : some b ≠ row) (h2 : some r ≠ row) : HMR w' b r es left :=
  h.same (hg.block b h.lt.1 h1) (hg.block r h.lt.2.1 h2)
theorem HMR.below {w w' : World} {b r : Nat} {es left : List Ent} (h : HMR w b r es left) (hb : Below w.heap.size w w') : HMR w' b r es left :=
  h.same (hb.block b h.lt.1) (hb.block r h.lt.2.1)
theorem own_below {w w' : World} {B n : Nat} {v : Value} {xs : List Value} (h : w.ownsRow B 34 32 v n xs) (hb : Below w.heap.size w w') : w'.ownsRow B 34 32 v n xs := by
  refine h.kept (row := none) ⟨hb.os, hb.tape, hb.output, hb.size, fun k hk _ => hb.block k hk⟩ ?_
  cases v.ownBlock with
  | none => exact .inl rfl
  | some g => exact .inr (by simp)
/-- what 'rising' answers -/
def RiseP (w : World) (ks : List Hs) (e : Ending) (w' : World) : Prop := ∃ a n c rs, e = .returned (.slice a n c) ∧ Hid (HsR w' a n rs ∧ n ≤ c ∧ rs.Pairwise LtH ∧ ∀ x, x ∈ rs ↔ x ∈ ks) ∧ Hid (Below w.heap.size w w')

set_option maxRecDepth 100000 in
set_option maxHeartbeats 2000000 in
theorem sorted_is (w : World) (b : Nat) (ks : List Hs) (hs : SM w b ks) (hn : ks.length ≤ 100000) : Calls Try.prog 39 #[.map (some b), .func (.func 40) #[] #[]] w (RiseP w ks) := by
  obtain ⟨es, hm, hke, hve⟩ := hs
  have HS : Hid (SM w b ks ∧ ks.length ≤ 100000 ∧ es.map (·.k) = ks) := ⟨⟨es, hm, hke, hve⟩, hn, hke⟩
  have HM0 : Hid (HM w b es) := hm
  have q0 : (ks.length : Int) ≤ 100000 := by omega
  obtain ⟨Y, hYl, hY⟩ := zero34
  have HZ : Hid (Y.length = 32) := hYl
  clear hm hke hve hn hYl
  go_enter Try.func39, Try.ntmps39
  go_wp2_with (first
    | (with_reducible change wpList _ _ _ ({ dst := some 8, op := _, type := _, pos := _, after := _, guard := _ } :: _) _ _
       refine wpList_slen rfl (.tmp 7) rfl b ks rfl HS.out.1 ?_)
    | (with_reducible change wpList _ _ _ ({ dst := some 9, op := _, type := _, pos := _, after := _, guard := _ } :: _) _ _
       refine wpList_mk rfl (.const (.int .i64 0)) (.tmp 8) rfl w.heap.size ks.length rfl rfl (by have := HS.out.2.1; omega) (Nat.le_refl _) ?_
       intro w1 r1 r2
       have H1 : Hid (w1.ownsRow w.heap.size 34 32 (.slice (some ⟨w.heap.size, 0, none⟩) 0 ks.length) 0 (UU []) ∧ Below w.heap.size w w1 ∧ HM w1 b es) := ⟨r1, r2, HM0.out.below r2 HM0.out.lt⟩
       clear r1 r2)
    | (with_reducible change wpList _ _ _ ({ dst := some 11, op := _, type := _, pos := _, after := _, guard := _ } :: _) _ _
       refine wpList_srange rfl (.tmp 10) rfl b es rfl H1.out.2.2 ?_
       intro w2 r1 r2 r3
       have H2 : Hid (HMR w2 b w1.heap.size es es ∧ Below w1.heap.size w1 w2) := ⟨r1, r2⟩
       clear r1 r2 r3)
    | fail)
  simp only [Act.put, List.setIfInBounds_toArray, List.set_cons_zero, List.set_cons_succ]
  obtain ⟨r, hr⟩ : ∃ r, w1.heap.size = r := ⟨_, rfl⟩
  have HRW : Hid (w.heap.size < r) := by
    show _ < _
    have h1 := H1.out.1.lt w.heap.size rfl
    omega
  have H3 : Hid (HMR w2 b r es es ∧ w2.ownsRow w.heap.size 34 32 (.slice (some ⟨w.heap.size, 0, none⟩) 0 ks.length) 0 (UU []) ∧ Below w.heap.size w w2) := ⟨by rw [← hr]; exact H2.out.1, own_below H1.out.1 H2.out.2, H1.out.2.1.trans (H2.out.2.mono H1.out.2.1.size)⟩
  rw [hr]
  clear H1 H2 hr
  go_loopw [5] (fun u wr => ∃ (v : Value) (os : List Hs) (left : List Ent), u = v ∧ Hid (HMR wr b r es left ∧ wr.ownsRow w.heap.size 34 32 v os.length (UU os) ∧ v.ownBlock ≠ none ∧ (os ++ left.map (·.k)).Perm ks ∧ Below w.heap.size w wr)) (fun _ wr => wr.rangeLeft b r)
  case atStart => exact ⟨_, [], es, rfl, ⟨H3.out.1, H3.out.2.1, by simp [Value.ownBlock], by rw [← HS.out.2.2]; exact List.Perm.refl _, H3.out.2.2⟩⟩
  case round =>
    obtain ⟨v, os, left, rfl, HB⟩ := hrel
    have HLL : Hid (wr.rangeLeft b r = left.length) := HB.out.1.left
    rcases HB.out.1.next 0 with ⟨h0, hrun⟩ | ⟨e, left', w3, he, hp, hrun, h3, hg3, hz3, hen⟩
    · have HE : Hid (left = []) := h0
      clear h0
      go_wp2_with fail
      clear hrun
      have HP : Hid (os.Perm ks) := by
        show os.Perm ks
        have := HB.out.2.2.2.1
        rw [HE.out] at this
        simpa using this
      have hk32 : ∀ h ∈ os, h.length = 32 := fun h hm => HS.out.1.nodup.2 h (HP.out.mem_iff.1 hm)
      obtain ⟨g, cap, hv⟩ : ∃ g cap, u5 = .slice (some ⟨g, 0, none⟩) os.length cap ∧ w.heap.size ≤ g ∧ os.length ≤ cap := by
        rcases HB.out.2.1.2 with ⟨h1, _⟩ | ⟨g, cap, cur, h1, h2, _, h3, _⟩
        · exact absurd (by rw [h1]; rfl) HB.out.2.2.1
        · exact ⟨g, cap, h1, h2, h3⟩
      obtain ⟨rfl, hgw, hcap⟩ := hv
      have H46 := sort46 wr w.heap.size g os.length cap os hk32 (HP.out.nodup_iff.2 HS.out.1.nodup.1) HB.out.2.1 (by have := HS.out.2.1; have := HP.out.length_eq; omega)
      have H46' : Hid (Calls Try.prog 46 #[.slice (some ⟨g, 0, none⟩) os.length cap, .func (.func 40) #[] #[]] wr fun e w' => e = .returned (.tuple #[]) ∧ ∃ hs', Hid (hs'.Perm os ∧ hs'.Pairwise LtH ∧ HsR w' (some ⟨g, 0, none⟩) os.length hs') ∧ Hid (wr.grownBy w' (some g))) := H46
      clear H46
      refine H46'.out.mono ?_
      rintro e w4 ⟨rfl, hs', H4, HG4⟩
      go_wp2
      go_ret
      refine ⟨some ⟨g, 0, none⟩, os.length, cap, hs', rfl, ⟨H4.out.2.2, hcap, H4.out.2.1, fun x => ?_⟩, below_grownBy HB.out.2.2.2.2 HG4.out hgw (Nat.le_refl _)⟩
      rw [H4.out.1.mem_iff, HP.out.mem_iff]
    · have hrun' : (Instr.next (.pointer (some ⟨r, 0, none⟩)) false 0).run Try.prog wr = .ok (.tuple #[.bool true, .agg (U e.k).toArray, e.v]) w3 := hrun
      have hen' : (Instr.entry (.pointer (some ⟨r, 0, none⟩))).run Try.prog w3 = .ok (.tuple #[.agg (U e.k).toArray, e.v]) w3 := hen
      have HE : Hid (left.Perm (e :: left') ∧ HMR w3 b r es left' ∧ wr.grownBy w3 (some r) ∧ e.k.length = 32 ∧ w3.ownsRow w.heap.size 34 32 u5 os.length (UU os) ∧ Below w.heap.size w w3) := by
        refine ⟨hp, h3, hg3, ?_, HB.out.2.1.kept hg3 (.inr (fun h => (HB.out.1.row_ne HB.out.2.1).2 h.symm)), below_grownBy HB.out.2.2.2.2 hg3 (Nat.le_of_lt HRW.out) (Nat.le_refl _)⟩
        have := HB.out.2.2.2.1
        refine HS.out.1.nodup.2 e.k (this.mem_iff.1 ?_)
        exact List.mem_append.2 (.inr (List.mem_map.2 ⟨e, he, rfl⟩))
      clear hrun hen he hp h3 hg3 hz3
      go_wp2_with (first
        | (with_reducible change wpList _ _ _ ({ dst := none, op := Op.store 34 _ _, type := _, pos := _, after := _, guard := _ } :: _) _ _
           refine wpList_store_fresh rfl 34 (.tmp 6) (.tmp 15) rfl Y (U e.k) 34 rfl rfl (by rw [U_length, HE.out.2.2.2.1, HZ.out]) (info34 e.k HE.out.2.2.2.1) (U_one e.k) ?_)
        | (with_reducible change wpList _ _ _ ({ dst := some 17, op := _, type := _, pos := _, after := _, guard := _ } :: _) _ _
           refine wpList_load_mid rfl 34 (.tmp 6) rfl w3.heap.size 0 rfl (U e.k) _ (new34 w3 e.k) Try.underlying34 rfl (info34 e.k HE.out.2.2.2.1) ?_)
        | (with_reducible change wpList _ _ _ ({ dst := some 18, op := _, type := _, pos := _, after := _, guard := _ } :: _) _ _
           refine wpList_bslice1 rfl (.tmp 17) rfl e.k HE.out.2.2.2.1 rfl ?_)
        | (with_reducible change wpList _ _ _ ({ dst := some 19, op := _, type := _, pos := _, after := _, guard := _ } :: _) _ _
           refine Hid.out ?_))
      have HB5 : Hid (Below w3.heap.size w3 ((w3.alloc (.cells (U e.k).toArray 34)).alloc (.cells (U e.k).toArray 34))) := ((Below.refl _ w3).alloc (Nat.le_refl _) _).alloc (by simp) _
      have HO5 : Hid (HsR ((w3.alloc (.cells (U e.k).toArray 34)).alloc (.cells (U e.k).toArray 34)) (some ⟨w3.heap.size + 1, 0, none⟩) 1 [e.k]) := (by have := HsR.one (w3.alloc (.cells (U e.k).toArray 34)) e.k HE.out.2.2.2.1; rw [World.size_alloc] at this; exact this)
      show wpList _ _ _ _ _ _
      refine wpList_app rfl (.tmp 16) (.tmp 18) rfl w.heap.size u5 os.length os (some ⟨w3.heap.size + 1, 0, none⟩) 1 1 [e.k] rfl rfl (own_below HE.out.2.2.2.2.1 HB5.out) HO5.out (by have h1 := HB.out.2.2.2.1.length_eq; have h2 := HS.out.2.1; simp at h1; omega) (Nat.le_trans HE.out.2.2.2.2.2.size HB5.out.size) ?_
      intro v' w4 r1 r2 r3
      go_wp2
      go_roundw
      case rel =>
        have hM5 := HE.out.2.1.below HB5.out
        have hO5 := own_below HE.out.2.2.2.2.1 HB5.out
        have hne := hM5.row_ne hO5
        refine ⟨v', os ++ [e.k], left', rfl, ⟨hM5.kept r2 hne.1 hne.2, by simpa using r1, ?_, ?_, below_row (HE.out.2.2.2.2.2.trans (HB5.out.mono HE.out.2.2.2.2.2.size)) r2 hO5⟩⟩
        · rcases r3 with h | h
          · rw [h]; exact HB.out.2.2.1
          · rw [h]; simp
        · refine List.Perm.trans ?_ HB.out.2.2.2.1
          rw [List.append_assoc]
          have hmp : ((e :: left').map (fun x : Ent => x.k)).Perm (left.map (fun x : Ent => x.k)) := (HE.out.1.map (fun x : Ent => x.k)).symm
          exact List.Perm.append_left os hmp
      case measure =>
        have hM5 := HE.out.2.1.below HB5.out
        have hO5 := own_below HE.out.2.2.2.2.1 HB5.out
        have hne := hM5.row_ne hO5
        rw [(hM5.kept r2 hne.1 hne.2).left, HLL.out, HE.out.1.length_eq]
        simp
theorem rising_is (w : World) (b : Nat) (ks : List Hs) (hs : SM w b ks) (hn : ks.length ≤ 100000) : Calls Try.prog 33 #[.map (some b)] w (RiseP w ks) := by
  have H39 : Hid (Calls Try.prog 39 #[.map (some b), .func (.func 40) #[] #[]] w (RiseP w ks)) := sorted_is w b ks hs hn
  clear hs hn
  go_enter Try.func33, Try.ntmps33
  go_wp2_with (go_at_call 39; (with_reducible refine Calls.mono H39.out ?_); rintro e w1 ⟨a, n, c, rs, rfl, H1, H2⟩)
  go_ret
  exact ⟨a, n, c, rs, rfl, H1, H2⟩
end Go.Proofs.Ytijkpkcopjkhkaa.Oct

/- Layer 12 (deps): what steps lead to; plain facts. -/
namespace Go.Proofs.Ytijkpkcopjkhkaa.Oct

/-- what one step or more lead to -/
inductive Reach (s : Hs → List Hs) (h : Hs) : Hs → Prop
  | one {x : Hs} : x ∈ s h → Reach s h x
  | step {x y : Hs} : Reach s h x → y ∈ s x → Reach s h y
/-- between two rounds of the search -/
structure PO (s : Hs → List Hs) (h : Hs) (work met : List Hs) : Prop where
  len : work.length ≤ met.length + 1
  mm : ∀ x ∈ met, Reach s h x
  wm : ∀ x ∈ work, x = h ∨ x ∈ met
  cl : ∀ x, (x = h ∨ x ∈ met) → x ∉ work → ∀ y ∈ s x, y ∈ met
/-- within a round: some of a hash's steps were gone -/
structure PI (s : Hs → List Hs) (h f : Hs) (done work met : List Hs) : Prop where
  len : work.length ≤ met.length
  ff : f = h ∨ f ∈ met
  mm : ∀ x ∈ met, Reach s h x
  wm : ∀ x ∈ work, x = h ∨ x ∈ met
  cl : ∀ x, (x = h ∨ x ∈ met) → x ∉ work → x ≠ f → ∀ y ∈ s x, y ∈ met
  cu : ∀ y ∈ done, y ∈ met
theorem PO.start (s : Hs → List Hs) (h : Hs) : PO s h [h] [] := ⟨by simp, by simp, by simp, fun x hx hn => by
  rcases hx with rfl | hx
  · simp at hn
  · simp at hx⟩
theorem PO.pop {s : Hs → List Hs} {h f : Hs} {work met : List Hs} (hp : PO s h (work ++ [f]) met) : PI s h f [] work met := by
  refine ⟨?_, hp.wm f (by simp), hp.mm, fun x hx => hp.wm x (by simp [hx]), fun x hx hn hf => hp.cl x hx (by simp [hn, hf]), by simp⟩
  have := hp.len
  simp at this; omega
theorem PI.push {s : Hs → List Hs} {h f y : Hs} {done work met : List Hs} (hp : PI s h f done work met) (hy : y ∈ s f) : PI s h f (done ++ [y]) (work ++ [y]) (met ++ [y]) := by
  have hr : Reach s h y := by
    rcases hp.ff with h1 | h1
    · rw [← h1] at *
      exact .one hy
    · exact .step (hp.mm f h1) hy
  refine ⟨by have := hp.len; simp; omega, hp.ff.imp id (fun h => by simp [h]), ?_, ?_, ?_, ?_⟩
  · intro x hx
    rcases List.mem_append.1 hx with h1 | h1
    · exact hp.mm x h1
    · simp at h1; subst h1; exact hr
  · intro x hx
    rcases List.mem_append.1 hx with h1 | h1
    · exact (hp.wm x h1).imp id (fun h => by simp [h])
    · simp at h1; subst h1; simp
  · intro x hx hn hf z hz
    have hxy : x ≠ y := by rintro rfl; exact hn (by simp)
    have : x = h ∨ x ∈ met := by
      rcases hx with h1 | h1
      · exact .inl h1
      · rcases List.mem_append.1 h1 with h2 | h2
        · exact .inr h2
        · simp at h2; exact absurd h2 hxy
    have := hp.cl x this (fun hc => hn (by simp [hc])) hf z hz
    simp [this]
  · intro x hx
    rcases List.mem_append.1 hx with h1 | h1
    · simp [hp.cu x h1]
    · simp at h1; subst h1; simp
theorem PI.skip {s : Hs → List Hs} {h f y : Hs} {done work met : List Hs} (hp : PI s h f done work met) (hy : y ∈ met) : PI s h f (done ++ [y]) work met :=
  ⟨hp.len, hp.ff, hp.mm, hp.wm, hp.cl, fun x hx => by
    rcases List.mem_append.1 hx with h1 | h1
    · exact hp.cu x h1
    · simp at h1; subst h1; exact hy⟩
theorem PI.done {s : Hs → List Hs} {h f : Hs} {work met : List Hs} (hp : PI s h f (s f) work met) : PO s h work met := by
  refine ⟨by have := hp.len; omega, hp.mm, hp.wm, fun x hx hn y hy => ?_⟩
  by_cases hf : x = f
  · subst hf; exact hp.cu y hy
  · exact hp.cl x hx hn hf y hy
theorem PO.finish {s : Hs → List Hs} {h : Hs} {met : List Hs} (hp : PO s h [] met) (x : Hs) : x ∈ met ↔ Reach s h x := by
  refine ⟨hp.mm x, fun hr => ?_⟩
  induction hr with
  | one hx => exact hp.cl h (.inl rfl) (by simp) _ hx
  | step _ hy ih => exact hp.cl _ (.inr ih) (by simp) _ hy

/-- all that steps lead to -/
def allS (ms : List (Hs × List Hs)) : List Hs := ms.flatMap (·.2)
theorem getS_all {ms : List (Hs × List Hs)} {h y : Hs} (hy : y ∈ getS ms h) : y ∈ allS ms := by
  unfold getS at hy
  cases hf : ms.find? (·.1 == h) with
  | none => rw [hf] at hy; simp at hy
  | some m =>
    rw [hf] at hy
    exact List.mem_flatMap.2 ⟨m, List.mem_of_find?_eq_some hf, by simpa using hy⟩
theorem reach_all {ms : List (Hs × List Hs)} {h x : Hs} (hr : Reach (getS ms) h x) : x ∈ allS ms := by
  cases hr with
  | one h1 => exact getS_all h1
  | step _ h1 => exact getS_all h1
theorem nodup_le : ∀ (a b : List Hs), a.Nodup → (∀ x ∈ a, x ∈ b) → a.length ≤ b.length
  | [], _, _, _ => Nat.zero_le _
  | x :: a, b, hn, h => by
    have hn' := List.nodup_cons.1 hn
    have hx := h x (by simp)
    have ih := nodup_le a (b.erase x) hn'.2 (fun y hy => (List.mem_erase_of_ne (by rintro rfl; exact hn'.1 hy)).2 (h y (by simp [hy])))
    rw [List.length_erase_of_mem hx] at ih
    have := List.length_pos_of_mem hx
    simp; omega
theorem met_len {ms : List (Hs × List Hs)} {h : Hs} {met : List Hs} (hn : met.Nodup) (hm : ∀ x ∈ met, Reach (getS ms) h x) : met.length ≤ (allS ms).length :=
  nodup_le _ _ hn (fun x hx => reach_all (hm x hx))
end Go.Proofs.Ytijkpkcopjkhkaa.Oct

/- Layer 12 (deps): what steps lead to. -/
namespace Go.Proofs.Ytijkpkcopjkhkaa.Oct
open Go.RowKit

section
variable {ops : Array Oper} {rest : List Oper} {o : Oper} {a : Act} {w : World} {Q : Exit → Act → World → Prop}
theorem wpList_slook (hg : o.guard = none) (m x : Operand) (hop : o.op = Op.lookup 43 m x true) (b : Nat) (ks : List Hs) (h : Hs) (hm : a.eval m = .map (some b)) (hx : a.eval x = .agg (U h).toArray) (hs : SM w b ks) (hl : h.length = 32)
    (hK : wpList Try.prog ops Q rest (a.put o.dst (.tuple #[.agg #[], .bool (decide (h ∈ ks))])) w) : wpList Try.prog ops Q (o :: rest) a w := by
  refine wpList_plain hg fun K' hK' => ?_
  unfold Oper.wp execOp
  simp [hop, hm, hx, hs.look hl, Result.andThen]
  exact hK' _ _ hK
theorem wpList_mlook (hg : o.guard = none) (m x : Operand) (hop : o.op = Op.lookup 48 m x false) (b B : Nat) (ms : List (Hs × List Hs)) (h : Hs) (hm : a.eval m = .map (some b)) (hx : a.eval x = .agg (U h).toArray) (hs : StM w b B ms) (hl : h.length = 32)
    (hK : ∀ oa n c, HsR w oa n (getS ms h) → wpList Try.prog ops Q rest (a.put o.dst (.slice oa n c)) w) : wpList Try.prog ops Q (o :: rest) a w := by
  refine wpList_plain hg fun K' hK' => ?_
  obtain ⟨oa, n, c, hrun, hr⟩ := hs.look hl
  unfold Oper.wp execOp
  simp [hop, hm, hx, hrun, Result.andThen]
  exact hK' _ _ (hK oa n c hr)
end
theorem StM.look2 {w : World} {b B : Nat} {ms : List (Hs × List Hs)} {h : Hs} (hs : StM w b B ms) (hl : h.length = 32) : ∃ a n c, (∀ W : World, W.heap[b]? = w.heap[b]? → (Instr.lookup 48 (.map (some b)) (.agg (U h).toArray) false).run Try.prog W = .ok (.slice a n c) W) ∧ HsR w a n (getS ms h) := by
  obtain ⟨a, n, c, hrun, hr⟩ := hs.look hl
  refine ⟨a, n, c, fun W hW => ?_, hr⟩
  obtain ⟨es, hes⟩ := hs
  have h1 := hes.hm.look (t := 48) (E := 26) Try.underlying48 hl false (zero26 w)
  have h2 := (hes.hm.same hW).look (t := 48) (E := 26) Try.underlying48 hl false (zero26 W)
  have e1 : Result.ok (lkv false (hlook h es) (.slice none 0 0)) w = .ok (.slice a n c) w := h1.symm.trans hrun
  injection e1 with e2 _
  rw [e2] at h2
  exact h2
theorem getS_len (ms : List (Hs × List Hs)) (h : Hs) : (getS ms h).length ≤ (allS ms).length := by
  unfold getS allS
  cases hf : ms.find? (·.1 == h) with
  | none => simp
  | some m =>
    have hm := List.mem_of_find?_eq_some hf
    obtain ⟨a, b, rfl⟩ := List.append_of_mem hm
    simp; omega
def lenOf : Value → Nat
  | .slice _ n _ => n
  | _ => 0
def countOf (w : World) (b : Nat) : Nat := match w.heap[b]? with | some (.map es _) => es.size | _ => 0
theorem SM.count {w : World} {b : Nat} {ks : List Hs} (h : SM w b ks) : countOf w b = ks.length := by
  obtain ⟨es, ⟨clock, hb, _⟩, rfl, _⟩ := h
  unfold countOf
  rw [hb]; simp
theorem SM.row_ne {w : World} {b B n : Nat} {ks : List Hs} {v : Value} {xs : List Value} (h : SM w b ks) (ho : w.ownsRow B 34 32 v n xs) : v.ownBlock ≠ some b := by
  obtain ⟨es, h1, _⟩ := h
  exact ownBlock_ne_map h1 ho
/-- a row cut -/
theorem own_cut {w : World} {B g n c : Nat} {work : List Hs} {f : Hs} (h : w.ownsRow B 34 32 (.slice (some ⟨g, 0, none⟩) (n + 1) c) (n + 1) (UU (work ++ [f]))) (hl : f.length = 32) : w.ownsRow B 34 32 (.slice (some ⟨g, 0, none⟩) n c) n (UU work) := by
  have hlen := h.1
  rw [UU_append, List.length_append, show (UU [f]).length = 32 by simp [UU, U_length, hl]] at hlen
  rcases h.2 with ⟨h1, _⟩ | ⟨g', cap, cur, h1, h2, h3, h4, h5, h6, h7⟩
  · cases h1
  · simp only [Value.slice.injEq, Option.some.injEq, Addr.mk.injEq] at h1
    obtain ⟨⟨rfl, _⟩, _, rfl⟩ := h1
    refine ⟨by omega, .inr ⟨g, c, cur, rfl, h2, h3, by omega, h5, h6, ?_⟩⟩
    have := congrArg (List.take (n * 32)) h7
    rw [List.take_take, Nat.min_eq_left (by omega), UU_append, List.take_left' (by omega)] at this
    exact this

set_option maxRecDepth 100000 in
set_option maxHeartbeats 4000000 in
theorem reach_is (w : World) (bm B : Nat) (ms : List (Hs × List Hs)) (h : Hs) (hs : StM w bm B ms) (hl : h.length = 32) (hT : (allS ms).length ≤ 90000) (hml : ∀ m ∈ ms, ∀ x ∈ m.2, x.length = 32) :
    Calls Try.prog 30 #[.map (some bm), .agg (U h).toArray] w fun e w' => ∃ ks, RiseP w ks e w' ∧ Hid (∀ x, x ∈ ks ↔ Reach (getS ms) h x) := by
  have HS : Hid (StM w bm B ms ∧ (allS ms).length ≤ 90000 ∧ h.length = 32 ∧ ∀ x ∈ allS ms, x.length = 32) := ⟨hs, hT, hl, fun x hx => by obtain ⟨m, hm, hxm⟩ := List.mem_flatMap.1 hx; exact hml m hm x hxm⟩
  obtain ⟨Y, hYl, hY⟩ := zero34
  have HZ : Hid (Y.length = 32) := hYl
  have hz52 := zero52
  have hmk := run_make43
  clear hs hT hl hml hYl
  go_enter Try.func30, Try.ntmps30
  go_wp2_with (first
    | (with_reducible change wpList _ _ _ ({ dst := some 14, op := _, type := _, pos := _, after := _, guard := _ } :: _) _ _
       refine wpList_load_mid rfl 34 (.tmp 3) rfl w.heap.size 0 rfl (U h) _ (rangeAt_same (new34 w h) (Below.heap_alloc _ _ _ (by simp))) Try.underlying34 rfl (info34 h HS.out.2.2.1) ?_)
    | (with_reducible change wpList _ _ _ ({ dst := some 15, op := _, type := _, pos := _, after := _, guard := _ } :: _) _ _
       refine wpList_bslice1 rfl (.tmp 14) rfl h HS.out.2.2.1 rfl ?_)
    | fail)
  clear hmk
  obtain ⟨W, hW⟩ : ∃ W, ((w.alloc (.cells (U h).toArray 34)).alloc (.map #[] 0)).alloc (.cells (U h).toArray 34) = W := ⟨_, rfl⟩
  have H0 : Hid (Below w.heap.size w W ∧ SM W (w.heap.size + 1) [] ∧ W.ownsRow w.heap.size 34 32 (.slice (some ⟨w.heap.size + 1 + 1, 0, none⟩) 1 1) 1 (UU [h])) := by
    refine ⟨?_, ?_, ?_⟩
    · rw [← hW]; exact (((Below.refl _ w).alloc (Nat.le_refl _) _).alloc (by simp) _).alloc (by simp; omega) _
    · have := SM.made (w.alloc (.cells (U h).toArray 34))
      rw [World.size_alloc] at this
      rw [← hW]; exact this.alloc _
    · have hb := Blk.new ((w.alloc (.cells (U h).toArray 34)).alloc (.map #[] 0)) (U h).toArray 34
      rw [World.size_alloc, World.size_alloc, hW] at hb
      exact ⟨by simp [UU, U_length, HS.out.2.2.1], .inr ⟨_, 1, (U h).toArray, rfl, by omega, (show Blk W _ 34 (U h) by simpa using hb), Nat.le_refl _, by unfold maxLen; omega, by simp [U_length, HS.out.2.2.1], by rw [List.take_of_length_le (by simp [U_length, HS.out.2.2.1])]; simp [UU]⟩⟩
  rw [hW]
  clear hW
  generalize w.heap.size + 1 + 1 = g0 at *
  obtain ⟨T, hTT⟩ : ∃ T, (allS ms).length = T := ⟨_, rfl⟩
  have HT : Hid ((allS ms).length = T ∧ T ≤ 90000) := ⟨hTT, by rw [← hTT]; exact HS.out.2.1⟩
  clear hTT
  go_loopw [6] (fun u wr => ∃ (g n c : Nat) (work met : List Hs), u = .slice (some ⟨g, 0, none⟩) n c ∧ Hid (Below w.heap.size w wr ∧ SM wr (w.heap.size + 1) met ∧ wr.ownsRow w.heap.size 34 32 (.slice (some ⟨g, 0, none⟩) n c) n (UU work) ∧ work.length = n ∧ PO (getS ms) h work met)) (fun u wr => 2 * (T - countOf wr (w.heap.size + 1)) + lenOf u)
  case atStart => exact ⟨g0, 1, 1, [h], [], rfl, ⟨H0.out.1, H0.out.2.1, H0.out.2.2, rfl, PO.start _ _⟩⟩
  case round =>
    obtain ⟨g, n, c, work, met, rfl, HB⟩ := hrel
    have HML : Hid (met.length ≤ T ∧ countOf wr (w.heap.size + 1) = met.length ∧ work.length = n) := ⟨by rw [← HT.out.1]; exact met_len HB.out.2.1.nodup.1 HB.out.2.2.2.2.mm, HB.out.2.1.count, HB.out.2.2.2.1⟩
    have HW32 : Hid (∀ x ∈ work, x.length = 32) := fun x hx => by
      rcases HB.out.2.2.2.2.wm x hx with h1 | h1
      · rw [h1]; exact HS.out.2.2.1
      · exact HS.out.2.2.2 x (reach_all (HB.out.2.2.2.2.mm x h1))
    cases n with
    | zero =>
      have HE : Hid (work = []) := List.eq_nil_of_length_eq_zero HB.out.2.2.2.1
      go_wp2_with (go_at_call 33; refine (rising_is wr (w.heap.size + 1) met HB.out.2.1 (by have := HML.out.1; have := HT.out.2; omega)).mono ?_; rintro e w5 ⟨a5, n5, c5, rs, rfl, H5, HB5⟩)
      go_ret
      refine ⟨met, ⟨a5, n5, c5, rs, rfl, H5, HB.out.1.trans (HB5.out.mono HB.out.1.size)⟩, ?_⟩
      have := HB.out.2.2.2.2
      rw [HE.out] at this
      exact this.finish
    | succ n =>
      obtain ⟨work', f, hwf⟩ : ∃ work' f, work = work' ++ [f] := by
        have hne : work ≠ [] := by intro e; have := HB.out.2.2.2.1; rw [e] at this; simp at this
        exact ⟨work.dropLast, work.getLast hne, (List.dropLast_concat_getLast hne).symm⟩
      subst hwf
      have HF : Hid (f.length = 32 ∧ work'.length = n ∧ n + 1 ≤ T + 1) := ⟨HW32.out f (by simp), by have := HML.out.2.2; simpa using this, by have := HB.out.2.2.2.2.len; have := HML.out.1; have := HML.out.2.2; omega⟩
      have HRF : Hid (wr.rangeAt g (n * 32) (U f)) := by
        rw [← Nat.zero_add (n * 32)]
        obtain ⟨a1, c1, e1, e2, _⟩ := own_read HB.out.2.2.1 HW32.out
        obtain ⟨g1, off1, e3, _, e4⟩ := e2.2.2 (by omega)
        simp only [Value.slice.injEq] at e1
        rw [e3] at e1
        simp only [Option.some.injEq, Addr.mk.injEq] at e1
        obtain ⟨⟨rfl, rfl, _⟩, _⟩ := e1
        exact e4 n f (by rw [← HF.out.2.1]; simp)
      have HC : Hid (wr.ownsRow w.heap.size 34 32 (.slice (some ⟨g, 0, none⟩) n c) n (UU work')) := own_cut HB.out.2.2.1 HF.out.1
      have hnc : n + 1 ≤ c := by
        rcases HB.out.2.2.1.2 with ⟨h1, _⟩ | ⟨g', cap, cur, h1, _, _, h4, _⟩
        · cases h1
        · simp only [Value.slice.injEq] at h1
          omega
      have q1 : (n : Int) ≤ 100000 := by have := HF.out.2.2; have := HT.out.2; omega
      have q2 : (n : Int) + 1 ≤ (c : Int) := by omega
      have HB1 : Hid (Below wr.heap.size wr (wr.alloc (.cells (U f).toArray 34))) := (Below.refl _ wr).alloc (Nat.le_refl _) _
      obtain ⟨oa, nn, cc, hlk0, hro⟩ := HS.out.1.look2 HF.out.1
      have hlk := hlk0 (wr.alloc (.cells (U f).toArray 34)) ((HB.out.1.trans (HB1.out.mono HB.out.1.size)).block bm HS.out.1.lt)
      have HRO : Hid (HsR w oa nn (getS ms f) ∧ nn ≤ T) := ⟨hro, by rw [← hro.1, ← HT.out.1]; exact getS_len ms f⟩
      clear hlk0 hro
      go_wp2_with (first
        | (with_reducible change wpList _ _ _ ({ dst := some 25, op := _, type := _, pos := _, after := _, guard := _ } :: _) _ _
           refine wpList_load_mid rfl 34 (.tmp 24) rfl g (n * 32) rfl (U f) _ HRF.out Try.underlying34 rfl (info34 f HF.out.1) ?_)
        | (with_reducible change wpList _ _ _ ({ dst := none, op := Op.store 34 _ _, type := _, pos := _, after := _, guard := _ } :: _) _ _
           refine wpList_store_fresh rfl 34 (.tmp 8) (.tmp 25) rfl Y (U f) 34 rfl rfl (by rw [U_length, HF.out.1, HZ.out]) (info34 f HF.out.1) (U_one f) ?_)
        | (with_reducible change wpList _ _ _ ({ dst := some 30, op := _, type := _, pos := _, after := _, guard := _ } :: _) _ _
           refine wpList_load_mid rfl 34 (.tmp 8) rfl wr.heap.size 0 rfl (U f) _ (new34 wr f) Try.underlying34 rfl (info34 f HF.out.1) ?_)
        | fail)
      clear hlk
      obtain ⟨V, hV⟩ : ∃ V, wr.alloc (.cells (U f).toArray 34) = V := ⟨_, rfl⟩
      have HV : Hid (Below w.heap.size w V ∧ SM V (w.heap.size + 1) met ∧ V.ownsRow w.heap.size 34 32 (.slice (some ⟨g, 0, none⟩) n c) n (UU work') ∧ PI (getS ms) h f [] work' met) := by
        have hb1 := HB1.out
        rw [hV] at hb1
        exact ⟨HB.out.1.trans (hb1.mono HB.out.1.size), HB.out.2.1.below hb1 HB.out.2.1.lt, own_below HC.out hb1, HB.out.2.2.2.2.pop⟩
      rw [hV]
      clear hV HRF HC HB1
      obtain ⟨W1, hW1⟩ : ∃ W1, W1 = wr := ⟨_, rfl⟩
      subst hW1
      have q3 : (nn : Int) ≤ 100000 := by have := HRO.out.2; have := HT.out.2; omega
      obtain ⟨L, hL⟩ : ∃ L, getS ms f = L := ⟨_, rfl⟩
      have HL : Hid (getS ms f = L ∧ L.length = nn ∧ ∀ x ∈ L, x.length = 32) := ⟨hL, by rw [← hL]; exact HRO.out.1.1, by rw [← hL]; exact HRO.out.1.2.1⟩
      clear hL
      go_loopw [33, 6] (fun u v wr => ∃ (j g n c : Nat) (work met2 : List Hs), u = .int .i64 (j : Int) ∧ v = .slice (some ⟨g, 0, none⟩) n c ∧ Hid (j ≤ nn ∧ Below w.heap.size w wr ∧ SM wr (w.heap.size + 1) met2 ∧ wr.ownsRow w.heap.size 34 32 (.slice (some ⟨g, 0, none⟩) n c) n (UU work) ∧ work.length = n ∧ PI (getS ms) h f (L.take j) work met2 ∧ met.length + work.length = met2.length + work'.length ∧ met.length ≤ met2.length)) (fun u _ _ => nn - (intOf u).toNat)
      case atStart => exact ⟨0, g, n, c, work', met, rfl, rfl, ⟨Nat.zero_le _, HV.out.1, HV.out.2.1, HV.out.2.2.1, HF.out.2.1, by simpa using HV.out.2.2.2, rfl, Nat.le_refl _⟩⟩
      case round =>
        obtain ⟨j, g2, n2, c2, work2, met2, rfl, rfl, HJ⟩ := hrel
        have HML2 : Hid (met2.length ≤ T) := by show _ ≤ _; rw [← HT.out.1]; exact met_len HJ.out.2.2.1.nodup.1 HJ.out.2.2.2.2.2.1.mm
        by_cases hj : j < nn
        · obtain ⟨d, hd⟩ : ∃ d, L[j]? = some d := ⟨_, List.getElem?_eq_getElem (by rw [HL.out.2.1]; exact hj)⟩
          have HD : Hid (j < nn ∧ L[j]? = some d ∧ d.length = 32) := ⟨hj, hd, HL.out.2.2 d (List.mem_of_getElem? hd)⟩
          obtain ⟨go, oo, hoa, hgo, hel⟩ := HRO.out.1.2.2 (by omega)
          have HRD : Hid (wr.rangeAt go (oo + j * 32) (U d)) := rangeAt_same (hel j d (by rw [HL.out.1]; exact hd)) (HJ.out.2.1.block go hgo)
          have q4 : (j : Int) < (nn : Int) := by omega
          clear hj hd hel
          rw [hoa]
          have HB6 : Hid (Below wr.heap.size wr (wr.alloc (.cells (U d).toArray 34))) := (Below.refl _ wr).alloc (Nat.le_refl _) _
          have HS6 : Hid (SM (wr.alloc (.cells (U d).toArray 34)) (w.heap.size + 1) met2) := HJ.out.2.2.1.alloc _
          cases hdm : decide (d ∈ met2) with
          | true =>
            have HDM : Hid (decide (d ∈ met2) = true) := hdm
            clear hdm
            go_wp2_with (first
              | (with_reducible change wpList _ _ _ ({ dst := some 36, op := _, type := _, pos := _, after := _, guard := _ } :: _) _ _
                 refine wpList_load_mid rfl 34 (.tmp 35) rfl go (oo + j * 32) rfl (U d) _ HRD.out Try.underlying34 rfl (info34 d HD.out.2.2) ?_)
              | (with_reducible change wpList _ _ _ ({ dst := none, op := Op.store 34 _ _, type := _, pos := _, after := _, guard := _ } :: _) _ _
                 refine wpList_store_fresh rfl 34 (.tmp 10) (.tmp 36) rfl Y (U d) 34 rfl rfl (by rw [U_length, HD.out.2.2, HZ.out]) (info34 d HD.out.2.2) (U_one d) ?_)
              | (with_reducible change wpList _ _ _ ({ dst := some 39, op := _, type := _, pos := _, after := _, guard := _ } :: _) _ _
                 refine wpList_load_mid rfl 34 (.tmp 10) rfl wr.heap.size 0 rfl (U d) _ (new34 wr d) Try.underlying34 rfl (info34 d HD.out.2.2) ?_)
              | (with_reducible change wpList _ _ _ ({ dst := some 40, op := _, type := _, pos := _, after := _, guard := _ } :: _) _ _
                 refine wpList_slook rfl (.tmp 38) (.tmp 39) rfl (w.heap.size + 1) met2 d rfl rfl HS6.out HD.out.2.2 ?_
                 rw [HDM.out])
              | fail)
            have hb7 : Below wr.heap.size wr ((wr.alloc (.cells (U d).toArray 34)).alloc (.cells #[] 52)) := HB6.out.alloc (by simp) _
            refine ⟨⟨j + 1, g2, n2, c2, work2, met2, by simp, rfl, ⟨HD.out.1, HJ.out.2.1.trans (hb7.mono HJ.out.2.1.size), HS6.out.alloc _, own_below HJ.out.2.2.2.1 hb7, HJ.out.2.2.2.2.1, ?_, HJ.out.2.2.2.2.2.2⟩⟩, ?_⟩
            · rw [List.take_add_one, HD.out.2.1]
              exact HJ.out.2.2.2.2.2.1.skip (by simpa using HDM.out)
            · have := HD.out.1; simp [intOf]; omega
          | false =>
            have HDM : Hid (decide (d ∈ met2) = false) := hdm
            have HN : Hid (d ∉ met2) := by show d ∉ met2; simpa using hdm
            clear hdm
            have hb7 : Below wr.heap.size wr ((wr.alloc (.cells (U d).toArray 34)).alloc (.cells #[] 52)) := HB6.out.alloc (by simp) _
            have H7 : Hid (Below wr.heap.size wr ((wr.alloc (.cells (U d).toArray 34)).alloc (.cells #[] 52)) ∧ SM ((wr.alloc (.cells (U d).toArray 34)).alloc (.cells #[] 52)) (w.heap.size + 1) met2 ∧ ((wr.alloc (.cells (U d).toArray 34)).alloc (.cells #[] 52)).rangeAt wr.heap.size 0 (U d)) := ⟨hb7, HS6.out.alloc _, rangeAt_same (new34 wr d) (Below.heap_alloc _ _ _ (by simp))⟩
            clear hb7
            go_wp2_with (first
              | (with_reducible change wpList _ _ _ ({ dst := some 36, op := _, type := _, pos := _, after := _, guard := _ } :: _) _ _
                 refine wpList_load_mid rfl 34 (.tmp 35) rfl go (oo + j * 32) rfl (U d) _ HRD.out Try.underlying34 rfl (info34 d HD.out.2.2) ?_)
              | (with_reducible change wpList _ _ _ ({ dst := none, op := Op.store 34 _ _, type := _, pos := _, after := _, guard := _ } :: _) _ _
                 refine wpList_store_fresh rfl 34 (.tmp 10) (.tmp 36) rfl Y (U d) 34 rfl rfl (by rw [U_length, HD.out.2.2, HZ.out]) (info34 d HD.out.2.2) (U_one d) ?_)
              | (with_reducible change wpList _ _ _ ({ dst := some 39, op := _, type := _, pos := _, after := _, guard := _ } :: _) _ _
                 refine wpList_load_mid rfl 34 (.tmp 10) rfl wr.heap.size 0 rfl (U d) _ (new34 wr d) Try.underlying34 rfl (info34 d HD.out.2.2) ?_)
              | (with_reducible change wpList _ _ _ ({ dst := some 40, op := _, type := _, pos := _, after := _, guard := _ } :: _) _ _
                 refine wpList_slook rfl (.tmp 38) (.tmp 39) rfl (w.heap.size + 1) met2 d rfl rfl HS6.out HD.out.2.2 ?_
                 rw [HDM.out])
              | (with_reducible change wpList _ _ _ ({ dst := some 46, op := _, type := _, pos := _, after := _, guard := _ } :: _) _ _
                 refine wpList_load_mid rfl 34 (.tmp 10) rfl wr.heap.size 0 rfl (U d) _ H7.out.2.2 Try.underlying34 rfl (info34 d HD.out.2.2) ?_)
              | (with_reducible change wpList _ _ _ ({ dst := none, op := Op.mapUpdate 43 _ _ _, type := _, pos := _, after := _, guard := _ } :: _) _ _
                 refine Hid.out ?_)
              | fail)
            show wpList _ _ _ _ _ _
            refine wpList_sput rfl (.tmp 45) (.tmp 46) (.tmp 47) rfl (w.heap.size + 1) met2 d rfl rfl rfl H7.out.2.1 HD.out.2.2 ?_
            intro w6 r1 r2 r3
            have H8 : Hid (SM w6 (w.heap.size + 1) (met2 ++ [d]) ∧ ((wr.alloc (.cells (U d).toArray 34)).alloc (.cells #[] 52)).grownBy w6 (some (w.heap.size + 1)) ∧ w6.rangeAt wr.heap.size 0 (U d) ∧ Below w.heap.size w w6 ∧ w6.ownsRow w.heap.size 34 32 (.slice (some ⟨g2, 0, none⟩) n2 c2) n2 (UU work2)) := by
              have hlt := HJ.out.2.2.1.lt
              refine ⟨?_, r2, rangeAt_same H7.out.2.2 (r2.block _ (by simp; omega) (by simp; omega)), below_grownBy (HJ.out.2.1.trans (H7.out.1.mono HJ.out.2.1.size)) r2 (by omega) (Nat.le_refl _), ?_⟩
              · have := r1
                unfold addK at this
                rw [if_neg HN.out] at this
                exact this
              · have ho := own_below HJ.out.2.2.2.1 H7.out.1
                exact ho.kept r2 (.inr (H7.out.2.1.row_ne ho))
            clear r1 r2 r3
            go_wp2_with (first
              | (with_reducible change wpList _ _ _ ({ dst := some 49, op := _, type := _, pos := _, after := _, guard := _ } :: _) _ _
                 refine wpList_load_mid rfl 34 (.tmp 10) rfl wr.heap.size 0 rfl (U d) _ H8.out.2.2.1 Try.underlying34 rfl (info34 d HD.out.2.2) ?_)
              | (with_reducible change wpList _ _ _ ({ dst := some 50, op := _, type := _, pos := _, after := _, guard := _ } :: _) _ _
                 refine wpList_bslice1 rfl (.tmp 49) rfl d HD.out.2.2 rfl ?_)
              | (with_reducible change wpList _ _ _ ({ dst := some 51, op := _, type := _, pos := _, after := _, guard := _ } :: _) _ _
                 refine Hid.out ?_)
              | fail)
            show wpList _ _ _ _ _ _
            have hb9 : Below w6.heap.size w6 (w6.alloc (.cells (U d).toArray 34)) := (Below.refl _ w6).alloc (Nat.le_refl _) _
            refine wpList_app rfl (.tmp 48) (.tmp 50) rfl w.heap.size (.slice (some ⟨g2, 0, none⟩) n2 c2) n2 work2 (some ⟨w6.heap.size, 0, none⟩) 1 1 [d] rfl rfl (own_below H8.out.2.2.2.2 hb9) (HsR.one w6 d HD.out.2.2) (by have h1 := HJ.out.2.2.2.2.2.1.len; have h2 := HJ.out.2.2.2.2.1; have h3 := HML2.out; have h4 := HT.out.2; omega) (Nat.le_trans H8.out.2.2.2.1.size hb9.size) ?_
            intro v' w7 r1 r2 r3
            have ho9 := own_below H8.out.2.2.2.2 hb9
            have hs9 := H8.out.1.alloc (.cells (U d).toArray 34)
            obtain ⟨g3, c3, rfl⟩ : ∃ g3 c3, v' = .slice (some ⟨g3, 0, none⟩) (n2 + 1) c3 := by
              rcases r1.2 with ⟨h1, _⟩ | ⟨g, cap, cur, h1, _⟩
              · rcases r3 with h2 | h2 <;> rw [h1] at h2 <;> simp [Value.ownBlock] at h2
              · exact ⟨g, cap, h1⟩
            have H10 : Hid (Below w.heap.size w w7 ∧ SM w7 (w.heap.size + 1) (met2 ++ [d]) ∧ w7.ownsRow w.heap.size 34 32 (.slice (some ⟨g3, 0, none⟩) (n2 + 1) c3) (n2 + 1) (UU (work2 ++ [d]))) := ⟨below_row (H8.out.2.2.2.1.trans (hb9.mono H8.out.2.2.2.1.size)) r2 ho9, hs9.kept r2 (fun e => hs9.row_ne ho9 e.symm), r1⟩
            clear r1 r2 r3 ho9 hs9 hb9
            go_wp2
            refine ⟨⟨j + 1, g3, n2 + 1, c3, work2 ++ [d], met2 ++ [d], by simp, rfl, ⟨HD.out.1, H10.out.1, H10.out.2.1, H10.out.2.2, by simp [HJ.out.2.2.2.2.1], ?_, by have := HJ.out.2.2.2.2.2.2.1; simp; omega, by have := HJ.out.2.2.2.2.2.2.2; simp; omega⟩⟩, ?_⟩
            · rw [List.take_add_one, HD.out.2.1]
              exact HJ.out.2.2.2.2.2.1.push (by rw [HL.out.1]; exact List.mem_of_getElem? HD.out.2.1)
            · have := HD.out.1; simp [intOf]; omega
        · have q4 : ¬ (j : Int) < (nn : Int) := by omega
          go_wp2
          refine ⟨⟨g2, n2, c2, work2, met2, rfl, ⟨HJ.out.2.1, HJ.out.2.2.1, HJ.out.2.2.2.1, HJ.out.2.2.2.2.1, ?_⟩⟩, ?_⟩
          · have := HJ.out.2.2.2.2.2.1
            rw [List.take_of_length_le (by rw [HL.out.2.1]; omega)] at this
            rw [← HL.out.1] at this
            exact this.done
          · have h1 := HJ.out.2.2.2.2.2.2
            have h2 := HJ.out.2.2.1.count
            have h3 := HML.out.2.1
            have h4 := HML2.out
            have h5 := HF.out.2.1
            have h6 := HJ.out.2.2.2.2.1
            have h7 := HML.out.1
            show 2 * (T - countOf wr (w.heap.size + 1)) + n2 < 2 * (T - countOf W1 (w.heap.size + 1)) + (n + 1)
            rw [h2, h3]
            omega
end Go.Proofs.Ytijkpkcopjkhkaa.Oct

/- Layer 12 (deps): Needs and Above: their last statements, whatever their order. -/
namespace Go.Proofs.Ytijkpkcopjkhkaa.Oct
open Go.RowKit

set_option maxRecDepth 100000 in
set_option maxHeartbeats 2000000 in
theorem needs_region {Q : Exit → Act → World → Prop} {x1 x2 x4 x5 x6 x7 x8 x9 x10 : Value} {ds : List Deferred} {A : World} {hb : Nat} {h : Hs} {s : Value} {P1 : Nat → World → Prop} {P2 : Value → World → Prop}
    (hl : h.length = 32) (h29 : Calls Try.prog 29 #[s] A.drew fun e w1 => ∃ b, e = .returned (.map (some b)) ∧ Hid (P1 b w1)) (h1 : ∀ b w1, P1 b w1 → w1.rangeAt hb 0 (U h)) (h30 : ∀ b w1, P1 b w1 → Calls Try.prog 30 #[.map (some b), .agg (U h).toArray] w1 fun e w2 => ∃ v, e = .returned v ∧ Hid (P2 v w2)) (h2 : ∀ v w2, P2 v w2 → w2.rangeAt hb 0 (U h)) (hS : A.drew.rangeAt hb 0 (U h))
    (hQ : ∀ b v w2, P2 v w2 → Q .normal { tmps := #[s, x1, x2, .pointer (some ⟨hb, 0, none⟩), v, x5, x6, s, .map (some b), .agg (U h).toArray, v], defers := ds } w2) :
    (Code.region 3 #[{ dst := some 7, op := Op.move (Operand.tmp 0), type := 22, pos := "deps.go:103", after := #[], guard := none }, { dst := some 8, op := Op.call { callee := Callee.value (Operand.func 29), args := #[Operand.tmp 7], argTypes := #[22] }, type := 48, pos := "deps.go:103", after := #[{ on := 0, ground := Ground.data }], guard := none }, { dst := some 9, op := Op.load 34 (Operand.tmp 3), type := 34, pos := "deps.go:103", after := #[], guard := none }, { dst := some 10, op := Op.call { callee := Callee.value (Operand.func 30), args := #[Operand.tmp 8, Operand.tmp 9], argTypes := #[48, 34] }, type := 26, pos := "deps.go:103", after := #[{ on := 1, ground := Ground.data }, { on := 2, ground := Ground.data }, { on := 1, ground := Ground.chain }], guard := none }, { dst := some 4, op := Op.assign (Operand.tmp 10), type := 26, pos := "deps.go:103", after := #[{ on := 3, ground := Ground.data }, { on := 3, ground := Ground.chain }, { on := 0, ground := Ground.phase }, { on := 1, ground := Ground.phase }, { on := 2, ground := Ground.phase }, { on := 3, ground := Ground.phase }], guard := none }] true).wp Try.prog Q { tmps := #[s, x1, x2, .pointer (some ⟨hb, 0, none⟩), x4, x5, x6, x7, x8, x9, x10], defers := ds } A := by
  refine Code.wp_mono (Q := fun x a' w' => match x with | .normal => Q .normal a' w' | _ => False) (by intro x a' w' h; cases x <;> first | exact h | exact h.elim) ?_
  obtain ⟨S, hSd⟩ : ∃ S : World → Prop, S = fun W => W.rangeAt hb 0 (U h) := ⟨_, rfl⟩
  refine wp_region_held (S := S) (by kernel_rfl) ?_
  have hS' : S A.drew := by rw [hSd]; exact hS
  clear hS
  change wpAnyH Try.prog .any _ _ S 5 (Array.replicate 5 false) _ A.drew
  refine wpAnyH_take (i := 0) (oi := { dst := some 7, op := Op.move (Operand.tmp 0), type := 22, pos := "deps.go:103", after := #[], guard := none }) (v := s) rfl (by kernel_rfl) (by kernel_rfl) (by kernel_rfl) (fun _ _ _ h => h.elim) (Or.inl ⟨by rfl, ?y0⟩) hS' ?_
  case y0 =>
    intro W hW
    rw [hSd] at hW; have s1 := hW
    go_simp
  simp only [Act.put, List.setIfInBounds_toArray, List.set_cons_zero, List.set_cons_succ]
  refine wpAnyH_take (i := 2) (oi := { dst := some 9, op := Op.load 34 (Operand.tmp 3), type := 34, pos := "deps.go:103", after := #[], guard := none }) (v := .agg (U h).toArray) rfl (by kernel_rfl) (by kernel_rfl) (by kernel_rfl) (fun _ _ _ h => h.elim) (yieldsIf_load_mid (by rfl) _ _ rfl _ _ rfl (U h) _ (fun W hW => by rw [hSd] at hW; have s1 := hW; exact s1) Try.underlying34 rfl (info34 h hl)) hS' ?_
  simp only [Act.put, List.setIfInBounds_toArray, List.set_cons_zero, List.set_cons_succ]
  refine wpAnyH_ready (rs := [1]) (by kernel_rfl) (by simp) (AllReadyH.cons (i := 1) (o := { dst := some 8, op := Op.call { callee := Callee.value (Operand.func 29), args := #[Operand.tmp 7], argTypes := #[22] }, type := 48, pos := "deps.go:103", after := #[{ on := 0, ground := Ground.data }], guard := none }) rfl ?_ AllReadyH.nil)
  intro K1 hK1
  rw [if_pos (by rfl)]
  go_wp2_with fail
  refine h29.mono ?_
  rintro e w1 ⟨b, rfl, H1⟩
  dsimp only
  refine hK1.out _ _ (by rw [hSd]; exact h1 b w1 H1.out) ?_
  clear hS' hK1
  intro hS'
  try simp only [Act.put, List.setIfInBounds_toArray, List.set_cons_zero, List.set_cons_succ]
  refine wpAnyH_ready (rs := [3]) (by kernel_rfl) (by simp) (AllReadyH.cons (i := 3) (o := { dst := some 10, op := Op.call { callee := Callee.value (Operand.func 30), args := #[Operand.tmp 8, Operand.tmp 9], argTypes := #[48, 34] }, type := 26, pos := "deps.go:103", after := #[{ on := 1, ground := Ground.data }, { on := 2, ground := Ground.data }, { on := 1, ground := Ground.chain }], guard := none }) rfl ?_ AllReadyH.nil)
  intro K1 hK1
  rw [if_pos (by rfl)]
  have H30 := h30 b w1 H1.out
  clear h30 h29
  go_wp2_with fail
  refine H30.mono ?_
  rintro e w2 ⟨v, rfl, H2⟩
  dsimp only
  refine hK1.out _ _ (by rw [hSd]; exact h2 v w2 H2.out) ?_
  clear hS' hK1
  intro hS'
  try simp only [Act.put, List.setIfInBounds_toArray, List.set_cons_zero, List.set_cons_succ]
  refine wpAnyH_take (i := 4) (oi := { dst := some 4, op := Op.assign (Operand.tmp 10), type := 26, pos := "deps.go:103", after := #[{ on := 3, ground := Ground.data }, { on := 3, ground := Ground.chain }, { on := 0, ground := Ground.phase }, { on := 1, ground := Ground.phase }, { on := 2, ground := Ground.phase }, { on := 3, ground := Ground.phase }], guard := none }) (v := v) rfl (by kernel_rfl) (by kernel_rfl) (by kernel_rfl) (fun _ _ _ h => h.elim) (Or.inl ⟨by rfl, ?y4⟩) hS' ?_
  case y4 =>
    intro W hW
    rw [hSd] at hW; have s1 := hW
    go_simp
  simp only [Act.put, List.setIfInBounds_toArray, List.set_cons_zero, List.set_cons_succ]
  refine wpAnyH_done (by kernel_rfl) ?_ _
  exact hQ b v w2 H2.out
set_option maxRecDepth 100000 in
set_option maxHeartbeats 2000000 in
theorem above_region {Q : Exit → Act → World → Prop} {x1 x2 x4 x5 x6 x7 x8 x9 x10 : Value} {ds : List Deferred} {A : World} {hb : Nat} {h : Hs} {s : Value} {P1 : Nat → World → Prop} {P2 : Value → World → Prop}
    (hl : h.length = 32) (h29 : Calls Try.prog 32 #[s] A.drew fun e w1 => ∃ b, e = .returned (.map (some b)) ∧ Hid (P1 b w1)) (h1 : ∀ b w1, P1 b w1 → w1.rangeAt hb 0 (U h)) (h30 : ∀ b w1, P1 b w1 → Calls Try.prog 30 #[.map (some b), .agg (U h).toArray] w1 fun e w2 => ∃ v, e = .returned v ∧ Hid (P2 v w2)) (h2 : ∀ v w2, P2 v w2 → w2.rangeAt hb 0 (U h)) (hS : A.drew.rangeAt hb 0 (U h))
    (hQ : ∀ b v w2, P2 v w2 → Q .normal { tmps := #[s, x1, x2, .pointer (some ⟨hb, 0, none⟩), v, x5, x6, s, .map (some b), .agg (U h).toArray, v], defers := ds } w2) :
    (Code.region 3 #[{ dst := some 7, op := Op.move (Operand.tmp 0), type := 22, pos := "deps.go:111", after := #[], guard := none }, { dst := some 8, op := Op.call { callee := Callee.value (Operand.func 32), args := #[Operand.tmp 7], argTypes := #[22] }, type := 48, pos := "deps.go:111", after := #[{ on := 0, ground := Ground.data }], guard := none }, { dst := some 9, op := Op.load 34 (Operand.tmp 3), type := 34, pos := "deps.go:111", after := #[], guard := none }, { dst := some 10, op := Op.call { callee := Callee.value (Operand.func 30), args := #[Operand.tmp 8, Operand.tmp 9], argTypes := #[48, 34] }, type := 26, pos := "deps.go:111", after := #[{ on := 1, ground := Ground.data }, { on := 2, ground := Ground.data }, { on := 1, ground := Ground.chain }], guard := none }, { dst := some 4, op := Op.assign (Operand.tmp 10), type := 26, pos := "deps.go:111", after := #[{ on := 3, ground := Ground.data }, { on := 3, ground := Ground.chain }, { on := 0, ground := Ground.phase }, { on := 1, ground := Ground.phase }, { on := 2, ground := Ground.phase }, { on := 3, ground := Ground.phase }], guard := none }] true).wp Try.prog Q { tmps := #[s, x1, x2, .pointer (some ⟨hb, 0, none⟩), x4, x5, x6, x7, x8, x9, x10], defers := ds } A := by
  refine Code.wp_mono (Q := fun x a' w' => match x with | .normal => Q .normal a' w' | _ => False) (by intro x a' w' h; cases x <;> first | exact h | exact h.elim) ?_
  obtain ⟨S, hSd⟩ : ∃ S : World → Prop, S = fun W => W.rangeAt hb 0 (U h) := ⟨_, rfl⟩
  refine wp_region_held (S := S) (by kernel_rfl) ?_
  have hS' : S A.drew := by rw [hSd]; exact hS
  clear hS
  change wpAnyH Try.prog .any _ _ S 5 (Array.replicate 5 false) _ A.drew
  refine wpAnyH_take (i := 0) (oi := { dst := some 7, op := Op.move (Operand.tmp 0), type := 22, pos := "deps.go:111", after := #[], guard := none }) (v := s) rfl (by kernel_rfl) (by kernel_rfl) (by kernel_rfl) (fun _ _ _ h => h.elim) (Or.inl ⟨by rfl, ?y0⟩) hS' ?_
  case y0 =>
    intro W hW
    rw [hSd] at hW; have s1 := hW
    go_simp
  simp only [Act.put, List.setIfInBounds_toArray, List.set_cons_zero, List.set_cons_succ]
  refine wpAnyH_take (i := 2) (oi := { dst := some 9, op := Op.load 34 (Operand.tmp 3), type := 34, pos := "deps.go:111", after := #[], guard := none }) (v := .agg (U h).toArray) rfl (by kernel_rfl) (by kernel_rfl) (by kernel_rfl) (fun _ _ _ h => h.elim) (yieldsIf_load_mid (by rfl) _ _ rfl _ _ rfl (U h) _ (fun W hW => by rw [hSd] at hW; have s1 := hW; exact s1) Try.underlying34 rfl (info34 h hl)) hS' ?_
  simp only [Act.put, List.setIfInBounds_toArray, List.set_cons_zero, List.set_cons_succ]
  refine wpAnyH_ready (rs := [1]) (by kernel_rfl) (by simp) (AllReadyH.cons (i := 1) (o := { dst := some 8, op := Op.call { callee := Callee.value (Operand.func 32), args := #[Operand.tmp 7], argTypes := #[22] }, type := 48, pos := "deps.go:111", after := #[{ on := 0, ground := Ground.data }], guard := none }) rfl ?_ AllReadyH.nil)
  intro K1 hK1
  rw [if_pos (by rfl)]
  go_wp2_with fail
  refine h29.mono ?_
  rintro e w1 ⟨b, rfl, H1⟩
  dsimp only
  refine hK1.out _ _ (by rw [hSd]; exact h1 b w1 H1.out) ?_
  clear hS' hK1
  intro hS'
  try simp only [Act.put, List.setIfInBounds_toArray, List.set_cons_zero, List.set_cons_succ]
  refine wpAnyH_ready (rs := [3]) (by kernel_rfl) (by simp) (AllReadyH.cons (i := 3) (o := { dst := some 10, op := Op.call { callee := Callee.value (Operand.func 30), args := #[Operand.tmp 8, Operand.tmp 9], argTypes := #[48, 34] }, type := 26, pos := "deps.go:111", after := #[{ on := 1, ground := Ground.data }, { on := 2, ground := Ground.data }, { on := 1, ground := Ground.chain }], guard := none }) rfl ?_ AllReadyH.nil)
  intro K1 hK1
  rw [if_pos (by rfl)]
  have H30 := h30 b w1 H1.out
  clear h30 h29
  go_wp2_with fail
  refine H30.mono ?_
  rintro e w2 ⟨v, rfl, H2⟩
  dsimp only
  refine hK1.out _ _ (by rw [hSd]; exact h2 v w2 H2.out) ?_
  clear hS' hK1
  intro hS'
  try simp only [Act.put, List.setIfInBounds_toArray, List.set_cons_zero, List.set_cons_succ]
  refine wpAnyH_take (i := 4) (oi := { dst := some 4, op := Op.assign (Operand.tmp 10), type := 26, pos := "deps.go:111", after := #[{ on := 3, ground := Ground.data }, { on := 3, ground := Ground.chain }, { on := 0, ground := Ground.phase }, { on := 1, ground := Ground.phase }, { on := 2, ground := Ground.phase }, { on := 3, ground := Ground.phase }], guard := none }) (v := v) rfl (by kernel_rfl) (by kernel_rfl) (by kernel_rfl) (fun _ _ _ h => h.elim) (Or.inl ⟨by rfl, ?y4⟩) hS' ?_
  case y4 =>
    intro W hW
    rw [hSd] at hW; have s1 := hW
    go_simp
  simp only [Act.put, List.setIfInBounds_toArray, List.set_cons_zero, List.set_cons_succ]
  refine wpAnyH_done (by kernel_rfl) ?_ _
  exact hQ b v w2 H2.out
end Go.Proofs.Ytijkpkcopjkhkaa.Oct

/- Layer 12 (deps): Needs and Above. -/
namespace Go.Proofs.Ytijkpkcopjkhkaa.Oct
open Go.RowKit

theorem allS_map {h : Hs} {xs : List Hs} : ∀ {ms : List (Hs × List Hs)}, (ms.map (·.1)).Nodup → (allS (ms.map (fun m => if m.1 = h then (m.1, m.2 ++ xs) else m))).length ≤ (allS ms).length + xs.length
  | [], _ => by simp [allS]
  | m :: ms, hn => by
    simp only [List.map_cons, List.nodup_cons] at hn
    by_cases hc : m.1 = h
    · have e : ms.map (fun m => if m.1 = h then (m.1, m.2 ++ xs) else m) = ms := by
        have : ∀ x ∈ ms, (if x.1 = h then (x.1, x.2 ++ xs) else x) = x := fun x hx => if_neg (fun e => hn.1 (List.mem_map.2 ⟨x, hx, e.trans hc.symm⟩))
        rw [List.map_congr_left this]; simp
      simp only [List.map_cons, e, if_pos hc, allS, List.flatMap_cons, List.length_append]
      omega
    · have ih := allS_map (h := h) (xs := xs) hn.2
      simp only [allS] at ih
      simp only [List.map_cons, if_neg hc, allS, List.flatMap_cons, List.length_append]
      omega
theorem keys_appS (ms : List (Hs × List Hs)) (h : Hs) (xs : List Hs) : (appS ms h xs).map (·.1) = addK (ms.map (·.1)) h := by
  unfold appS addK
  split
  · rw [List.map_map]
    apply List.map_congr_left
    intro m _
    simp only [Function.comp]
    split <;> rfl
  · simp
theorem allS_appS {ms : List (Hs × List Hs)} {h : Hs} {xs : List Hs} (hn : (ms.map (·.1)).Nodup) : (allS (appS ms h xs)).length ≤ (allS ms).length + xs.length := by
  unfold appS
  split
  · exact allS_map hn
  · simp [allS]
theorem keys_downS (l : List It) : ∀ i, ((downS (l.take i)).map (·.1)).Nodup ∧ (allS (downS (l.take i))).length ≤ many (l.take i)
  | 0 => by simp [downS, allS]
  | i + 1 => by
    cases h : l[i]? with
    | none =>
      have : l.take (i + 1) = l.take i := by rw [List.take_add_one, h]; simp
      rw [this]; exact keys_downS l i
    | some x =>
      have ih := keys_downS l i
      rw [downS_take l i x h, many_take l i x h, keys_appS]
      exact ⟨addK_nodup ih.1, Nat.le_trans (allS_appS ih.1) (by omega)⟩
theorem keys_upI {ms : List (Hs × List Hs)} {n : Hs} (hn : (ms.map (·.1)).Nodup) : ∀ (ds : List Hs), ((upI ms n ds).map (·.1)).Nodup ∧ (allS (upI ms n ds)).length ≤ (allS ms).length + ds.length := by
  intro ds
  induction ds generalizing ms with
  | nil => exact ⟨hn, by simp [upI]⟩
  | cons d ds ih =>
    have h1 : ((appS ms d [n]).map (·.1)).Nodup := by rw [keys_appS]; exact addK_nodup hn
    have h2 := ih h1
    have h3 := allS_appS (h := d) (xs := [n]) hn
    refine ⟨h2.1, ?_⟩
    have h4 := h2.2
    show (allS (upI (appS ms d [n]) n ds)).length ≤ _
    simp at h3 ⊢
    omega
theorem keys_upS (l : List It) : ∀ i, ((upS (l.take i)).map (·.1)).Nodup ∧ (allS (upS (l.take i))).length ≤ many (l.take i)
  | 0 => by simp [upS, allS]
  | i + 1 => by
    cases h : l[i]? with
    | none =>
      have : l.take (i + 1) = l.take i := by rw [List.take_add_one, h]; simp
      rw [this]; exact keys_upS l i
    | some x =>
      have ih := keys_upS l i
      have h2 := keys_upI (n := x.name) ih.1 x.deps
      rw [upS_take l i x h, many_take l i x h]
      exact ⟨h2.1, by have := h2.2; have := ih.2; omega⟩
theorem downS_all (l : List It) : (allS (downS l)).length ≤ many l := by
  have := (keys_downS l l.length).2
  rwa [List.take_length] at this
theorem upS_all (l : List It) : (allS (upS l)).length ≤ many l := by
  have := (keys_upS l l.length).2
  rwa [List.take_length] at this
theorem LtH.ne {a b : Hs} (h : LtH a b) : a ≠ b := by rintro rfl; exact LtH.irr a h
theorem rise_nodup {rs : List Hs} (h : rs.Pairwise LtH) : rs.Nodup := List.nodup_iff_pairwise_ne.2 (h.imp LtH.ne)
/-- hashes of a kind, in order -/
def SetP (w : World) (p : Hs → Prop) (e : Ending) (w' : World) : Prop := ∃ a n c rs, e = .returned (.slice a n c) ∧ Hid (HsR w' a n rs ∧ n ≤ 100000 ∧ rs.Pairwise LtH ∧ ∀ x, x ∈ rs ↔ p x) ∧ Hid (Below w.heap.size w w')
theorem SetP.nil (w : World) {p : Hs → Prop} (hp : ∀ x, ¬ p x) {w' : World} (hb : Below w.heap.size w w') : SetP w p (.returned (.slice none 0 0)) w' :=
  ⟨none, 0, 0, [], rfl, ⟨HsR.nil _ _, by omega, List.Pairwise.nil, fun x => ⟨(fun h => by cases h), fun h => absurd h (hp x)⟩⟩, hb⟩
theorem SetP.base {w w1 w2 : World} {p : Hs → Prop} {e : Ending} (h : SetP w1 p e w2) (hb : Below w.heap.size w w1) : SetP w p e w2 := by
  obtain ⟨a, n, c, rs, h1, h2, h3⟩ := h
  exact ⟨a, n, c, rs, h1, h2, hb.trans (h3.out.mono hb.size)⟩
theorem below_undrew {w w' : World} (h : Below w.drew.heap.size w.drew w') : Below w.heap.size w w' := ⟨h.os, h.tape, h.output, h.size, h.block⟩
theorem SetP.is {w w' : World} {p q : Hs → Prop} {e : Ending} (h : SetP w p e w') (hpq : ∀ x, p x ↔ q x) : SetP w q e w' := by
  obtain ⟨a, n, c, rs, h1, h2, h3⟩ := h
  exact ⟨a, n, c, rs, h1, ⟨h2.out.1, h2.out.2.1, h2.out.2.2.1, fun x => (h2.out.2.2.2 x).trans (hpq x)⟩, h3⟩
theorem SetP.bel {w w' : World} {p : Hs → Prop} {e : Ending} (h : SetP w p e w') : Below w.heap.size w w' := by
  obtain ⟨a, n, c, rs, h1, h2, h3⟩ := h
  exact h3.out
theorem reach_set {W : World} {bm B : Nat} {ms : List (Hs × List Hs)} {h : Hs} (hs : StM W bm B ms) (hl : h.length = 32) (hT : (allS ms).length ≤ 90000) :
    Calls Try.prog 30 #[.map (some bm), .agg (U h).toArray] W (SetP W (Reach (getS ms) h)) := by
  obtain ⟨es, hes⟩ := hs
  refine (reach_is W bm B ms h ⟨es, hes⟩ hl hT hes.lens).mono ?_
  rintro e w' ⟨ks, ⟨a, n, c, rs, rfl, H1, H2⟩, H3⟩
  refine ⟨a, n, c, rs, rfl, ⟨H1.out.1, ?_, H1.out.2.2.1, fun x => (H1.out.2.2.2 x).trans (H3.out x)⟩, H2⟩
  have := nodup_le rs (allS ms) (rise_nodup H1.out.2.2.1) (fun x hx => reach_all ((H3.out x).1 ((H1.out.2.2.2 x).1 hx)))
  rw [H1.out.1.1] at this
  omega

set_option maxRecDepth 100000 in
set_option maxHeartbeats 1000000 in
theorem needs_is (w : World) (a : Option Addr) (len cap : Nat) (l : List It) (h : Hs) (hi : Its w a len l) (hl : h.length = 32) (hn : len ≤ 100000) (hm : many l ≤ 90000) :
    Calls Try.prog 14 #[.slice a len cap, .agg (U h).toArray] w (SetP w fun x => len ≤ 256 ∧ Reach (getS (downS l)) h x) := by
  have HI : Hid (Its w a len l ∧ h.length = 32 ∧ len ≤ 100000 ∧ many l ≤ 90000) := ⟨hi, hl, hn, hm⟩
  obtain ⟨W, hW⟩ : ∃ W, w.alloc (.cells (U h).toArray 34) = W := ⟨_, rfl⟩
  have HB : Hid (Below w.heap.size w W ∧ W.rangeAt w.heap.size 0 (U h) ∧ w.heap.size < W.heap.size) := ⟨by rw [← hW]; exact (Below.refl _ w).alloc (Nat.le_refl _) _, by rw [← hW]; exact new34 w h, by rw [← hW]; simp⟩
  have HW : Hid (w.alloc (.cells (U h).toArray 34) = W) := hW
  clear hW hi hl hn hm
  by_cases h256 : 256 < len
  · have hd : decide (256 < len) = true := by simpa using h256
    have HN : Hid (¬ len ≤ 256) := by show ¬ _; omega
    have H23 := isLong_is W a len cap
    rw [hd] at H23
    have H23' : Hid (Calls Try.prog 23 #[.slice a len cap] W fun e w' => e = .returned (.bool true) ∧ W = w') := H23
    clear H23 h256 hd
    go_enter Try.func14, Try.ntmps14
    go_wp2_with fail
    rw [HW.out]
    refine H23'.out.mono ?_
    rintro e w' ⟨rfl, rfl⟩
    go_wp2
    go_ret
    exact SetP.nil w (fun x hx => HN.out hx.1) HB.out.1
  · have hd : decide (256 < len) = false := by simpa using h256
    have HN : Hid (len ≤ 256) := by show _ ≤ _; omega
    have H23 := isLong_is W a len cap
    rw [hd] at H23
    have H23' : Hid (Calls Try.prog 23 #[.slice a len cap] W fun e w' => e = .returned (.bool false) ∧ W = w') := H23
    clear H23 h256 hd
    go_enter Try.func14, Try.ntmps14
    go_wp2_with fail
    rw [HW.out]
    refine H23'.out.mono ?_
    rintro e w' ⟨rfl, rfl⟩
    go_wp2
    refine needs_region (P1 := fun b w1 => StM w1 b W.heap.size (downS l) ∧ Below W.heap.size W w1) (P2 := fun v w2 => SetP W (Reach (getS (downS l)) h) (.returned v) w2) HI.out.2.1 ?_ ?_ ?_ ?_ HB.out.2.1 ?_
    · refine (down_is W.drew a len cap l (HI.out.1.below HB.out.1.drew) HI.out.2.2.1 (by have := HI.out.2.2.2; omega)).mono ?_
      rintro e w1 ⟨b, rfl, H1, H2⟩
      exact ⟨b, rfl, H1.out.1, below_undrew H2.out⟩
    · rintro b w1 ⟨h1, h2⟩
      exact rangeAt_same HB.out.2.1 (h2.block _ HB.out.2.2)
    · rintro b w1 ⟨h1, h2⟩
      refine (reach_set h1 HI.out.2.1 (Nat.le_trans (downS_all l) HI.out.2.2.2)).mono ?_
      intro e w2 hp
      obtain ⟨a2, n2, c2, rs, rfl, H1, H2⟩ := hp
      exact ⟨_, rfl, SetP.base ⟨a2, n2, c2, rs, rfl, H1, H2⟩ h2⟩
    · intro v w2 h1
      exact rangeAt_same HB.out.2.1 (h1.bel.block _ HB.out.2.2)
    · intro b v w2 h1
      obtain ⟨a2, n2, c2, rs, he, H1, H2⟩ := h1
      cases he
      go_wp2
      go_ret
      exact ⟨a2, n2, c2, rs, rfl, ⟨H1.out.1, H1.out.2.1, H1.out.2.2.1, fun x => (H1.out.2.2.2 x).trans ⟨fun h => ⟨HN.out, h⟩, fun h => h.2⟩⟩, HB.out.1.trans (H2.out.mono HB.out.1.size)⟩
set_option maxRecDepth 100000 in
set_option maxHeartbeats 1000000 in
theorem above_is (w : World) (a : Option Addr) (len cap : Nat) (l : List It) (h : Hs) (hi : Its w a len l) (hl : h.length = 32) (hn : len ≤ 100000) (hm : many l ≤ 90000) :
    Calls Try.prog 16 #[.slice a len cap, .agg (U h).toArray] w (SetP w fun x => len ≤ 256 ∧ Reach (getS (upS l)) h x) := by
  have HI : Hid (Its w a len l ∧ h.length = 32 ∧ len ≤ 100000 ∧ many l ≤ 90000) := ⟨hi, hl, hn, hm⟩
  obtain ⟨W, hW⟩ : ∃ W, w.alloc (.cells (U h).toArray 34) = W := ⟨_, rfl⟩
  have HB : Hid (Below w.heap.size w W ∧ W.rangeAt w.heap.size 0 (U h) ∧ w.heap.size < W.heap.size) := ⟨by rw [← hW]; exact (Below.refl _ w).alloc (Nat.le_refl _) _, by rw [← hW]; exact new34 w h, by rw [← hW]; simp⟩
  have HW : Hid (w.alloc (.cells (U h).toArray 34) = W) := hW
  clear hW hi hl hn hm
  by_cases h256 : 256 < len
  · have hd : decide (256 < len) = true := by simpa using h256
    have HN : Hid (¬ len ≤ 256) := by show ¬ _; omega
    have H23 := isLong_is W a len cap
    rw [hd] at H23
    have H23' : Hid (Calls Try.prog 23 #[.slice a len cap] W fun e w' => e = .returned (.bool true) ∧ W = w') := H23
    clear H23 h256 hd
    go_enter Try.func16, Try.ntmps16
    go_wp2_with fail
    rw [HW.out]
    refine H23'.out.mono ?_
    rintro e w' ⟨rfl, rfl⟩
    go_wp2
    go_ret
    exact SetP.nil w (fun x hx => HN.out hx.1) HB.out.1
  · have hd : decide (256 < len) = false := by simpa using h256
    have HN : Hid (len ≤ 256) := by show _ ≤ _; omega
    have H23 := isLong_is W a len cap
    rw [hd] at H23
    have H23' : Hid (Calls Try.prog 23 #[.slice a len cap] W fun e w' => e = .returned (.bool false) ∧ W = w') := H23
    clear H23 h256 hd
    go_enter Try.func16, Try.ntmps16
    go_wp2_with fail
    rw [HW.out]
    refine H23'.out.mono ?_
    rintro e w' ⟨rfl, rfl⟩
    go_wp2
    refine above_region (P1 := fun b w1 => StM w1 b W.heap.size (upS l) ∧ Below W.heap.size W w1) (P2 := fun v w2 => SetP W (Reach (getS (upS l)) h) (.returned v) w2) HI.out.2.1 ?_ ?_ ?_ ?_ HB.out.2.1 ?_
    · refine (up_is W.drew a len cap l (HI.out.1.below HB.out.1.drew) HI.out.2.2.1 (by have := HI.out.2.2.2; omega)).mono ?_
      rintro e w1 ⟨b, rfl, H1, H2⟩
      exact ⟨b, rfl, H1.out.1, below_undrew H2.out⟩
    · rintro b w1 ⟨h1, h2⟩
      exact rangeAt_same HB.out.2.1 (h2.block _ HB.out.2.2)
    · rintro b w1 ⟨h1, h2⟩
      refine (reach_set h1 HI.out.2.1 (Nat.le_trans (upS_all l) HI.out.2.2.2)).mono ?_
      intro e w2 hp
      obtain ⟨a2, n2, c2, rs, rfl, H1, H2⟩ := hp
      exact ⟨_, rfl, SetP.base ⟨a2, n2, c2, rs, rfl, H1, H2⟩ h2⟩
    · intro v w2 h1
      exact rangeAt_same HB.out.2.1 (h1.bel.block _ HB.out.2.2)
    · intro b v w2 h1
      obtain ⟨a2, n2, c2, rs, he, H1, H2⟩ := h1
      cases he
      go_wp2
      go_ret
      exact ⟨a2, n2, c2, rs, rfl, ⟨H1.out.1, H1.out.2.1, H1.out.2.2.1, fun x => (H1.out.2.2.2 x).trans ⟨fun h => ⟨HN.out, h⟩, fun h => h.2⟩⟩, HB.out.1.trans (H2.out.mono HB.out.1.size)⟩
end Go.Proofs.Ytijkpkcopjkhkaa.Oct

/- Layer 12 (deps): the reference: With. -/
namespace Go.Proofs.Ytijkpkcopjkhkaa.Oct
open Go.RowKit

theorem less_iff : ∀ a b : Hs, Op.bytesLess a b = decide (LtH a b)
  | [], [] => by simp [Op.bytesLess, LtH, Lib.compareBytes]
  | _ :: _, [] => by simp [Op.bytesLess, LtH, Lib.compareBytes]
  | [], _ :: _ => by simp [Op.bytesLess, LtH, Lib.compareBytes]
  | x :: a, y :: b => by
    have ih := less_iff a b
    unfold LtH at *
    unfold Op.bytesLess Lib.compareBytes
    rcases u8_tri x y with h | rfl | h
    · simp [h]
    · simp only [u8_irr x, ih, decide_false, Bool.false_or, beq_self_eq_true, Bool.true_and, if_false]
      rfl
    · have h1 := u8_not h
      have h2 : ¬ x = y := fun e => by subst e; exact u8_irr x h
      simp [h, h1, h2]
theorem with_rise {hs : List Hs} {h : Hs} {k : Nat} (hr : hs.Pairwise LtH) (h1 : ∀ j x, j < k → hs[j]? = some x → LtH x h) (h2 : ∀ y, hs[k]? = some y → ¬ LtH y h ∧ y ≠ h) : (hs.take k ++ [h] ++ hs.drop k).Pairwise LtH := by
  have t1 : ∀ x ∈ hs.take k, LtH x h := fun x hx => by
    obtain ⟨j, hj, e⟩ := List.mem_take_iff_getElem.1 hx
    exact h1 j x (by omega) (by rw [← e]; exact List.getElem?_eq_getElem (by omega))
  have t2 : ∀ x ∈ hs.drop k, LtH h x := fun x hx => by
    obtain ⟨j, hj, e⟩ := List.mem_drop_iff_getElem.1 hx
    have hk : k < hs.length := by omega
    have := h2 hs[k] (List.getElem?_eq_getElem hk)
    have hky : LtH h hs[k] := by
      rcases LtH.tri h hs[k] with h | h | h
      · exact h
      · exact absurd h.symm this.2
      · exact absurd h this.1
    cases j with
    | zero => rw [← e]; exact hky
    | succ j =>
      refine hky.tr ?_
      rw [← e]
      exact List.pairwise_iff_getElem.1 hr k (k + (j + 1)) hk (by omega) (by omega)
  rw [List.pairwise_append, List.pairwise_append]
  refine ⟨⟨hr.sublist (List.take_sublist _ _), by simp, fun a ha b hb => by simp at hb; subst hb; exact t1 a ha⟩, hr.sublist (List.drop_sublist _ _), fun a ha b hb => ?_⟩
  rcases List.mem_append.1 ha with ha | ha
  · exact (t1 a ha).tr (t2 b hb)
  · simp at ha; subst ha; exact t2 b hb
theorem with_mem {hs : List Hs} {h : Hs} {k : Nat} (x : Hs) : x ∈ hs.take k ++ [h] ++ hs.drop k ↔ x ∈ hs ∨ x = h := by
  conv => rhs; rw [← List.take_append_drop k hs]
  simp only [List.mem_append, List.mem_singleton]
  constructor
  · rintro ((h | h) | h)
    · exact .inl (.inl h)
    · exact .inr h
    · exact .inl (.inr h)
  · rintro ((h | h) | h)
    · exact .inl (.inl h)
    · exact .inr h
    · exact .inl (.inr h)
/-- hashes that can be read, rising; and where they lie -/
def RiR (w : World) (a : Option Addr) (n c : Nat) (hs : List Hs) : Prop := HsR w a n hs ∧ n ≤ c ∧ Ad a c ∧ hs.Pairwise LtH
theorem RiR.below {w w' : World} {a : Option Addr} {n c : Nat} {hs : List Hs} (h : RiR w a n c hs) (hb : Below w.heap.size w w') : RiR w' a n c hs := ⟨h.1.below hb, h.2⟩
theorem RiR.nil (w : World) : RiR w none 0 0 [] := ⟨HsR.nil _ _, Nat.le_refl _, .inl ⟨rfl, rfl⟩, List.Pairwise.nil⟩
def WithP (w : World) (a : Option Addr) (n : Nat) (hs : List Hs) (h : Hs) (e : Ending) (w' : World) : Prop := ∃ p m c rs, e = .returned (.slice p m c) ∧ Hid (RiR w' p m c rs ∧ m ≤ n + 1 ∧ ∀ x, x ∈ rs ↔ x ∈ hs ∨ x = h) ∧ Hid (Below w.heap.size w w') ∧ Hid (p = a ∨ ∃ g, p = some ⟨g, 0, none⟩ ∧ w.heap.size ≤ g)
theorem own_empty (w : World) (B : Nat) (hB : B ≤ w.heap.size) : (w.alloc (.cells #[] 34)).ownsRow B 34 32 (.slice (some ⟨w.heap.size, 0, none⟩) 0 0) 0 (UU []) := by
  refine ⟨by simp [UU], .inr ⟨w.heap.size, 0, #[], rfl, hB, heap_alloc_new w _, Nat.le_refl _, by unfold maxLen; omega, by simp, by simp [UU]⟩⟩
theorem run_bslice0 (W : World) : (Instr.buildSlice 26 0 #[]).run Try.prog W = .ok (.slice (some ⟨W.heap.size, 0, none⟩) 0 0) (W.alloc (.cells #[] 34)) := by kernel_rfl
theorem HsR.take {w : World} {a : Option Addr} {n : Nat} {hs : List Hs} (h : HsR w a n hs) {k : Nat} (hk : k ≤ n) : HsR w a k (hs.take k) := by
  refine ⟨by rw [List.length_take, h.1]; omega, fun x hx => h.2.1 x (List.mem_of_mem_take hx), fun hp => ?_⟩
  obtain ⟨g, off, e, h1, h2⟩ := h.2.2 (by omega)
  refine ⟨g, off, e, h1, fun i x hi => h2 i x ?_⟩
  rw [List.getElem?_take] at hi
  split at hi
  · exact hi
  · cases hi
theorem HsR.drop {w : World} {g off n : Nat} {hs : List Hs} (h : HsR w (some ⟨g, off, none⟩) n hs) {k c : Nat} (hk : k ≤ n) (hc : n ≤ c) : HsR w (if c = k then some ⟨g, off, none⟩ else some ⟨g, off + k * 32, none⟩) (n - k) (hs.drop k) := by
  refine ⟨by rw [List.length_drop, h.1], fun x hx => h.2.1 x (List.mem_of_mem_drop hx), fun hp => ?_⟩
  rw [if_neg (by omega)]
  obtain ⟨g', off', e, h1, h2⟩ := h.2.2 (by omega)
  cases e
  refine ⟨g, _, rfl, h1, fun i x hi => ?_⟩
  rw [List.getElem?_drop] at hi
  have := h2 (k + i) x hi
  rw [show off + (k + i) * 32 = off + k * 32 + i * 32 by omega] at this
  exact this

set_option maxRecDepth 100000 in
set_option maxHeartbeats 2000000 in
theorem with_is (w : World) (a : Option Addr) (n c : Nat) (hs : List Hs) (h : Hs) (hr : RiR w a n c hs) (hl : h.length = 32) (hn : n ≤ 100000) :
    Calls Try.prog 31 #[.slice a n c, .agg (U h).toArray] w (WithP w a n hs h) := by
  have HR : Hid (RiR w a n c hs ∧ n ≤ 100000 ∧ h.length = 32 ∧ hs.length = n) := ⟨hr, hn, hl, hr.1.1⟩
  have q0 : (n : Int) ≤ 100000 := by omega
  have q00 : (n : Int) ≤ (c : Int) := by have := hr.2.1; omega
  have hu := Try.underlying34
  have hi34 := info34 h hl
  have h1 := U_one h
  have hul : (U h).length = 32 := by rw [U_length, hl]
  clear hr hn hl
  go_enter Try.func31, Try.ntmps31
  go_wp2
  obtain ⟨W, hW⟩ : ∃ W, w.alloc (.cells (U h).toArray 34) = W := ⟨_, rfl⟩
  have HB0 : Hid (Below w.heap.size w W ∧ W.rangeAt w.heap.size 0 (U h) ∧ w.heap.size < W.heap.size) := by rw [← hW]; exact ⟨(Below.refl _ w).alloc (Nat.le_refl _) _, new34 w h, by simp⟩
  rw [hW]
  clear hW
  go_loopw [5] (fun u wr => ∃ i : Nat, u = .int .i64 (i : Int) ∧ Hid (i ≤ n ∧ ∀ j x, j < i → hs[j]? = some x → LtH x h) ∧ Hid (Below W.heap.size W wr)) (fun u _ => n - (intOf u).toNat)
  case atStart => exact ⟨0, rfl, ⟨Nat.zero_le _, fun j x hj => absurd hj (by omega)⟩, Below.refl _ _⟩
  case round =>
    obtain ⟨i, rfl, HI, HB⟩ := hrel
    have HBW : Hid (Below w.heap.size w wr) := HB0.out.1.trans (HB.out.mono HB0.out.1.size)
    by_cases hin : i < n
    · obtain ⟨x, hx⟩ : ∃ x, hs[i]? = some x := ⟨_, List.getElem?_eq_getElem (by rw [HR.out.2.2.2]; exact hin)⟩
      obtain ⟨g, off, rfl, hg, hel⟩ := HR.out.1.1.2.2 (by omega)
      have HX : Hid (i < n ∧ hs[i]? = some x ∧ x.length = 32) := ⟨hin, hx, HR.out.1.1.2.1 x (List.mem_of_getElem? hx)⟩
      have HK : Hid (wr.rangeAt g (off + i * 32) (U x) ∧ wr.rangeAt w.heap.size 0 (U h) ∧ g < wr.heap.size ∧ w.heap.size < wr.heap.size) := ⟨rangeAt_same (hel i x hx) (HBW.out.block g hg), rangeAt_same HB0.out.2.1 (HB.out.block _ HB0.out.2.2), Nat.lt_of_lt_of_le hg HBW.out.size, Nat.lt_of_lt_of_le HB0.out.2.2 HB.out.size⟩
      have q1 : (i : Int) < (n : Int) := by omega
      clear hel hx hin hg
      cases hd : Op.bytesLess x h with
      | true =>
        have HD : Hid (LtH x h) := by show LtH x h; rw [less_iff] at hd; simpa using hd
        have HD2 : Hid (Op.bytesLess x h = true) := hd
        clear hd
        go_wp2
        refine with_region_t HX.out.2.2 HR.out.2.2.1 (by omega) HK HD2.out ?_
        intro V hV
        have HV : Hid (Below W.heap.size W V) := HB.out.trans (hV.mono HB.out.size)
        clear hV
        go_wp2
        go_roundw
        case rel =>
          refine ⟨i + 1, by simp, ⟨HX.out.1, fun j y hj hy => ?_⟩, HV⟩
          by_cases hji : j = i
          · subst hji; rw [HX.out.2.1] at hy; cases hy; exact HD.out
          · exact HI.out.2 j y (by omega) hy
        case measure => have := HX.out; simp [intOf]; omega
      | false =>
        have HD : Hid (¬ LtH x h) := by show ¬ LtH x h; rw [less_iff] at hd; simpa using hd
        have HD2 : Hid (Op.bytesLess x h = false) := hd
        clear hd
        go_wp2
        refine with_region_t HX.out.2.2 HR.out.2.2.1 (by omega) HK HD2.out ?_
        intro V hV
        have HV : Hid (Below w.heap.size w V ∧ (V.rangeAt g (off + i * 32) (U x) ∧ V.rangeAt w.heap.size 0 (U h) ∧ g < V.heap.size ∧ w.heap.size < V.heap.size)) := ⟨HBW.out.trans (hV.mono HBW.out.size), rangeAt_same HK.out.1 (hV.block _ HK.out.2.2.1), rangeAt_same HK.out.2.1 (hV.block _ HK.out.2.2.2), Nat.lt_of_lt_of_le HK.out.2.2.1 hV.size, Nat.lt_of_lt_of_le HK.out.2.2.2 hV.size⟩
        clear hV HK
        have heq := eqH x h HX.out.2.2 HR.out.2.2.1
        go_wp2
        cases hd : decide (x = h) with
        | true =>
          have HE : Hid (x = h) := by show x = h; simpa using hd
          rw [hd] at heq
          clear hd
          refine with_region4_t HX.out.2.2 HR.out.2.2.1 (by omega) HV.out.2 heq ?_
          go_wp2
          go_ret
          refine ⟨_, n, c, hs, rfl, ⟨(HR.out.1.below HV.out.1).below (below_drew' _), by omega, fun y => ?_⟩, HV.out.1.drew, .inl rfl⟩
          exact ⟨fun hy => .inl hy, fun hy => by
            rcases hy with hy | rfl
            · exact hy
            · rw [← HE.out]; exact List.mem_of_getElem? HX.out.2.1⟩
        | false =>
          have HE : Hid (x ≠ h) := by show x ≠ h; simpa using hd
          rw [hd] at heq
          clear hd
          refine with_region4_t HX.out.2.2 HR.out.2.2.1 (by omega) HV.out.2 heq ?_
          have HIN : Hid (i ≤ n) := by show _ ≤ _; have := HX.out.1; omega
          have HLAST : Hid (∀ y, hs[i]? = some y → ¬ LtH y h ∧ y ≠ h) := fun y hy => by
            rw [HX.out.2.1] at hy
            cases hy
            exact ⟨HD.out, HE.out⟩
          obtain ⟨V1, hV1⟩ : ∃ V1, V.drew = V1 := ⟨_, rfl⟩
          have HV1 : Hid (Below w.heap.size w V1 ∧ V1.rangeAt w.heap.size 0 (U h) ∧ w.heap.size + 1 ≤ V1.heap.size) := by rw [← hV1]; exact ⟨HV.out.1.drew, HV.out.2.2.1, HV.out.2.2.2.2⟩
          rw [hV1]
          clear hV1
          go_wp2_with (first
            | (with_reducible change wpList _ _ _ ({ dst := some 38, op := _, type := _, pos := _, after := _, guard := _ } :: _) _ _
               refine Hid.out ?_)
            | fail)
          show wpList _ _ _ _ _ _
          have HE1 : Hid (Below w.heap.size w (V1.alloc (.cells #[] 34)) ∧ (V1.alloc (.cells #[] 34)).ownsRow (w.heap.size + 1) 34 32 (.slice (some ⟨V1.heap.size, 0, none⟩) 0 0) 0 (UU [])) := ⟨HV1.out.1.alloc HV1.out.1.size _, own_empty V1 _ HV1.out.2.2⟩
          refine wpList_app rfl (.tmp 34) (.tmp 37) rfl (w.heap.size + 1) _ 0 [] (some ⟨g, off, none⟩) i c (hs.take i) rfl rfl HE1.out.2 ((HR.out.1.1.take HIN.out).below HE1.out.1) (by have := HR.out.2.1; have := HIN.out; omega) (by simp; have := HV1.out.2.2; omega) ?_
          intro v2 w2 r1 r2 r3
          have HB2 : Hid (Below w.heap.size w w2 ∧ w.heap.size + 1 ≤ w2.heap.size) := ⟨below_row HE1.out.1 r2 HE1.out.2 (by omega), by have := r2.size; simp at this; have := HV1.out.2.2; omega⟩
          rw [Nat.zero_add, List.nil_append] at r1
          have HO2 : Hid (w2.ownsRow (w.heap.size + 1) 34 32 v2 i (UU (hs.take i))) := r1
          have HH2 : Hid (w2.rangeAt w.heap.size 0 (U h)) := rangeAt_same HV1.out.2.1 ((r2.block _ (by simp; have := HV1.out.2.2; omega) (fun e => by have := (HE1.out.2.lt _ e.symm).1; omega)).trans (Below.heap_alloc _ _ _ (by have := HV1.out.2.2; omega)))
          obtain ⟨a2, c2, rfl, _, _, _⟩ := own_read r1 (fun y hy => HR.out.1.1.2.1 y (List.mem_of_mem_take hy))
          clear r1 r2 r3
          simp only [Act.put, List.setIfInBounds_toArray, List.set_cons_zero, List.set_cons_succ]
          go_wp2_with (first
            | (with_reducible change wpList _ _ _ ({ dst := some 40, op := _, type := _, pos := _, after := _, guard := _ } :: _) _ _
               refine wpList_load_mid rfl 34 (.tmp 3) rfl w.heap.size 0 rfl (U h) _ HH2.out Try.underlying34 rfl (info34 h HR.out.2.2.1) ?_)
            | (with_reducible change wpList _ _ _ ({ dst := some 41, op := _, type := _, pos := _, after := _, guard := _ } :: _) _ _
               refine wpList_bslice1 rfl (.tmp 40) rfl h HR.out.2.2.1 rfl ?_)
            | (with_reducible change wpList _ _ _ ({ dst := some 42, op := _, type := _, pos := _, after := _, guard := _ } :: _) _ _
               refine Hid.out ?_)
            | fail)
          show wpList _ _ _ _ _ _
          have HB3 : Hid (Below w.heap.size w (w2.alloc (.cells (U h).toArray 34))) := HB2.out.1.alloc HB2.out.1.size _
          refine wpList_app rfl (.tmp 39) (.tmp 41) rfl (w.heap.size + 1) (.slice a2 i c2) i (hs.take i) (some ⟨w2.heap.size, 0, none⟩) 1 1 [h] rfl rfl (HO2.out.alloc _) (HsR.one w2 h HR.out.2.2.1) (by have := HR.out.2.1; have := HIN.out; omega) (by simp; have := HB2.out.2; omega) ?_
          intro v3 w3 r1 r2 r3
          have HB4 : Hid (Below w.heap.size w w3 ∧ w.heap.size + 1 ≤ w3.heap.size) := ⟨below_row HB3.out r2 (HO2.out.alloc _) (by omega), by have := r2.size; simp at this; have := HB2.out.2; omega⟩
          have HO3 : Hid (w3.ownsRow (w.heap.size + 1) 34 32 v3 (i + 1) (UU (hs.take i ++ [h]))) := r1
          obtain ⟨a3, c3, rfl, _, _, _⟩ := own_read r1 (fun y hy => by
            rcases List.mem_append.1 hy with hy | hy
            · exact HR.out.1.1.2.1 y (List.mem_of_mem_take hy)
            · simp at hy; subst hy; exact HR.out.2.2.1)
          clear r1 r2 r3
          simp only [Act.put, List.setIfInBounds_toArray, List.set_cons_zero, List.set_cons_succ]
          go_wp2_with (first
            | (with_reducible change wpList _ _ _ ({ dst := some 47, op := _, type := _, pos := _, after := _, guard := _ } :: _) _ _
               refine Hid.out ?_)
            | fail)
          show wpList _ _ _ _ _ _
          refine wpList_app rfl (.tmp 43) (.tmp 46) rfl (w.heap.size + 1) (.slice a3 (i + 1) c3) (i + 1) (hs.take i ++ [h]) _ (n - i) (c - i) (hs.drop i) rfl rfl HO3.out (HsR.below (show HsR w (some ⟨g, off + i * 32, none⟩) (n - i) (hs.drop i) by have := HR.out.1.1.drop HIN.out HR.out.1.2.1; rw [if_neg (by have := HX.out.1; have := HR.out.1.2.1; omega)] at this; exact this) HB4.out.1) (by have := HR.out.2.1; have := HIN.out; omega) HB4.out.2 ?_
          intro v4 w4 r1 r2 r3
          have HB5 : Hid (Below w.heap.size w w4) := below_row HB4.out.1 r2 HO3.out (by omega)
          obtain ⟨a4, c4, rfl, r4, r5, r6⟩ := own_read r1 (fun y hy => by
            rcases List.mem_append.1 hy with hy | hy
            · rcases List.mem_append.1 hy with hy | hy
              · exact HR.out.1.1.2.1 y (List.mem_of_mem_take hy)
              · simp at hy; subst hy; exact HR.out.2.2.1
            · exact HR.out.1.1.2.1 y (List.mem_of_mem_drop hy))
          have HF : Hid (RiR w4 a4 (i + 1 + (n - i)) c4 (hs.take i ++ [h] ++ hs.drop i) ∧ ∃ g, a4 = some ⟨g, 0, none⟩ ∧ w.heap.size ≤ g) := by
            obtain ⟨g4, off4, e4, _, _⟩ := r4.2.2 (by omega)
            refine ⟨⟨r4, r5, .inr ⟨g4, off4, e4⟩, with_rise HR.out.1.2.2.2 HI.out.2 HLAST.out⟩, ?_⟩
            rcases r6 with r6 | ⟨g6, r6, r7⟩
            · rw [e4] at r6; cases r6
            · exact ⟨g6, r6, by omega⟩
          clear r1 r2 r3 r4 r5 r6
          simp only [Act.put, List.setIfInBounds_toArray, List.set_cons_zero, List.set_cons_succ]
          go_wp2
          go_ret
          exact ⟨a4, i + 1 + (n - i), c4, _, rfl, ⟨HF.out.1, by have := HIN.out; omega, with_mem⟩, HB5, .inr HF.out.2⟩
    · obtain rfl : i = n := by have := HI.out.1; omega
      have HIN : Hid (i ≤ i) := Nat.le_refl i
      have HLAST : Hid (∀ y, hs[i]? = some y → ¬ LtH y h ∧ y ≠ h) := fun y hy => by
        rw [List.getElem?_eq_none (by have := HR.out.2.2.2; omega)] at hy
        cases hy
      have q1 : ¬ (i : Int) < (i : Int) := by omega
      have HV0 : Hid (wr.rangeAt w.heap.size 0 (U h) ∧ w.heap.size < wr.heap.size) := ⟨rangeAt_same HB0.out.2.1 (HB.out.block _ HB0.out.2.2), Nat.lt_of_lt_of_le HB0.out.2.2 HB.out.size⟩
      clear hin
      go_wp2
      refine with_region_f (by omega) ?_
      obtain ⟨V, hV⟩ : ∃ V, wr.drew = V := ⟨_, rfl⟩
      have HV : Hid (Below w.heap.size w V ∧ V.rangeAt w.heap.size 0 (U h) ∧ w.heap.size < V.heap.size) := by rw [← hV]; exact ⟨HBW.out.drew, HV0.out.1, HV0.out.2⟩
      rw [hV]
      clear hV HV0
      go_wp2
      refine with_region4_f (by omega) ?_
      rcases HR.out.1.2.2.1 with ⟨ha, hc⟩ | ⟨g, off, ha⟩
      · subst ha hc
        obtain rfl : i = 0 := by have := HR.out.1.2.1; omega
        obtain ⟨V1, hV1⟩ : ∃ V1, V.drew = V1 := ⟨_, rfl⟩
        have HV1 : Hid (Below w.heap.size w V1 ∧ V1.rangeAt w.heap.size 0 (U h) ∧ w.heap.size + 1 ≤ V1.heap.size) := by rw [← hV1]; exact ⟨HV.out.1.drew, HV.out.2.1, HV.out.2.2⟩
        rw [hV1]
        clear hV1
        go_wp2_with (first
          | (with_reducible change wpList _ _ _ ({ dst := some 38, op := _, type := _, pos := _, after := _, guard := _ } :: _) _ _
             refine Hid.out ?_)
          | fail)
        show wpList _ _ _ _ _ _
        have HE1 : Hid (Below w.heap.size w (V1.alloc (.cells #[] 34)) ∧ (V1.alloc (.cells #[] 34)).ownsRow (w.heap.size + 1) 34 32 (.slice (some ⟨V1.heap.size, 0, none⟩) 0 0) 0 (UU [])) := ⟨HV1.out.1.alloc HV1.out.1.size _, own_empty V1 _ HV1.out.2.2⟩
        refine wpList_app rfl (.tmp 34) (.tmp 37) rfl (w.heap.size + 1) _ 0 [] none 0 0 (hs.take 0) rfl rfl HE1.out.2 ((HR.out.1.1.take HIN.out).below HE1.out.1) (by have := HR.out.2.1; have := HIN.out; omega) (by simp; have := HV1.out.2.2; omega) ?_
        intro v2 w2 r1 r2 r3
        have HB2 : Hid (Below w.heap.size w w2 ∧ w.heap.size + 1 ≤ w2.heap.size) := ⟨below_row HE1.out.1 r2 HE1.out.2 (by omega), by have := r2.size; simp at this; have := HV1.out.2.2; omega⟩
        rw [Nat.zero_add, List.nil_append] at r1
        have HO2 : Hid (w2.ownsRow (w.heap.size + 1) 34 32 v2 0 (UU (hs.take 0))) := r1
        have HH2 : Hid (w2.rangeAt w.heap.size 0 (U h)) := rangeAt_same HV1.out.2.1 ((r2.block _ (by simp; have := HV1.out.2.2; omega) (fun e => by have := (HE1.out.2.lt _ e.symm).1; omega)).trans (Below.heap_alloc _ _ _ (by have := HV1.out.2.2; omega)))
        obtain ⟨a2, c2, rfl, _, _, _⟩ := own_read r1 (fun y hy => HR.out.1.1.2.1 y (List.mem_of_mem_take hy))
        clear r1 r2 r3
        simp only [Act.put, List.setIfInBounds_toArray, List.set_cons_zero, List.set_cons_succ]
        go_wp2_with (first
          | (with_reducible change wpList _ _ _ ({ dst := some 40, op := _, type := _, pos := _, after := _, guard := _ } :: _) _ _
             refine wpList_load_mid rfl 34 (.tmp 3) rfl w.heap.size 0 rfl (U h) _ HH2.out Try.underlying34 rfl (info34 h HR.out.2.2.1) ?_)
          | (with_reducible change wpList _ _ _ ({ dst := some 41, op := _, type := _, pos := _, after := _, guard := _ } :: _) _ _
             refine wpList_bslice1 rfl (.tmp 40) rfl h HR.out.2.2.1 rfl ?_)
          | (with_reducible change wpList _ _ _ ({ dst := some 42, op := _, type := _, pos := _, after := _, guard := _ } :: _) _ _
             refine Hid.out ?_)
          | fail)
        show wpList _ _ _ _ _ _
        have HB3 : Hid (Below w.heap.size w (w2.alloc (.cells (U h).toArray 34))) := HB2.out.1.alloc HB2.out.1.size _
        refine wpList_app rfl (.tmp 39) (.tmp 41) rfl (w.heap.size + 1) (.slice a2 0 c2) 0 (hs.take 0) (some ⟨w2.heap.size, 0, none⟩) 1 1 [h] rfl rfl (HO2.out.alloc _) (HsR.one w2 h HR.out.2.2.1) (by have := HR.out.2.1; have := HIN.out; omega) (by simp; have := HB2.out.2; omega) ?_
        intro v3 w3 r1 r2 r3
        have HB4 : Hid (Below w.heap.size w w3 ∧ w.heap.size + 1 ≤ w3.heap.size) := ⟨below_row HB3.out r2 (HO2.out.alloc _) (by omega), by have := r2.size; simp at this; have := HB2.out.2; omega⟩
        have HO3 : Hid (w3.ownsRow (w.heap.size + 1) 34 32 v3 (0 + 1) (UU (hs.take 0 ++ [h]))) := r1
        obtain ⟨a3, c3, rfl, _, _, _⟩ := own_read r1 (fun y hy => by
          rcases List.mem_append.1 hy with hy | hy
          · exact HR.out.1.1.2.1 y (List.mem_of_mem_take hy)
          · simp at hy; subst hy; exact HR.out.2.2.1)
        clear r1 r2 r3
        simp only [Act.put, List.setIfInBounds_toArray, List.set_cons_zero, List.set_cons_succ]
        go_wp2_with (first
          | (with_reducible change wpList _ _ _ ({ dst := some 47, op := _, type := _, pos := _, after := _, guard := _ } :: _) _ _
             refine Hid.out ?_)
          | fail)
        show wpList _ _ _ _ _ _
        refine wpList_app rfl (.tmp 43) (.tmp 46) rfl (w.heap.size + 1) (.slice a3 (0 + 1) c3) (0 + 1) (hs.take 0 ++ [h]) _ (0 - 0) (0 - 0) (hs.drop 0) rfl rfl HO3.out ((show HsR w none (0 - 0) (hs.drop 0) from HR.out.1.1).below HB4.out.1) (by have := HR.out.2.1; have := HIN.out; omega) HB4.out.2 ?_
        intro v4 w4 r1 r2 r3
        have HB5 : Hid (Below w.heap.size w w4) := below_row HB4.out.1 r2 HO3.out (by omega)
        obtain ⟨a4, c4, rfl, r4, r5, r6⟩ := own_read r1 (fun y hy => by
          rcases List.mem_append.1 hy with hy | hy
          · rcases List.mem_append.1 hy with hy | hy
            · exact HR.out.1.1.2.1 y (List.mem_of_mem_take hy)
            · simp at hy; subst hy; exact HR.out.2.2.1
          · exact HR.out.1.1.2.1 y (List.mem_of_mem_drop hy))
        have HF : Hid (RiR w4 a4 (0 + 1 + (0 - 0)) c4 (hs.take 0 ++ [h] ++ hs.drop 0) ∧ ∃ g, a4 = some ⟨g, 0, none⟩ ∧ w.heap.size ≤ g) := by
          obtain ⟨g4, off4, e4, _, _⟩ := r4.2.2 (by omega)
          refine ⟨⟨r4, r5, .inr ⟨g4, off4, e4⟩, with_rise HR.out.1.2.2.2 HI.out.2 HLAST.out⟩, ?_⟩
          rcases r6 with r6 | ⟨g6, r6, r7⟩
          · rw [e4] at r6; cases r6
          · exact ⟨g6, r6, by omega⟩
        clear r1 r2 r3 r4 r5 r6
        simp only [Act.put, List.setIfInBounds_toArray, List.set_cons_zero, List.set_cons_succ]
        go_wp2
        go_ret
        exact ⟨a4, 0 + 1 + (0 - 0), c4, _, rfl, ⟨HF.out.1, by have := HIN.out; omega, with_mem⟩, HB5, .inr HF.out.2⟩
      · subst ha
        by_cases hci : c = i
        · obtain rfl := hci.symm
          obtain ⟨V1, hV1⟩ : ∃ V1, V.drew = V1 := ⟨_, rfl⟩
          have HV1 : Hid (Below w.heap.size w V1 ∧ V1.rangeAt w.heap.size 0 (U h) ∧ w.heap.size + 1 ≤ V1.heap.size) := by rw [← hV1]; exact ⟨HV.out.1.drew, HV.out.2.1, HV.out.2.2⟩
          rw [hV1]
          clear hV1
          go_wp2_with (first
            | (with_reducible change wpList _ _ _ ({ dst := some 38, op := _, type := _, pos := _, after := _, guard := _ } :: _) _ _
               refine Hid.out ?_)
            | fail)
          show wpList _ _ _ _ _ _
          have HE1 : Hid (Below w.heap.size w (V1.alloc (.cells #[] 34)) ∧ (V1.alloc (.cells #[] 34)).ownsRow (w.heap.size + 1) 34 32 (.slice (some ⟨V1.heap.size, 0, none⟩) 0 0) 0 (UU [])) := ⟨HV1.out.1.alloc HV1.out.1.size _, own_empty V1 _ HV1.out.2.2⟩
          refine wpList_app rfl (.tmp 34) (.tmp 37) rfl (w.heap.size + 1) _ 0 [] (some ⟨g, off, none⟩) i i (hs.take i) rfl rfl HE1.out.2 ((HR.out.1.1.take HIN.out).below HE1.out.1) (by have := HR.out.2.1; have := HIN.out; omega) (by simp; have := HV1.out.2.2; omega) ?_
          intro v2 w2 r1 r2 r3
          have HB2 : Hid (Below w.heap.size w w2 ∧ w.heap.size + 1 ≤ w2.heap.size) := ⟨below_row HE1.out.1 r2 HE1.out.2 (by omega), by have := r2.size; simp at this; have := HV1.out.2.2; omega⟩
          rw [Nat.zero_add, List.nil_append] at r1
          have HO2 : Hid (w2.ownsRow (w.heap.size + 1) 34 32 v2 i (UU (hs.take i))) := r1
          have HH2 : Hid (w2.rangeAt w.heap.size 0 (U h)) := rangeAt_same HV1.out.2.1 ((r2.block _ (by simp; have := HV1.out.2.2; omega) (fun e => by have := (HE1.out.2.lt _ e.symm).1; omega)).trans (Below.heap_alloc _ _ _ (by have := HV1.out.2.2; omega)))
          obtain ⟨a2, c2, rfl, _, _, _⟩ := own_read r1 (fun y hy => HR.out.1.1.2.1 y (List.mem_of_mem_take hy))
          clear r1 r2 r3
          simp only [Act.put, List.setIfInBounds_toArray, List.set_cons_zero, List.set_cons_succ]
          go_wp2_with (first
            | (with_reducible change wpList _ _ _ ({ dst := some 40, op := _, type := _, pos := _, after := _, guard := _ } :: _) _ _
               refine wpList_load_mid rfl 34 (.tmp 3) rfl w.heap.size 0 rfl (U h) _ HH2.out Try.underlying34 rfl (info34 h HR.out.2.2.1) ?_)
            | (with_reducible change wpList _ _ _ ({ dst := some 41, op := _, type := _, pos := _, after := _, guard := _ } :: _) _ _
               refine wpList_bslice1 rfl (.tmp 40) rfl h HR.out.2.2.1 rfl ?_)
            | (with_reducible change wpList _ _ _ ({ dst := some 42, op := _, type := _, pos := _, after := _, guard := _ } :: _) _ _
               refine Hid.out ?_)
            | fail)
          show wpList _ _ _ _ _ _
          have HB3 : Hid (Below w.heap.size w (w2.alloc (.cells (U h).toArray 34))) := HB2.out.1.alloc HB2.out.1.size _
          refine wpList_app rfl (.tmp 39) (.tmp 41) rfl (w.heap.size + 1) (.slice a2 i c2) i (hs.take i) (some ⟨w2.heap.size, 0, none⟩) 1 1 [h] rfl rfl (HO2.out.alloc _) (HsR.one w2 h HR.out.2.2.1) (by have := HR.out.2.1; have := HIN.out; omega) (by simp; have := HB2.out.2; omega) ?_
          intro v3 w3 r1 r2 r3
          have HB4 : Hid (Below w.heap.size w w3 ∧ w.heap.size + 1 ≤ w3.heap.size) := ⟨below_row HB3.out r2 (HO2.out.alloc _) (by omega), by have := r2.size; simp at this; have := HB2.out.2; omega⟩
          have HO3 : Hid (w3.ownsRow (w.heap.size + 1) 34 32 v3 (i + 1) (UU (hs.take i ++ [h]))) := r1
          obtain ⟨a3, c3, rfl, _, _, _⟩ := own_read r1 (fun y hy => by
            rcases List.mem_append.1 hy with hy | hy
            · exact HR.out.1.1.2.1 y (List.mem_of_mem_take hy)
            · simp at hy; subst hy; exact HR.out.2.2.1)
          clear r1 r2 r3
          simp only [Act.put, List.setIfInBounds_toArray, List.set_cons_zero, List.set_cons_succ]
          go_wp2_with (first
            | (with_reducible change wpList _ _ _ ({ dst := some 47, op := _, type := _, pos := _, after := _, guard := _ } :: _) _ _
               refine Hid.out ?_)
            | fail)
          show wpList _ _ _ _ _ _
          refine wpList_app rfl (.tmp 43) (.tmp 46) rfl (w.heap.size + 1) (.slice a3 (i + 1) c3) (i + 1) (hs.take i ++ [h]) _ 0 0 (hs.drop i) rfl rfl HO3.out (HsR.below (show HsR w (some ⟨g, off, none⟩) 0 (hs.drop i) by have := HR.out.1.1.drop HIN.out HR.out.1.2.1; rw [if_pos rfl, Nat.sub_self] at this; exact this) HB4.out.1) (by have := HR.out.2.1; have := HIN.out; omega) HB4.out.2 ?_
          intro v4 w4 r1 r2 r3
          have HB5 : Hid (Below w.heap.size w w4) := below_row HB4.out.1 r2 HO3.out (by omega)
          obtain ⟨a4, c4, rfl, r4, r5, r6⟩ := own_read r1 (fun y hy => by
            rcases List.mem_append.1 hy with hy | hy
            · rcases List.mem_append.1 hy with hy | hy
              · exact HR.out.1.1.2.1 y (List.mem_of_mem_take hy)
              · simp at hy; subst hy; exact HR.out.2.2.1
            · exact HR.out.1.1.2.1 y (List.mem_of_mem_drop hy))
          have HF : Hid (RiR w4 a4 (i + 1 + 0) c4 (hs.take i ++ [h] ++ hs.drop i) ∧ ∃ g, a4 = some ⟨g, 0, none⟩ ∧ w.heap.size ≤ g) := by
            obtain ⟨g4, off4, e4, _, _⟩ := r4.2.2 (by omega)
            refine ⟨⟨r4, r5, .inr ⟨g4, off4, e4⟩, with_rise HR.out.1.2.2.2 HI.out.2 HLAST.out⟩, ?_⟩
            rcases r6 with r6 | ⟨g6, r6, r7⟩
            · rw [e4] at r6; cases r6
            · exact ⟨g6, r6, by omega⟩
          clear r1 r2 r3 r4 r5 r6
          simp only [Act.put, List.setIfInBounds_toArray, List.set_cons_zero, List.set_cons_succ]
          go_wp2
          go_ret
          exact ⟨a4, i + 1 + 0, c4, _, rfl, ⟨HF.out.1, by have := HIN.out; omega, with_mem⟩, HB5, .inr HF.out.2⟩
        · have HCI : Hid (¬ c = i) := hci
          obtain ⟨V1, hV1⟩ : ∃ V1, V.drew = V1 := ⟨_, rfl⟩
          have HV1 : Hid (Below w.heap.size w V1 ∧ V1.rangeAt w.heap.size 0 (U h) ∧ w.heap.size + 1 ≤ V1.heap.size) := by rw [← hV1]; exact ⟨HV.out.1.drew, HV.out.2.1, HV.out.2.2⟩
          rw [hV1]
          clear hV1
          go_wp2_with (first
            | (with_reducible change wpList _ _ _ ({ dst := some 38, op := _, type := _, pos := _, after := _, guard := _ } :: _) _ _
               refine Hid.out ?_)
            | fail)
          show wpList _ _ _ _ _ _
          have HE1 : Hid (Below w.heap.size w (V1.alloc (.cells #[] 34)) ∧ (V1.alloc (.cells #[] 34)).ownsRow (w.heap.size + 1) 34 32 (.slice (some ⟨V1.heap.size, 0, none⟩) 0 0) 0 (UU [])) := ⟨HV1.out.1.alloc HV1.out.1.size _, own_empty V1 _ HV1.out.2.2⟩
          refine wpList_app rfl (.tmp 34) (.tmp 37) rfl (w.heap.size + 1) _ 0 [] (some ⟨g, off, none⟩) i c (hs.take i) rfl rfl HE1.out.2 ((HR.out.1.1.take HIN.out).below HE1.out.1) (by have := HR.out.2.1; have := HIN.out; omega) (by simp; have := HV1.out.2.2; omega) ?_
          intro v2 w2 r1 r2 r3
          have HB2 : Hid (Below w.heap.size w w2 ∧ w.heap.size + 1 ≤ w2.heap.size) := ⟨below_row HE1.out.1 r2 HE1.out.2 (by omega), by have := r2.size; simp at this; have := HV1.out.2.2; omega⟩
          rw [Nat.zero_add, List.nil_append] at r1
          have HO2 : Hid (w2.ownsRow (w.heap.size + 1) 34 32 v2 i (UU (hs.take i))) := r1
          have HH2 : Hid (w2.rangeAt w.heap.size 0 (U h)) := rangeAt_same HV1.out.2.1 ((r2.block _ (by simp; have := HV1.out.2.2; omega) (fun e => by have := (HE1.out.2.lt _ e.symm).1; omega)).trans (Below.heap_alloc _ _ _ (by have := HV1.out.2.2; omega)))
          obtain ⟨a2, c2, rfl, _, _, _⟩ := own_read r1 (fun y hy => HR.out.1.1.2.1 y (List.mem_of_mem_take hy))
          clear r1 r2 r3
          simp only [Act.put, List.setIfInBounds_toArray, List.set_cons_zero, List.set_cons_succ]
          go_wp2_with (first
            | (with_reducible change wpList _ _ _ ({ dst := some 40, op := _, type := _, pos := _, after := _, guard := _ } :: _) _ _
               refine wpList_load_mid rfl 34 (.tmp 3) rfl w.heap.size 0 rfl (U h) _ HH2.out Try.underlying34 rfl (info34 h HR.out.2.2.1) ?_)
            | (with_reducible change wpList _ _ _ ({ dst := some 41, op := _, type := _, pos := _, after := _, guard := _ } :: _) _ _
               refine wpList_bslice1 rfl (.tmp 40) rfl h HR.out.2.2.1 rfl ?_)
            | (with_reducible change wpList _ _ _ ({ dst := some 42, op := _, type := _, pos := _, after := _, guard := _ } :: _) _ _
               refine Hid.out ?_)
            | fail)
          show wpList _ _ _ _ _ _
          have HB3 : Hid (Below w.heap.size w (w2.alloc (.cells (U h).toArray 34))) := HB2.out.1.alloc HB2.out.1.size _
          refine wpList_app rfl (.tmp 39) (.tmp 41) rfl (w.heap.size + 1) (.slice a2 i c2) i (hs.take i) (some ⟨w2.heap.size, 0, none⟩) 1 1 [h] rfl rfl (HO2.out.alloc _) (HsR.one w2 h HR.out.2.2.1) (by have := HR.out.2.1; have := HIN.out; omega) (by simp; have := HB2.out.2; omega) ?_
          intro v3 w3 r1 r2 r3
          have HB4 : Hid (Below w.heap.size w w3 ∧ w.heap.size + 1 ≤ w3.heap.size) := ⟨below_row HB3.out r2 (HO2.out.alloc _) (by omega), by have := r2.size; simp at this; have := HB2.out.2; omega⟩
          have HO3 : Hid (w3.ownsRow (w.heap.size + 1) 34 32 v3 (i + 1) (UU (hs.take i ++ [h]))) := r1
          obtain ⟨a3, c3, rfl, _, _, _⟩ := own_read r1 (fun y hy => by
            rcases List.mem_append.1 hy with hy | hy
            · exact HR.out.1.1.2.1 y (List.mem_of_mem_take hy)
            · simp at hy; subst hy; exact HR.out.2.2.1)
          clear r1 r2 r3
          simp only [Act.put, List.setIfInBounds_toArray, List.set_cons_zero, List.set_cons_succ]
          go_wp2_with (first
            | (with_reducible change wpList _ _ _ ({ dst := some 47, op := _, type := _, pos := _, after := _, guard := _ } :: _) _ _
               refine Hid.out ?_)
            | fail)
          show wpList _ _ _ _ _ _
          refine wpList_app rfl (.tmp 43) (.tmp 46) rfl (w.heap.size + 1) (.slice a3 (i + 1) c3) (i + 1) (hs.take i ++ [h]) _ 0 (c - i) (hs.drop i) rfl rfl HO3.out (HsR.below (show HsR w (some ⟨g, off + i * 32, none⟩) 0 (hs.drop i) by have := HR.out.1.1.drop HIN.out HR.out.1.2.1; rw [if_neg HCI.out, Nat.sub_self] at this; exact this) HB4.out.1) (by have := HR.out.2.1; have := HIN.out; omega) HB4.out.2 ?_
          intro v4 w4 r1 r2 r3
          have HB5 : Hid (Below w.heap.size w w4) := below_row HB4.out.1 r2 HO3.out (by omega)
          obtain ⟨a4, c4, rfl, r4, r5, r6⟩ := own_read r1 (fun y hy => by
            rcases List.mem_append.1 hy with hy | hy
            · rcases List.mem_append.1 hy with hy | hy
              · exact HR.out.1.1.2.1 y (List.mem_of_mem_take hy)
              · simp at hy; subst hy; exact HR.out.2.2.1
            · exact HR.out.1.1.2.1 y (List.mem_of_mem_drop hy))
          have HF : Hid (RiR w4 a4 (i + 1 + 0) c4 (hs.take i ++ [h] ++ hs.drop i) ∧ ∃ g, a4 = some ⟨g, 0, none⟩ ∧ w.heap.size ≤ g) := by
            obtain ⟨g4, off4, e4, _, _⟩ := r4.2.2 (by omega)
            refine ⟨⟨r4, r5, .inr ⟨g4, off4, e4⟩, with_rise HR.out.1.2.2.2 HI.out.2 HLAST.out⟩, ?_⟩
            rcases r6 with r6 | ⟨g6, r6, r7⟩
            · rw [e4] at r6; cases r6
            · exact ⟨g6, r6, by omega⟩
          clear r1 r2 r3 r4 r5 r6
          simp only [Act.put, List.setIfInBounds_toArray, List.set_cons_zero, List.set_cons_succ]
          go_wp2
          go_ret
          exact ⟨a4, i + 1 + 0, c4, _, rfl, ⟨HF.out.1, by have := HIN.out; omega, with_mem⟩, HB5, .inr HF.out.2⟩
end Go.Proofs.Ytijkpkcopjkhkaa.Oct

/- Layer 12 (deps): Missing. -/
namespace Go.Proofs.Ytijkpkcopjkhkaa.Oct
open Go.RowKit

/-- what a list of hashes adds to those that are missing -/
def missD (ns ks ds : List Hs) : List Hs := ds.foldl (fun ks d => if d ∈ ns then ks else addK ks d) ks
def missK (ns : List Hs) (l : List It) : List Hs := l.foldl (fun ks x => missD ns ks x.deps) []
theorem missK_take (ns : List Hs) (l : List It) (i : Nat) (x : It) (h : l[i]? = some x) : missK ns (l.take (i + 1)) = missD ns (missK ns (l.take i)) x.deps := by
  unfold missK
  rw [List.take_add_one, h, List.foldl_append]; rfl
theorem missD_take (ns ks ds : List Hs) (j : Nat) (d : Hs) (h : ds[j]? = some d) : missD ns ks (ds.take (j + 1)) = if d ∈ ns then missD ns ks (ds.take j) else addK (missD ns ks (ds.take j)) d := by
  unfold missD
  rw [List.take_add_one, h, List.foldl_append]; rfl
theorem mem_missD {ns : List Hs} {x : Hs} : ∀ (ds ks : List Hs), x ∈ missD ns ks ds ↔ x ∈ ks ∨ (x ∈ ds ∧ x ∉ ns)
  | [], ks => by simp [missD]
  | d :: ds, ks => by
    have ih := mem_missD (ns := ns) (x := x) ds (if d ∈ ns then ks else addK ks d)
    show x ∈ missD ns (if d ∈ ns then ks else addK ks d) ds ↔ _
    rw [ih]
    by_cases hd : d ∈ ns
    · simp only [if_pos hd, List.mem_cons]
      constructor
      · rintro (h | ⟨h1, h2⟩)
        · exact .inl h
        · exact .inr ⟨.inr h1, h2⟩
      · rintro (h | ⟨h1 | h1, h2⟩)
        · exact .inl h
        · rw [h1] at h2; exact absurd hd h2
        · exact .inr ⟨h1, h2⟩
    · simp only [if_neg hd, mem_addK, List.mem_cons]
      constructor
      · rintro ((h | h) | ⟨h1, h2⟩)
        · exact .inl h
        · exact .inr ⟨.inl h, by rw [h]; exact hd⟩
        · exact .inr ⟨.inr h1, h2⟩
      · rintro (h | ⟨h1 | h1, h2⟩)
        · exact .inl (.inl h)
        · exact .inl (.inr h1)
        · exact .inr ⟨h1, h2⟩
theorem mem_missK {ns : List Hs} {x : Hs} (l : List It) : x ∈ missK ns l ↔ (∃ it ∈ l, x ∈ it.deps) ∧ x ∉ ns := by
  have key : ∀ (l : List It) (ks : List Hs), x ∈ l.foldl (fun ks x => missD ns ks x.deps) ks ↔ x ∈ ks ∨ ((∃ it ∈ l, x ∈ it.deps) ∧ x ∉ ns) := by
    intro l
    induction l with
    | nil => intro ks; simp
    | cons it l ih =>
      intro ks
      rw [List.foldl_cons, ih, mem_missD]
      constructor
      · rintro ((h | ⟨h1, h2⟩) | ⟨⟨y, hy, h1⟩, h2⟩)
        · exact .inl h
        · exact .inr ⟨⟨it, by simp, h1⟩, h2⟩
        · exact .inr ⟨⟨y, by simp [hy], h1⟩, h2⟩
      · rintro (h | ⟨⟨y, hy, h1⟩, h2⟩)
        · exact .inl (.inl h)
        · rcases List.mem_cons.1 hy with rfl | hy
          · exact .inl (.inr ⟨h1, h2⟩)
          · exact .inr ⟨⟨y, hy, h1⟩, h2⟩
  have := key l []
  simpa [missK] using this
theorem mem_namesK {x : Hs} (l : List It) : x ∈ namesK l ↔ x ∈ l.map (·.name) := by
  have key : ∀ (l : List It) (ks : List Hs), x ∈ l.foldl (fun ks x => addK ks x.name) ks ↔ x ∈ ks ∨ x ∈ l.map (·.name) := by
    intro l
    induction l with
    | nil => intro ks; simp
    | cons it l ih =>
      intro ks
      rw [List.foldl_cons, ih, mem_addK]
      simp only [List.map_cons, List.mem_cons]
      constructor
      · rintro ((h | h) | h)
        · exact .inl h
        · exact .inr (.inl h)
        · exact .inr (.inr h)
      · rintro (h | h | h)
        · exact .inl (.inl h)
        · exact .inl (.inr h)
        · exact .inr h
  have := key l []
  simpa [namesK] using this
/-- all that items need -/
def allD (l : List It) : List Hs := l.flatMap (·.deps)
theorem allD_len (l : List It) : (allD l).length = many l := by
  unfold allD many
  rw [List.length_flatMap]
def missing (l : List It) (x : Hs) : Prop := (∃ it ∈ l, x ∈ it.deps) ∧ x ∉ l.map (·.name)

set_option maxRecDepth 100000 in
set_option maxHeartbeats 4000000 in
theorem missing_is (w : World) (a : Option Addr) (len cap : Nat) (l : List It) (hi : Its w a len l) (hn : len ≤ 100000) (hm : many l ≤ 90000) :
    Calls Try.prog 18 #[.slice a len cap] w (SetP w fun x => len ≤ 256 ∧ missing l x) := by
  have HA : Hid (Its w a len l ∧ len ≤ 100000 ∧ many l ≤ 90000) := ⟨hi, hn, hm⟩
  have q5 : (len : Int) ≤ 100000 := by omega
  clear hi hn hm
  by_cases h256 : 256 < len
  · have hd : decide (256 < len) = true := by simpa using h256
    have HN : Hid (¬ len ≤ 256) := by show ¬ _; omega
    have H23 := isLong_is w a len cap
    rw [hd] at H23
    have H23' : Hid (Calls Try.prog 23 #[.slice a len cap] w fun e w' => e = .returned (.bool true) ∧ w = w') := H23
    clear H23 h256 hd
    go_enter Try.func18, Try.ntmps18
    go_wp2_with fail
    refine H23'.out.mono ?_
    rintro e w' ⟨rfl, rfl⟩
    go_wp2
    go_ret
    exact SetP.nil w (fun x hx => HN.out hx.1) (Below.refl _ _)
  · have hd : decide (256 < len) = false := by simpa using h256
    have HN : Hid (len ≤ 256) := by show _ ≤ _; omega
    have H23 := isLong_is w a len cap
    rw [hd] at H23
    have H23' : Hid (Calls Try.prog 23 #[.slice a len cap] w fun e w' => e = .returned (.bool false) ∧ w = w') := H23
    obtain ⟨Z, hZl, hZ⟩ := zero36
    obtain ⟨Y, hYl, hY⟩ := zero34
    have HZ : Hid (Z.length = 33 ∧ Y.length = 32) := ⟨hZl, hYl⟩
    have hz52 := zero52
    have hmk := run_make43
    clear H23 h256 hd hZl hYl
    go_enter Try.func18, Try.ntmps18
    go_wp2_with fail
    refine H23'.out.mono ?_
    rintro e w' ⟨rfl, rfl⟩
    go_wp2_with (go_at_call 24; refine (namesOf_is w a len cap l HA.out.1 HA.out.2.1).mono ?_; rintro e w1 ⟨b1, rfl, H1, HB1⟩)
    clear hmk
    obtain ⟨b2, hb2⟩ : ∃ b2, w1.heap.size = b2 := ⟨_, rfl⟩
    obtain ⟨W, hW⟩ : ∃ W, w1.alloc (.map #[] 0) = W := ⟨_, rfl⟩
    obtain ⟨ns, hns⟩ : ∃ ns, namesK l = ns := ⟨_, rfl⟩
    have H0 : Hid (Below w.heap.size w W ∧ SM W b1 ns ∧ SM W b2 [] ∧ b1 < b2 ∧ w.heap.size ≤ b1) := ⟨by rw [← hW]; exact HB1.out.alloc HB1.out.size _, by rw [← hW, ← hns]; exact H1.out.1.alloc _, by rw [← hW, ← hb2]; exact SM.made w1, by rw [← hb2]; exact H1.out.1.lt, H1.out.2⟩
    have HNS : Hid (namesK l = ns) := hns
    rw [hb2, hW]
    clear hb2 hW H1 HB1 hns
    go_loopw [18] (fun u wr => ∃ i : Nat, u = .int .i64 (i : Int) ∧ Hid (i ≤ len ∧ Below w.heap.size w wr ∧ SM wr b1 ns ∧ SM wr b2 (missK ns (l.take i)))) (fun u _ => len - (intOf u).toNat)
    case atStart => exact ⟨0, rfl, ⟨Nat.zero_le _, H0.out.1, H0.out.2.1, H0.out.2.2.1⟩⟩
    case round =>
      obtain ⟨i, rfl, HB⟩ := hrel
      by_cases hi : i < len
      · obtain ⟨x, hx⟩ : ∃ x, l[i]? = some x := ⟨_, List.getElem?_eq_getElem (by rw [HA.out.1.1]; exact hi)⟩
        obtain ⟨b, off, rfl, hb, hel⟩ := HA.out.1.2 (by omega)
        have HX : Hid (i < len ∧ l[i]? = some x ∧ x.name.length = 32) := ⟨hi, hx, (hel i x hx).1⟩
        have HRA : Hid (wr.rangeAt b (off + i * 33) x.cells) := rangeAt_same (hel i x hx).2.1 (HB.out.2.1.block b hb)
        have HDW : Hid (HsR w x.a x.n x.deps) := (hel i x hx).2.2.1
        have HXN : Hid (x.n ≤ 100000) := by show _ ≤ _; have h1 := dep_le l i x hx; have h2 := HDW.out.1; have h3 := HA.out.2.2; omega
        have q1 : (i : Int) < (len : Int) := by omega
        have hdp := cells_dep wr x (hel i x hx).1
        clear hel hx hi
        go_wp2_with (first
          | (with_reducible change wpList _ _ _ ({ dst := some 21, op := _, type := _, pos := _, after := _, guard := _ } :: _) _ _
             refine wpList_load_mid rfl 36 (.tmp 20) rfl b (off + i * 33) rfl x.cells _ HRA.out Try.underlying36 rfl (info36 x HX.out.2.2) ?_)
          | (with_reducible change wpList _ _ _ ({ dst := none, op := Op.store 36 _ _, type := _, pos := _, after := _, guard := _ } :: _) _ _
             refine wpList_store_fresh rfl 36 (.tmp 6) (.tmp 21) rfl Z x.cells 36 rfl rfl (by rw [x.cells_length HX.out.2.2, HZ.out.1]) (info36 x HX.out.2.2) (cells_one x) ?_)
          | fail)
        obtain ⟨V, hV⟩ : ∃ V, wr.alloc (.cells x.cells.toArray 36) = V := ⟨_, rfl⟩
        have hbV : Below wr.heap.size wr V := by rw [← hV]; exact (Below.refl _ wr).alloc (Nat.le_refl _) _
        have HV : Hid (Below w.heap.size w V ∧ SM V b1 ns ∧ SM V b2 (missK ns (l.take i))) := ⟨HB.out.2.1.trans (hbV.mono HB.out.2.1.size), HB.out.2.2.1.below hbV HB.out.2.2.1.lt, HB.out.2.2.2.below hbV HB.out.2.2.2.lt⟩
        rw [hV]
        clear hV hbV hdp HRA
        obtain ⟨W1, hW1⟩ : ∃ W1, W1 = wr := ⟨_, rfl⟩
        subst hW1
        have q2 : (x.n : Int) ≤ 100000 := by have := HXN.out; omega
        go_loopw [25] (fun u wr => ∃ j : Nat, u = .int .i64 (j : Int) ∧ Hid (j ≤ x.n ∧ Below w.heap.size w wr ∧ SM wr b1 ns ∧ SM wr b2 (missD ns (missK ns (l.take i)) (x.deps.take j)))) (fun u _ => x.n - (intOf u).toNat)
        case atStart => exact ⟨0, rfl, ⟨Nat.zero_le _, HV.out.1, HV.out.2.1, HV.out.2.2⟩⟩
        case round =>
          obtain ⟨j, rfl, HJ⟩ := hrel
          by_cases hj : j < x.n
          · obtain ⟨d, hd⟩ : ∃ d, x.deps[j]? = some d := ⟨_, List.getElem?_eq_getElem (by rw [HDW.out.1]; exact hj)⟩
            obtain ⟨g2, off2, hxa, hg2, hel2⟩ := HDW.out.2.2 (by omega)
            have HD : Hid (j < x.n ∧ x.deps[j]? = some d ∧ d.length = 32 ∧ wr.rangeAt g2 (off2 + j * 32) (U d)) := ⟨hj, hd, HDW.out.2.1 d (List.mem_of_getElem? hd), rangeAt_same (hel2 j d hd) (HJ.out.2.1.block g2 hg2)⟩
            have q3 : (j : Int) < (x.n : Int) := by omega
            clear hj hd hel2
            rw [hxa]
            have HB6 : Hid (Below wr.heap.size wr (wr.alloc (.cells (U d).toArray 34))) := (Below.refl _ wr).alloc (Nat.le_refl _) _
            have HS6 : Hid (SM (wr.alloc (.cells (U d).toArray 34)) b1 ns) := HJ.out.2.2.1.alloc _
            have hb7 : Below wr.heap.size wr ((wr.alloc (.cells (U d).toArray 34)).alloc (.cells #[] 52)) := HB6.out.alloc (by simp) _
            have H7 : Hid (Below wr.heap.size wr ((wr.alloc (.cells (U d).toArray 34)).alloc (.cells #[] 52)) ∧ SM ((wr.alloc (.cells (U d).toArray 34)).alloc (.cells #[] 52)) b2 (missD ns (missK ns (l.take i)) (x.deps.take j)) ∧ ((wr.alloc (.cells (U d).toArray 34)).alloc (.cells #[] 52)).rangeAt wr.heap.size 0 (U d)) := ⟨hb7, (HJ.out.2.2.2.alloc _).alloc _, rangeAt_same (new34 wr d) (Below.heap_alloc _ _ _ (by simp))⟩
            clear hb7
            cases hdm : decide (d ∈ ns) with
            | true =>
              have HDM : Hid (decide (d ∈ ns) = true) := hdm
              clear hdm
              go_wp2_with (first
                | (with_reducible change wpList _ _ _ ({ dst := some 28, op := _, type := _, pos := _, after := _, guard := _ } :: _) _ _
                   refine wpList_load_mid rfl 34 (.tmp 27) rfl g2 (off2 + j * 32) rfl (U d) _ HD.out.2.2.2 Try.underlying34 rfl (info34 d HD.out.2.2.1) ?_)
                | (with_reducible change wpList _ _ _ ({ dst := none, op := Op.store 34 _ _, type := _, pos := _, after := _, guard := _ } :: _) _ _
                   refine wpList_store_fresh rfl 34 (.tmp 8) (.tmp 28) rfl Y (U d) 34 rfl rfl (by rw [U_length, HD.out.2.2.1, HZ.out.2]) (info34 d HD.out.2.2.1) (U_one d) ?_)
                | (with_reducible change wpList _ _ _ ({ dst := some 31, op := _, type := _, pos := _, after := _, guard := _ } :: _) _ _
                   refine wpList_load_mid rfl 34 (.tmp 8) rfl wr.heap.size 0 rfl (U d) _ (new34 wr d) Try.underlying34 rfl (info34 d HD.out.2.2.1) ?_)
                | (with_reducible change wpList _ _ _ ({ dst := some 32, op := _, type := _, pos := _, after := _, guard := _ } :: _) _ _
                   refine wpList_slook rfl (.tmp 30) (.tmp 31) rfl b1 ns d rfl rfl HS6.out HD.out.2.2.1 ?_
                   rw [HDM.out])
                | fail)
              refine ⟨⟨j + 1, by simp, ⟨HD.out.1, HJ.out.2.1.trans (H7.out.1.mono HJ.out.2.1.size), HS6.out.alloc _, ?_⟩⟩, ?_⟩
              · rw [missD_take ns _ _ j d HD.out.2.1, if_pos (by simpa using HDM.out)]
                exact H7.out.2.1
              · have := HD.out.1; simp [intOf]; omega
            | false =>
              have HDM : Hid (decide (d ∈ ns) = false) := hdm
              clear hdm
              go_wp2_with (first
                | (with_reducible change wpList _ _ _ ({ dst := some 28, op := _, type := _, pos := _, after := _, guard := _ } :: _) _ _
                   refine wpList_load_mid rfl 34 (.tmp 27) rfl g2 (off2 + j * 32) rfl (U d) _ HD.out.2.2.2 Try.underlying34 rfl (info34 d HD.out.2.2.1) ?_)
                | (with_reducible change wpList _ _ _ ({ dst := none, op := Op.store 34 _ _, type := _, pos := _, after := _, guard := _ } :: _) _ _
                   refine wpList_store_fresh rfl 34 (.tmp 8) (.tmp 28) rfl Y (U d) 34 rfl rfl (by rw [U_length, HD.out.2.2.1, HZ.out.2]) (info34 d HD.out.2.2.1) (U_one d) ?_)
                | (with_reducible change wpList _ _ _ ({ dst := some 31, op := _, type := _, pos := _, after := _, guard := _ } :: _) _ _
                   refine wpList_load_mid rfl 34 (.tmp 8) rfl wr.heap.size 0 rfl (U d) _ (new34 wr d) Try.underlying34 rfl (info34 d HD.out.2.2.1) ?_)
                | (with_reducible change wpList _ _ _ ({ dst := some 32, op := _, type := _, pos := _, after := _, guard := _ } :: _) _ _
                   refine wpList_slook rfl (.tmp 30) (.tmp 31) rfl b1 ns d rfl rfl HS6.out HD.out.2.2.1 ?_
                   rw [HDM.out])
                | (with_reducible change wpList _ _ _ ({ dst := some 38, op := _, type := _, pos := _, after := _, guard := _ } :: _) _ _
                   refine wpList_load_mid rfl 34 (.tmp 8) rfl wr.heap.size 0 rfl (U d) _ H7.out.2.2 Try.underlying34 rfl (info34 d HD.out.2.2.1) ?_)
                | (with_reducible change wpList _ _ _ ({ dst := none, op := Op.mapUpdate 43 _ _ _, type := _, pos := _, after := _, guard := _ } :: _) _ _
                   refine Hid.out ?_)
                | fail)
              show wpList _ _ _ _ _ _
              refine wpList_sput rfl (.tmp 37) (.tmp 38) (.tmp 39) rfl b2 _ d rfl rfl rfl H7.out.2.1 HD.out.2.2.1 ?_
              intro w6 r1 r2 r3
              go_wp2
              refine ⟨⟨j + 1, by simp, ⟨HD.out.1, below_grownBy (HJ.out.2.1.trans (H7.out.1.mono HJ.out.2.1.size)) r2 (by have := H0.out; omega) (Nat.le_refl _), (HS6.out.alloc _).kept r2 (by have := H0.out; simp; omega), ?_⟩⟩, ?_⟩
              · rw [missD_take ns _ _ j d HD.out.2.1, if_neg (by simpa using HDM.out)]
                exact r1
              · have := HD.out.1; simp [intOf]; omega
          · have q3 : ¬ (j : Int) < (x.n : Int) := by omega
            go_wp2
            refine ⟨⟨i + 1, by simp, ⟨HX.out.1, HJ.out.2.1, HJ.out.2.2.1, ?_⟩⟩, ?_⟩
            · have := HJ.out.2.2.2
              rw [List.take_of_length_le (l := x.deps) (by rw [HDW.out.1]; omega)] at this
              rw [missK_take ns l i x HX.out.2.1]; exact this
            · have := HX.out.1; simp [intOf]; omega
      · have q1 : ¬ (i : Int) < (len : Int) := by omega
        have HK : Hid (SM wr b2 (missK ns l)) := by
          show SM _ _ _
          have := HB.out.2.2.2
          rw [List.take_of_length_le (by rw [HA.out.1.1]; omega)] at this
          exact this
        have HKL : Hid ((missK ns l).length ≤ 90000) := by
          show _ ≤ _
          have h1 := nodup_le (missK ns l) (allD l) HK.out.nodup.1 (fun x hx => by
            obtain ⟨⟨it, h1, h2⟩, _⟩ := (mem_missK l).1 hx
            exact List.mem_flatMap.2 ⟨it, h1, h2⟩)
          rw [allD_len] at h1
          have := HA.out.2.2
          omega
        go_wp2_with (go_at_call 33; refine (rising_is wr b2 (missK ns l) HK.out (by have := HKL.out; omega)).mono ?_; rintro e w5 ⟨a5, n5, c5, rs, rfl, H5, HB5⟩)
        go_ret
        refine ⟨a5, n5, c5, rs, rfl, ⟨H5.out.1, ?_, H5.out.2.2.1, fun x => ?_⟩, HB.out.2.1.trans (HB5.out.mono HB.out.2.1.size)⟩
        · have h1 := nodup_le rs (missK ns l) (rise_nodup H5.out.2.2.1) (fun x hx => (H5.out.2.2.2 x).1 hx)
          rw [H5.out.1.1] at h1
          have := HKL.out
          omega
        · rw [H5.out.2.2.2, mem_missK, ← HNS.out, mem_namesK]
          exact ⟨fun h => ⟨HN.out, h⟩, fun h => h.2⟩
end Go.Proofs.Ytijkpkcopjkhkaa.Oct

/- Layer 12 (deps): Closed. -/
namespace Go.Proofs.Ytijkpkcopjkhkaa.Oct
open Go.RowKit

theorem namesK_len (l : List It) : (namesK l).length = l.length ↔ (l.map (·.name)).Nodup := by
  have key : ∀ (l : List It) (ks : List Hs), ks.Nodup → ((l.foldl (fun ks x => addK ks x.name) ks).length ≤ ks.length + l.length ∧ ((l.foldl (fun ks x => addK ks x.name) ks).length = ks.length + l.length ↔ (ks ++ l.map (·.name)).Nodup)) := by
    intro l
    induction l with
    | nil => intro ks h; simp [h]
    | cons it l ih =>
      intro ks h
      have ih2 := ih (addK ks it.name) (addK_nodup h)
      rw [List.foldl_cons]
      by_cases hc : it.name ∈ ks
      · have e : addK ks it.name = ks := by unfold addK; rw [if_pos hc]
        rw [e] at ih2 ⊢
        refine ⟨by simp; omega, ⟨fun hl => by simp at hl; omega, fun hn => ?_⟩⟩
        rw [List.nodup_append] at hn
        exact absurd rfl (hn.2.2 it.name hc it.name (by simp))
      · have e : addK ks it.name = ks ++ [it.name] := by unfold addK; rw [if_neg hc]
        rw [e] at ih2 ⊢
        simp only [List.length_append, List.length_cons, List.length_nil, List.map_cons] at ih2 ⊢
        refine ⟨by omega, ?_⟩
        rw [show ks ++ it.name :: l.map (·.name) = ks ++ [it.name] ++ l.map (·.name) by simp, ← ih2.2]
        constructor <;> intro h <;> omega
  have := (key l [] List.nodup_nil).2
  simpa [namesK] using this
theorem namesK_le (l : List It) : (namesK l).length ≤ l.length := by
  have key : ∀ (l : List It) (ks : List Hs), (l.foldl (fun ks x => addK ks x.name) ks).length ≤ ks.length + l.length := by
    intro l
    induction l with
    | nil => intro ks; simp
    | cons it l ih =>
      intro ks
      have := ih (addK ks it.name)
      have h2 : (addK ks it.name).length ≤ ks.length + 1 := by unfold addK; split <;> simp
      rw [List.foldl_cons]
      simp; omega
  simpa [namesK] using key l []
def ClosedL (len : Nat) (l : List It) : Prop := len ≤ 256 ∧ (l.map (·.name)).Nodup ∧ ∀ x, ¬ missing l x
def ClosedP (w : World) (len : Nat) (l : List It) (e : Ending) (w' : World) : Prop := ∃ b : Bool, e = .returned (.bool b) ∧ Hid (b = true ↔ ClosedL len l) ∧ Hid (Below w.heap.size w w')

set_option maxRecDepth 100000 in
set_option maxHeartbeats 2000000 in
theorem closed_is (w : World) (a : Option Addr) (len cap : Nat) (l : List It) (hi : Its w a len l) (hn : len ≤ 100000) (hm : many l ≤ 90000) :
    Calls Try.prog 20 #[.slice a len cap] w (ClosedP w len l) := by
  have HA : Hid (Its w a len l ∧ len ≤ 100000 ∧ many l ≤ 90000) := ⟨hi, hn, hm⟩
  have q5 : (len : Int) ≤ 100000 := by omega
  clear hi hn hm
  by_cases h256 : 256 < len
  · have hd : decide (256 < len) = true := by simpa using h256
    have HN : Hid (¬ len ≤ 256) := by show ¬ _; omega
    have H23 := isLong_is w a len cap
    rw [hd] at H23
    have H23' : Hid (Calls Try.prog 23 #[.slice a len cap] w fun e w' => e = .returned (.bool true) ∧ w = w') := H23
    clear H23 h256 hd
    go_enter Try.func20, Try.ntmps20
    go_wp2_with fail
    refine H23'.out.mono ?_
    rintro e w' ⟨rfl, rfl⟩
    go_wp2
    go_ret
    exact ⟨false, rfl, ⟨(fun h => by cases h), fun h => absurd h.1 HN.out⟩, Below.refl _ _⟩
  · have hd : decide (256 < len) = false := by simpa using h256
    have HN : Hid (len ≤ 256) := by show _ ≤ _; omega
    have H23 := isLong_is w a len cap
    rw [hd] at H23
    have H23' : Hid (Calls Try.prog 23 #[.slice a len cap] w fun e w' => e = .returned (.bool false) ∧ w = w') := H23
    have HM18 : Hid (∀ W, Below w.heap.size w W → Calls Try.prog 18 #[.slice a len cap] W (SetP W fun x => len ≤ 256 ∧ missing l x)) := fun W hW => missing_is W a len cap l (HA.out.1.below hW) HA.out.2.1 HA.out.2.2
    clear H23 h256 hd
    go_enter Try.func20, Try.ntmps20
    go_wp2_with fail
    refine H23'.out.mono ?_
    rintro e w' ⟨rfl, rfl⟩
    obtain ⟨N, hN⟩ : ∃ N, (namesK l).length = N := ⟨_, rfl⟩
    have HNN : Hid ((namesK l).length = N ∧ N ≤ len) := ⟨hN, by rw [← hN, ← HA.out.1.1]; exact namesK_le l⟩
    have H24 : Hid (Calls Try.prog 24 #[.slice a len cap] w (NamesP w (namesK l))) := namesOf_is w a len cap l HA.out.1 HA.out.2.1
    clear hN
    by_cases hc : N = len
    · have hc1 : ((N : Int) == (len : Int)) = true := by simp; omega
      have HC : Hid (N = len) := hc
      clear hc
      go_wp2_with (go_at_call 24; (with_reducible refine Calls.mono H24.out ?_); rintro e w1 ⟨b1, rfl, H1, HB1⟩; have hlen := H1.out.1.len 3; rw [HNN.out.1] at hlen)
      refine (HM18.out w1 HB1.out).mono ?_
      rintro e w2 ⟨a2, n2, c2, rs, rfl, H2, HB2⟩
      have HNO : Hid ((l.map (·.name)).Nodup) := (namesK_len l).1 (by rw [HNN.out.1, HC.out, HA.out.1.1])
      clear hlen hc1
      by_cases h0 : n2 = 0
      · subst h0
        go_wp2
        go_ret
        refine ⟨true, rfl, ⟨fun _ => ⟨HN.out, HNO.out, fun x hx => ?_⟩, fun _ => rfl⟩, HB1.out.trans (HB2.out.mono HB1.out.size)⟩
        have h1 := (H2.out.2.2.2 x).2 ⟨HN.out, hx⟩
        rw [List.eq_nil_of_length_eq_zero H2.out.1.1] at h1
        cases h1
      · have e0 : ((n2 : Int) == 0) = false := by simp; omega
        have HX : Hid (∃ x, x ∈ rs) := by
          show ∃ x, x ∈ rs
          cases rs with
          | nil => exact absurd H2.out.1.1.symm h0
          | cons x rs => exact ⟨x, by simp⟩
        clear h0
        go_wp2
        go_ret
        refine ⟨false, rfl, ⟨(fun h => by cases h), fun h => ?_⟩, HB1.out.trans (HB2.out.mono HB1.out.size)⟩
        obtain ⟨x, hx⟩ := HX.out
        exact absurd ((H2.out.2.2.2 x).1 hx).2 (h.2.2 x)
    · have hc1 : ((N : Int) == (len : Int)) = false := by simp; omega
      have HC : Hid (N ≠ len) := hc
      clear hc
      go_wp2_with (go_at_call 24; (with_reducible refine Calls.mono H24.out ?_); rintro e w1 ⟨b1, rfl, H1, HB1⟩; have hlen := H1.out.1.len 3; rw [HNN.out.1] at hlen)
      go_ret
      refine ⟨false, rfl, ⟨(fun h => by cases h), fun h => ?_⟩, HB1⟩
      exact absurd (HNN.out.1.symm.trans (((namesK_len l).2 h.2.1).trans HA.out.1.1)) HC.out
end Go.Proofs.Ytijkpkcopjkhkaa.Oct

/- Layer 12 (deps): the memory of a web: rows of numbers, the rows above, numbers by names. -/
namespace Go.Proofs.Ytijkpkcopjkhkaa.Oct
open Go.RowKit

def IV (xs : List Nat) : List Value := xs.map fun (n : Nat) => Value.int .i64 (n : Int)
theorem IV_length (xs : List Nat) : (IV xs).length = xs.length := by simp [IV]
theorem IV_append (a b : List Nat) : IV (a ++ b) = IV a ++ IV b := by simp [IV]
theorem IV_get (xs : List Nat) (i x : Nat) (h : xs[i]? = some x) : (IV xs)[i]? = some (.int .i64 (x : Int)) := by simp [IV, h]
theorem IV_one (xs : List Nat) : ∀ v ∈ IV xs, v.oneCell' = true := by
  intro v hv
  obtain ⟨x, _, rfl⟩ := List.mem_map.1 hv
  rfl
theorem made_list (z : Value) (n : Nat) : madeCells #[z] n = (List.replicate n z).toArray := by
  apply Array.ext
  · simp [size_madeCells]
  · intro i h1 h2
    simp [madeCells, Nat.mod_one]
theorem run_mk55 (n : Nat) (hn : n ≤ 100000) (W : World) : (Instr.makeSlice 55 (.int .i64 (n : Int)) (.int .i64 (n : Int))).run Try.prog W = .ok (.slice (some ⟨W.heap.size, 0, none⟩) n n) (W.alloc (.cells (List.replicate n (.slice none 0 0)).toArray 56)) := by
  rw [run_make_row' (P := Try.prog) 55 56 (.slice none 0 0) 24 Try.underlying55 (by kernel_rfl) rfl .i64 .i64 n (by omega) (by omega) W, made_list]
theorem run_mk56 (n : Nat) (hn : n ≤ 100000) (W : World) : (Instr.makeSlice 56 (.int .i64 (n : Int)) (.int .i64 (n : Int))).run Try.prog W = .ok (.slice (some ⟨W.heap.size, 0, none⟩) n n) (W.alloc (.cells (List.replicate n (.int .i64 0)).toArray 3)) := by
  rw [run_make_row' (P := Try.prog) 56 3 (.int .i64 0) 8 Try.underlying56 (by kernel_rfl) rfl .i64 .i64 n (by omega) (by omega) W, made_list]
theorem zero58 (W : World) : (zeroValue 58).run Try.prog W = .ok (.agg #[.slice none 0 0, .slice none 0 0, .slice none 0 0]) W := by kernel_rfl
section
variable {o : Oper} {a : Act} {w : World} {K : Act → World → Prop} {Q : Exit → Act → World → Prop}
theorem wp_mk55 (l c : Operand) (hop : o.op = Op.makeSlice 55 l c) (n : Nat) (hl : a.eval l = .int .i64 (n : Int)) (hc : a.eval c = .int .i64 (n : Int)) (hn : n ≤ 100000)
    (hK : K (a.put o.dst (.slice (some ⟨w.heap.size, 0, none⟩) n n)) (w.alloc (.cells (List.replicate n (.slice none 0 0)).toArray 56))) : Oper.wp Try.prog o a w K Q := by
  unfold Oper.wp execOp
  simp only [hop, hl, hc, run_mk55 n hn, Result.andThen_ok, Sem.run_bind, Sem.run_pure]
  exact hK
theorem wp_mk56 (l c : Operand) (hop : o.op = Op.makeSlice 56 l c) (n : Nat) (hl : a.eval l = .int .i64 (n : Int)) (hc : a.eval c = .int .i64 (n : Int)) (hn : n ≤ 100000)
    (hK : K (a.put o.dst (.slice (some ⟨w.heap.size, 0, none⟩) n n)) (w.alloc (.cells (List.replicate n (.int .i64 0)).toArray 3))) : Oper.wp Try.prog o a w K Q := by
  unfold Oper.wp execOp
  simp only [hop, hl, hc, run_mk56 n hn, Result.andThen_ok, Sem.run_bind, Sem.run_pure]
  exact hK
theorem wp_al58 (d : Tmp) (hd : o.dst = some d) (hop : o.op = Op.alloc 58)
    (hK : K (a.put (some d) (.pointer (some ⟨w.heap.size, 0, none⟩))) (w.alloc (.cells #[.slice none 0 0, .slice none 0 0, .slice none 0 0] 58))) : Oper.wp Try.prog o a w K Q := by
  obtain ⟨od, oo, ot, op, oa, og⟩ := o
  dsimp only at hop hd
  subst hop hd
  have hz := zero58
  go_wp2
  exact hK
end

/-! ### rows of numbers -/
theorem info3 : ∃ i : TypeInfo, Try.prog.info? 3 = some i ∧ i.size = 1 ∧ i.bytes = 8 ∧ ∃ z, i.zero = some z ∧ z.cells.size = 1 := by
  obtain ⟨i, hi, he⟩ := Option.map_eq_some_iff.1 (show (Try.prog.info? 3).map (fun i => (i.size, i.bytes, i.zero.map (·.cells.size))) = some (1, 8, some 1) by kernel_rfl)
  simp only [Prod.mk.injEq] at he
  obtain ⟨z, hz, hz2⟩ := Option.map_eq_some_iff.1 he.2.2
  exact ⟨i, hi, he.1, he.2.1, z, hz, hz2⟩
theorem run_appI (w : World) (B : Nat) (ty : TypeId) (v : Value) (xs : List Nat) (g y : Nat) (hown : w.ownsRow B 3 1 v xs.length (IV xs)) (hx : w.cell? ⟨g, 0, none⟩ = some (.int .i64 (y : Int))) (hn : xs.length ≤ 1000000) (hB : B ≤ w.heap.size) :
    ∃ v' w', (Builtin.append_ #[56, 56] ty #[v, .slice (some ⟨g, 0, none⟩) 1 1]).run Try.prog w = .ok v' w' ∧ w'.ownsRow B 3 1 v' (xs.length + 1) (IV (xs ++ [y])) ∧ w.grownBy w' v.ownBlock ∧ (v'.ownBlock = v.ownBlock ∨ v'.ownBlock = some w.heap.size) := by
  obtain ⟨i, hi, hs1, hby, z, hz, hzs⟩ := info3
  have h63 : xs.length + 1 ≤ maxLen := by unfold maxLen; omega
  have hnews : ∀ j u, (IV [y])[j]? = some u → w.cell? ((⟨g, 0, none⟩ : Addr).add j) = some u := fun j u hj => by
    rw [Addr.add_lit]
    cases j with
    | zero => simp [IV] at hj; subst hj; exact hx
    | succ j => simp [IV] at hj
  obtain ⟨v', w', hrun, ho, hg2, _⟩ := run_append_own w B 56 ty 3 i z 1 8 Try.underlying56 hi hz hs1 hby hzs (by omega) v xs.length (IV xs) hown ⟨g, 0, none⟩ 1 1 (IV [y]) rfl hnews (IV_one [y]) h63 (by omega) hB
  refine ⟨v', w', hrun, by rw [IV_append]; exact ho, hg2, ?_⟩
  rcases hown.2 with ⟨rfl, hx0⟩ | ⟨g', cap, cur, rfl, hbg, hg', hnc, hcm, hcs, htake⟩
  · have hr2 := run_append_nil (P := Try.prog) w 56 ty 3 i z Try.underlying56 hi hz ⟨g, 0, none⟩ 1 1 (IV [y]) (by rw [hs1]; rfl) hnews (by omega) (by omega) (by rw [hby]; omega)
    rw [hr2] at hrun
    injection hrun with e1 e2
    exact .inr (by rw [← e1]; rfl)
  · by_cases hroom : xs.length + 1 ≤ cap
    · have hr2 := run_append_room (P := Try.prog) w 56 ty 3 i Try.underlying56 hi g' xs.length cap cur hg' ⟨g, 0, none⟩ 1 1 (IV [y]) (by rw [hs1]; rfl) hnews (IV_one [y]) hroom (by rw [hs1, hcs]; simp [IV]; omega)
      rw [hr2] at hrun
      injection hrun with e1 e2
      exact .inl (by rw [← e1]; rfl)
    · have holds := hown.cells (g := g') rfl
      have hr2 := run_append_grow (P := Try.prog) w 56 ty 3 i z Try.underlying56 hi hz ⟨g', 0, none⟩ xs.length cap (IV xs) (by rw [hs1, IV_length]; omega) holds ⟨g, 0, none⟩ 1 1 (IV [y]) (by rw [hs1]; rfl) hnews (by omega) (by omega) (growslice_fits (by omega) (by rw [hby]; omega))
      rw [hr2] at hrun
      injection hrun with e1 e2
      exact .inr (by rw [← e1]; rfl)
end Go.Proofs.Ytijkpkcopjkhkaa.Oct
