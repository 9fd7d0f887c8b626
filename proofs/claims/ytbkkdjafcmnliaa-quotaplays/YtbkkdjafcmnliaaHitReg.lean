/-
  Layer 18 (quota): the reference's Hit: its drawn region.
-/
import Derived.Test.YtbkkdjafcmnliaaRef3
import Derived.Deep.RegionHeld
namespace Go.Proofs.Ytbkkdjafcmnliaa.Oct
open Go.RowKit
set_option linter.unusedSimpArgs false
theorem below_drew (w : World) : Below w.heap.size w w.drew := ⟨rfl, rfl, rfl, Nat.le_refl _, fun _ _ => rfl⟩
theorem rangeAt_same {w V : World} {b o : Nat} {cs : List Value} (h : w.rangeAt b o cs) (hs : V.heap[b]? = w.heap[b]?) : V.rangeAt b o cs :=
  fun j v hj => (World.cell?_of_block (a := ⟨b, o + j, none⟩) hs).trans (h j v hj)

set_option maxRecDepth 100000 in
set_option maxHeartbeats 2000000 in
theorem hit_region {Q : Exit → Act → World → Prop} {x0 x3 x4 x5 x6 x7 x8 x9 x10 x11 x12 x13 x14 x15 x16 x17 x18 x19 x20 x21 x22 x23 x24 x25 x26 x27 x28 x29 x30 x31 x32 x33 x34 x35 x36 x37 x38 x39 x40 x41 x42 x43 x44 x45 x46 x47 x48 x49 x50 x51 : Value} {ds : List Deferred} {A : World} {g0 m cap : Nat} {a : Option Addr} {b r n u t c : Int}
    (HC : Hid (Blk A g0 31 [iv b, iv r, iv n, iv u, .slice a m cap])) (HF : Hid (∀ V, Below A.heap.size A V → Calls Try.prog 26 #[.agg #[iv b, iv r, iv n, iv u, .slice a m cap], iv t] V fun e w' => e = .returned (iv c) ∧ Hid (Below V.heap.size V w')))
    (hQ : ∀ V, Below A.heap.size A V → Q .normal { tmps := #[x0, iv t, .pointer (some ⟨g0, 0, none⟩), x3, x4, x5, x6, x7, x8, x9, x10, x11, x12, x13, x14, x15, x16, x17, x18, x19, x20, x21, x22, x23, x24, x25, x26, x27, x28, x29, x30, x31, x32, x33, x34, .agg #[iv b, iv r, iv n, iv u, .slice a m cap], iv t, iv c, .pointer (some ⟨g0, 0, none⟩), .pointer (some ⟨g0, 1, none⟩), iv r, .bool (decide (r ≤ c)), x42, x43, x44, x45, x46, x47, x48, x49, x50, x51], defers := ds } V) :
    (Code.region 3 #[{ dst := some 35, op := Op.load 31 (Operand.tmp 2), type := 31, pos := "ref.go:58", after := #[], guard := none }, { dst := some 36, op := Op.move (Operand.tmp 1), type := 3, pos := "ref.go:58", after := #[], guard := none }, { dst := some 37, op := Op.call { callee := Callee.value (Operand.func 26), args := #[Operand.tmp 35, Operand.tmp 36], argTypes := #[31, 3] }, type := 3, pos := "ref.go:58", after := #[{ on := 0, ground := Ground.data }, { on := 1, ground := Ground.data }], guard := none }, { dst := some 38, op := Op.fieldAddr 31 (Operand.tmp 2) 0, type := 0, pos := "ref.go:58", after := #[], guard := none }, { dst := some 39, op := Op.fieldAddr 23 (Operand.tmp 38) 1, type := 0, pos := "ref.go:58", after := #[{ on := 3, ground := Ground.data }], guard := none }, { dst := some 40, op := Op.load 3 (Operand.tmp 39), type := 3, pos := "ref.go:58", after := #[{ on := 4, ground := Ground.data }], guard := none }, { dst := some 41, op := Op.binOp BinOp.geq 3 (Operand.tmp 37) (Operand.tmp 40) 3, type := 4, pos := "ref.go:58", after := #[{ on := 2, ground := Ground.data }, { on := 5, ground := Ground.data }], guard := none }] true).wp Try.prog Q { tmps := #[x0, iv t, .pointer (some ⟨g0, 0, none⟩), x3, x4, x5, x6, x7, x8, x9, x10, x11, x12, x13, x14, x15, x16, x17, x18, x19, x20, x21, x22, x23, x24, x25, x26, x27, x28, x29, x30, x31, x32, x33, x34, x35, x36, x37, x38, x39, x40, x41, x42, x43, x44, x45, x46, x47, x48, x49, x50, x51], defers := ds } A := by
  refine Code.wp_mono (Q := fun x a' w' => match x with | .normal => Q .normal a' w' | _ => False) (by intro x a' w' h; cases x <;> first | exact h | exact h.elim) ?_
  refine wp_region_held (S := fun V => Below A.heap.size A V) (by kernel_rfl) ?_
  have hS0 : Hid (Below A.heap.size A A.drew) := below_drew A
  change wpAnyH Try.prog .any _ _ (fun V => Below A.heap.size A V) 7 (Array.replicate 7 false) _ A.drew
  refine wpAnyH_take (i := 0) (oi := { dst := some 35, op := Op.load 31 (Operand.tmp 2), type := 31, pos := "ref.go:58", after := #[], guard := none }) (v := .agg #[iv b, iv r, iv n, iv u, .slice a m cap]) rfl (by kernel_rfl) (by kernel_rfl) (by kernel_rfl) (fun _ _ _ h => h.elim) (yieldsIf_load_mid (by rfl) _ _ rfl _ _ rfl ([iv b, iv r, iv n, iv u, .slice a m cap]) _ (fun V hV => rangeAt_same (HC.out.range 0 5) ((show Below A.heap.size A V from hV).block _ (HC.out.lt))) Try.underlying31 rfl (size31)) hS0.out ?_
  simp only [Act.put, List.setIfInBounds_toArray, List.set_cons_zero, List.set_cons_succ]
  refine wpAnyH_take (i := 1) (oi := { dst := some 36, op := Op.move (Operand.tmp 1), type := 3, pos := "ref.go:58", after := #[], guard := none }) (v := iv t) rfl (by kernel_rfl) (by kernel_rfl) (by kernel_rfl) (fun _ _ _ h => h.elim) (Or.inl ⟨by rfl, ?y1⟩) hS0.out ?_
  case y1 =>
    intro V hV
    go_simp
  simp only [Act.put, List.setIfInBounds_toArray, List.set_cons_zero, List.set_cons_succ]
  refine wpAnyH_take (i := 3) (oi := { dst := some 38, op := Op.fieldAddr 31 (Operand.tmp 2) 0, type := 0, pos := "ref.go:58", after := #[], guard := none }) (v := .pointer (some ⟨g0, 0, none⟩)) rfl (by kernel_rfl) (by kernel_rfl) (by kernel_rfl) (fun _ _ _ h => h.elim) (Or.inl ⟨by rfl, ?y3⟩) hS0.out ?_
  case y3 =>
    intro V hV
    go_simp
  simp only [Act.put, List.setIfInBounds_toArray, List.set_cons_zero, List.set_cons_succ]
  refine wpAnyH_take (i := 4) (oi := { dst := some 39, op := Op.fieldAddr 23 (Operand.tmp 38) 1, type := 0, pos := "ref.go:58", after := #[{ on := 3, ground := Ground.data }], guard := none }) (v := .pointer (some ⟨g0, 1, none⟩)) rfl (by kernel_rfl) (by kernel_rfl) (by kernel_rfl) (fun _ _ _ h => h.elim) (Or.inl ⟨by rfl, ?y4⟩) hS0.out ?_
  case y4 =>
    intro V hV
    go_simp
  simp only [Act.put, List.setIfInBounds_toArray, List.set_cons_zero, List.set_cons_succ]
  refine wpAnyH_take (i := 5) (oi := { dst := some 40, op := Op.load 3 (Operand.tmp 39), type := 3, pos := "ref.go:58", after := #[{ on := 4, ground := Ground.data }], guard := none }) (v := iv r) rfl (by kernel_rfl) (by kernel_rfl) (by kernel_rfl) (fun _ _ _ h => h.elim) (Or.inl ⟨by rfl, ?y5⟩) hS0.out ?_
  case y5 =>
    intro V hV
    have k : V.cell? ⟨g0, 1, none⟩ = some (iv r) := (Below.cell (p := ⟨g0, 1, none⟩) hV HC.out.lt).trans (HC.out.cell rfl)
    go_simp
  simp only [Act.put, List.setIfInBounds_toArray, List.set_cons_zero, List.set_cons_succ]
  refine wpAnyH_ready (rs := [2]) (by kernel_rfl) (by simp) (AllReadyH.cons (i := 2) (o := { dst := some 37, op := Op.call { callee := Callee.value (Operand.func 26), args := #[Operand.tmp 35, Operand.tmp 36], argTypes := #[31, 3] }, type := 3, pos := "ref.go:58", after := #[{ on := 0, ground := Ground.data }, { on := 1, ground := Ground.data }], guard := none }) rfl ?_ AllReadyH.nil)
  intro K1 hK1
  rw [if_pos (by rfl)]
  have HC1 := HF.out A.drew hS0.out
  go_wp2_with fail
  refine HC1.mono ?_
  rintro e V1 ⟨rfl, HB1⟩
  dsimp only
  clear HC1
  have hS1 : Hid (Below A.heap.size A V1) := hS0.out.trans (HB1.out.mono hS0.out.size)
  refine hK1.out _ _ hS1.out ?_
  clear hK1
  intro _
  try simp only [Act.put, List.setIfInBounds_toArray, List.set_cons_zero, List.set_cons_succ]
  refine wpAnyH_take (i := 6) (oi := { dst := some 41, op := Op.binOp BinOp.geq 3 (Operand.tmp 37) (Operand.tmp 40) 3, type := 4, pos := "ref.go:58", after := #[{ on := 2, ground := Ground.data }, { on := 5, ground := Ground.data }], guard := none }) (v := .bool (decide (r ≤ c))) rfl (by kernel_rfl) (by kernel_rfl) (by kernel_rfl) (fun _ _ _ h => h.elim) (Or.inl ⟨by rfl, ?y6⟩) hS1.out ?_
  case y6 =>
    intro V hV
    go_simp
  simp only [Act.put, List.setIfInBounds_toArray, List.set_cons_zero, List.set_cons_succ]
  refine wpAnyH_done (by kernel_rfl) ?_ _
  exact hQ _ hS1.out
#print axioms hit_region
end Go.Proofs.Ytbkkdjafcmnliaa.Oct
