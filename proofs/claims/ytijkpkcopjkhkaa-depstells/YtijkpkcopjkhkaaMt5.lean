/-
  Layer 12 (deps): lives: its last region, whatever its order: a fact for each state of it.
  Layer 12 (deps): lives.
  Layer 12 (deps): DepsMirror: its last statement, whatever its order.
  Layer 12 (deps): in the order each stands behind all that it needs; where it stops short something goes round. Plain facts.
  Layer 12 (deps): items that say the same have the same answers. Plain facts.
  Layer 12 (deps): DepsMirror.
  Layer 12 (deps): the reference: Missing, Closed.
  Layer 12 (deps): the reference: Needs as a search. Plain facts.
  Layer 12 (deps): the reference: Needs.
-/
import Derived.Test.YtijkpkcopjkhkaaMt4
/- Layer 12 (deps): lives: its last region, whatever its order: a fact for each state of it. -/
namespace Go.Proofs.Ytijkpkcopjkhkaa.Oct
open Go.RowKit
set_option linter.unusedSimpArgs false
set_option linter.unusedVariables false

section
variable {o : Oper} {a : Act} {w : World} {K : Act → World → Prop} {Q : Exit → Act → World → Prop}
theorem wp_bs123 (x y z : Operand) (hop : o.op = Op.buildSlice 26 3 #[(0, x), (1, y), (2, z)]) (hx1 : a.eval x = .agg (U (hx 1)).toArray) (hx2 : a.eval y = .agg (U (hx 2)).toArray) (hx3 : a.eval z = .agg (U (hx 3)).toArray)
    (hK : K (a.put o.dst (.slice (some ⟨w.heap.size, 0, none⟩) 3 3)) (w.alloc (.cells (UU [hx 1, hx 2, hx 3]).toArray 34))) : Oper.wp Try.prog o a w K Q := by
  unfold Oper.wp execOp
  simp [hop, hx1, hx2, hx3, run_bs123, Result.andThen]
  exact hK
theorem wp_bs12 (x y : Operand) (hop : o.op = Op.buildSlice 26 2 #[(0, x), (1, y)]) (hx1 : a.eval x = .agg (U (hx 1)).toArray) (hx2 : a.eval y = .agg (U (hx 2)).toArray)
    (hK : K (a.put o.dst (.slice (some ⟨w.heap.size, 0, none⟩) 2 2)) (w.alloc (.cells (UU [hx 1, hx 2]).toArray 34))) : Oper.wp Try.prog o a w K Q := by
  unfold Oper.wp execOp
  simp [hop, hx1, hx2, run_bs12, Result.andThen]
  exact hK
theorem wp_bs23 (x y : Operand) (hop : o.op = Op.buildSlice 26 2 #[(0, x), (1, y)]) (hx1 : a.eval x = .agg (U (hx 2)).toArray) (hx2 : a.eval y = .agg (U (hx 3)).toArray)
    (hK : K (a.put o.dst (.slice (some ⟨w.heap.size, 0, none⟩) 2 2)) (w.alloc (.cells (UU [hx 2, hx 3]).toArray 34))) : Oper.wp Try.prog o a w K Q := by
  unfold Oper.wp execOp
  simp [hop, hx1, hx2, run_bs23, Result.andThen]
  exact hK
end
theorem hashes_true (w : World) (a : Option Addr) (n c : Nat) (a2 : Option Addr) (n2 c2 : Nat) (hs : List Hs) (hr : HsR w a n hs) (hr2 : HsR w a2 n2 hs) (hn : n ≤ 100000) (hn2 : n2 ≤ 100000) :
    Calls Try.prog 13 #[.slice a n c, .slice a2 n2 c2] w fun e w' => e = .returned (.bool true) ∧ Hid (Below w.heap.size w w') := by
  refine (hashes_is w a n c hs a2 n2 c2 hs hr hr2 hn hn2).mono ?_
  rintro e w' ⟨rfl, h⟩
  exact ⟨by simp, h⟩
theorem hx3l : ∀ h ∈ [hx 1, hx 2, hx 3], h.length = 32 := by intro h hh; simp at hh; rcases hh with rfl | rfl | rfl <;> exact hx_len _
theorem hx12l : ∀ h ∈ [hx 1, hx 2], h.length = 32 := by intro h hh; simp at hh; rcases hh with rfl | rfl <;> exact hx_len _
theorem hx23l : ∀ h ∈ [hx 2, hx 3], h.length = 32 := by intro h hh; simp at hh; rcases hh with rfl | rfl <;> exact hx_len _
def livesOps : Array Oper := #[{ dst := some 27, op := Op.move (Operand.tmp 6), type := 27, pos := "law.go:16", after := #[], guard := none }, { dst := some 28, op := Op.binOp BinOp.eql 27 (Operand.tmp 27) (Operand.const (Value.int IntKind.i64 0)) 27, type := 4, pos := "law.go:16", after := #[{ on := 0, ground := Ground.data }], guard := none }, { dst := some 29, op := Op.move (Operand.tmp 28), type := 4, pos := "law.go:16", after := #[{ on := 1, ground := Ground.data }], guard := none }, { dst := some 30, op := Op.move (Operand.tmp 5), type := 26, pos := "law.go:16", after := #[{ on := 2, ground := Ground.guard }], guard := some (2, true) }, { dst := some 31, op := Op.load 34 (Operand.tmp 1), type := 34, pos := "law.go:16", after := #[{ on := 2, ground := Ground.guard }], guard := some (2, true) }, { dst := some 32, op := Op.load 34 (Operand.tmp 2), type := 34, pos := "law.go:16", after := #[{ on := 2, ground := Ground.guard }], guard := some (2, true) }, { dst := some 33, op := Op.load 34 (Operand.tmp 3), type := 34, pos := "law.go:16", after := #[{ on := 2, ground := Ground.guard }], guard := some (2, true) }, { dst := some 34, op := Op.buildSlice 26 3 #[(0, Operand.tmp 31), (1, Operand.tmp 32), (2, Operand.tmp 33)], type := 26, pos := "law.go:16", after := #[{ on := 4, ground := Ground.data }, { on := 5, ground := Ground.data }, { on := 6, ground := Ground.data }, { on := 2, ground := Ground.guard }], guard := some (2, true) }, { dst := some 35, op := Op.call { callee := Callee.value (Operand.func 13), args := #[Operand.tmp 30, Operand.tmp 34], argTypes := #[26, 26] }, type := 4, pos := "law.go:16", after := #[{ on := 3, ground := Ground.data }, { on := 7, ground := Ground.data }, { on := 2, ground := Ground.chain }, { on := 2, ground := Ground.guard }], guard := some (2, true) }, { dst := some 36, op := Op.pick (Operand.tmp 29) (Operand.tmp 35) (Operand.const (Value.bool false)), type := 4, pos := "law.go:16", after := #[{ on := 2, ground := Ground.data }, { on := 8, ground := Ground.data }], guard := none }, { dst := some 37, op := Op.move (Operand.tmp 36), type := 4, pos := "law.go:16", after := #[{ on := 9, ground := Ground.data }, { on := 8, ground := Ground.chain }], guard := none }, { dst := some 38, op := Op.move (Operand.tmp 4), type := 22, pos := "law.go:16", after := #[{ on := 10, ground := Ground.guard }], guard := some (10, true) }, { dst := some 39, op := Op.load 34 (Operand.tmp 3), type := 34, pos := "law.go:16", after := #[{ on := 10, ground := Ground.guard }], guard := some (10, true) }, { dst := some 40, op := Op.call { callee := Callee.value (Operand.func 14), args := #[Operand.tmp 38, Operand.tmp 39], argTypes := #[22, 34] }, type := 26, pos := "law.go:16", after := #[{ on := 11, ground := Ground.data }, { on := 12, ground := Ground.data }, { on := 10, ground := Ground.chain }, { on := 10, ground := Ground.guard }], guard := some (10, true) }, { dst := some 41, op := Op.load 34 (Operand.tmp 1), type := 34, pos := "law.go:16", after := #[{ on := 10, ground := Ground.guard }], guard := some (10, true) }, { dst := some 42, op := Op.load 34 (Operand.tmp 2), type := 34, pos := "law.go:16", after := #[{ on := 10, ground := Ground.guard }], guard := some (10, true) }, { dst := some 43, op := Op.buildSlice 26 2 #[(0, Operand.tmp 41), (1, Operand.tmp 42)], type := 26, pos := "law.go:16", after := #[{ on := 14, ground := Ground.data }, { on := 15, ground := Ground.data }, { on := 10, ground := Ground.guard }], guard := some (10, true) }, { dst := some 44, op := Op.call { callee := Callee.value (Operand.func 13), args := #[Operand.tmp 40, Operand.tmp 43], argTypes := #[26, 26] }, type := 4, pos := "law.go:16", after := #[{ on := 13, ground := Ground.data }, { on := 16, ground := Ground.data }, { on := 13, ground := Ground.chain }, { on := 10, ground := Ground.guard }], guard := some (10, true) }, { dst := some 45, op := Op.pick (Operand.tmp 37) (Operand.tmp 44) (Operand.const (Value.bool false)), type := 4, pos := "law.go:16", after := #[{ on := 10, ground := Ground.data }, { on := 17, ground := Ground.data }], guard := none }, { dst := some 46, op := Op.move (Operand.tmp 45), type := 4, pos := "law.go:16", after := #[{ on := 18, ground := Ground.data }, { on := 17, ground := Ground.chain }], guard := none }, { dst := some 47, op := Op.move (Operand.tmp 4), type := 22, pos := "law.go:16", after := #[{ on := 19, ground := Ground.guard }], guard := some (19, true) }, { dst := some 48, op := Op.load 34 (Operand.tmp 1), type := 34, pos := "law.go:16", after := #[{ on := 19, ground := Ground.guard }], guard := some (19, true) }, { dst := some 49, op := Op.call { callee := Callee.value (Operand.func 16), args := #[Operand.tmp 47, Operand.tmp 48], argTypes := #[22, 34] }, type := 26, pos := "law.go:16", after := #[{ on := 20, ground := Ground.data }, { on := 21, ground := Ground.data }, { on := 19, ground := Ground.chain }, { on := 19, ground := Ground.guard }], guard := some (19, true) }, { dst := some 50, op := Op.load 34 (Operand.tmp 2), type := 34, pos := "law.go:16", after := #[{ on := 19, ground := Ground.guard }], guard := some (19, true) }, { dst := some 51, op := Op.load 34 (Operand.tmp 3), type := 34, pos := "law.go:16", after := #[{ on := 19, ground := Ground.guard }], guard := some (19, true) }, { dst := some 52, op := Op.buildSlice 26 2 #[(0, Operand.tmp 50), (1, Operand.tmp 51)], type := 26, pos := "law.go:16", after := #[{ on := 23, ground := Ground.data }, { on := 24, ground := Ground.data }, { on := 19, ground := Ground.guard }], guard := some (19, true) }, { dst := some 53, op := Op.call { callee := Callee.value (Operand.func 13), args := #[Operand.tmp 49, Operand.tmp 52], argTypes := #[26, 26] }, type := 4, pos := "law.go:16", after := #[{ on := 22, ground := Ground.data }, { on := 25, ground := Ground.data }, { on := 22, ground := Ground.chain }, { on := 19, ground := Ground.guard }], guard := some (19, true) }, { dst := some 54, op := Op.pick (Operand.tmp 46) (Operand.tmp 53) (Operand.const (Value.bool false)), type := 4, pos := "law.go:16", after := #[{ on := 19, ground := Ground.data }, { on := 26, ground := Ground.data }], guard := none }, { dst := some 55, op := Op.move (Operand.tmp 54), type := 4, pos := "law.go:16", after := #[{ on := 27, ground := Ground.data }, { on := 26, ground := Ground.chain }], guard := none }, { dst := some 56, op := Op.move (Operand.tmp 4), type := 22, pos := "law.go:16", after := #[{ on := 28, ground := Ground.guard }], guard := some (28, true) }, { dst := some 57, op := Op.call { callee := Callee.value (Operand.func 20), args := #[Operand.tmp 56], argTypes := #[22] }, type := 4, pos := "law.go:16", after := #[{ on := 29, ground := Ground.data }, { on := 28, ground := Ground.chain }, { on := 28, ground := Ground.guard }], guard := some (28, true) }, { dst := some 58, op := Op.pick (Operand.tmp 55) (Operand.tmp 57) (Operand.const (Value.bool false)), type := 4, pos := "law.go:16", after := #[{ on := 28, ground := Ground.data }, { on := 30, ground := Ground.data }], guard := none }, { dst := some 59, op := Op.move (Operand.tmp 58), type := 4, pos := "law.go:16", after := #[{ on := 31, ground := Ground.data }, { on := 30, ground := Ground.chain }], guard := none }, { dst := some 60, op := Op.move (Operand.tmp 4), type := 22, pos := "law.go:16", after := #[{ on := 32, ground := Ground.guard }], guard := some (32, true) }, { dst := some 61, op := Op.call { callee := Callee.value (Operand.func 18), args := #[Operand.tmp 60], argTypes := #[22] }, type := 26, pos := "law.go:16", after := #[{ on := 33, ground := Ground.data }, { on := 32, ground := Ground.chain }, { on := 32, ground := Ground.guard }], guard := some (32, true) }, { dst := some 62, op := Op.call { callee := Callee.builtin Builtin.len, args := #[Operand.tmp 61], argTypes := #[26] }, type := 3, pos := "law.go:16", after := #[{ on := 34, ground := Ground.data }, { on := 32, ground := Ground.guard }], guard := some (32, true) }, { dst := some 63, op := Op.binOp BinOp.eql 3 (Operand.tmp 62) (Operand.const (Value.int IntKind.i64 0)) 3, type := 4, pos := "law.go:16", after := #[{ on := 35, ground := Ground.data }, { on := 32, ground := Ground.guard }], guard := some (32, true) }, { dst := some 64, op := Op.pick (Operand.tmp 59) (Operand.tmp 63) (Operand.const (Value.bool false)), type := 4, pos := "law.go:16", after := #[{ on := 32, ground := Ground.data }, { on := 36, ground := Ground.data }], guard := none }, { dst := some 65, op := Op.move (Operand.tmp 64), type := 4, pos := "law.go:16", after := #[{ on := 37, ground := Ground.data }, { on := 34, ground := Ground.chain }], guard := none }, { dst := some 66, op := Op.pick (Operand.tmp 65) (Operand.const (Value.bool true)) (Operand.const (Value.bool false)), type := 4, pos := "law.go:16", after := #[{ on := 38, ground := Ground.data }], guard := none }, { dst := some 0, op := Op.assign (Operand.tmp 66), type := 4, pos := "law.go:16", after := #[{ on := 39, ground := Ground.data }, { on := 38, ground := Ground.chain }, { on := 0, ground := Ground.phase }, { on := 1, ground := Ground.phase }, { on := 2, ground := Ground.phase }, { on := 3, ground := Ground.phase }, { on := 4, ground := Ground.phase }, { on := 5, ground := Ground.phase }, { on := 6, ground := Ground.phase }, { on := 7, ground := Ground.phase }, { on := 8, ground := Ground.phase }, { on := 9, ground := Ground.phase }, { on := 10, ground := Ground.phase }, { on := 11, ground := Ground.phase }, { on := 12, ground := Ground.phase }, { on := 13, ground := Ground.phase }, { on := 14, ground := Ground.phase }, { on := 15, ground := Ground.phase }, { on := 16, ground := Ground.phase }, { on := 17, ground := Ground.phase }, { on := 18, ground := Ground.phase }, { on := 19, ground := Ground.phase }, { on := 20, ground := Ground.phase }, { on := 21, ground := Ground.phase }, { on := 22, ground := Ground.phase }, { on := 23, ground := Ground.phase }, { on := 24, ground := Ground.phase }, { on := 25, ground := Ground.phase }, { on := 26, ground := Ground.phase }, { on := 27, ground := Ground.phase }, { on := 28, ground := Ground.phase }, { on := 29, ground := Ground.phase }, { on := 30, ground := Ground.phase }, { on := 31, ground := Ground.phase }, { on := 32, ground := Ground.phase }, { on := 33, ground := Ground.phase }, { on := 34, ground := Ground.phase }, { on := 35, ground := Ground.phase }, { on := 36, ground := Ground.phase }, { on := 37, ground := Ground.phase }, { on := 38, ground := Ground.phase }, { on := 39, ground := Ground.phase }], guard := none }]
set_option maxRecDepth 100000 in
set_option maxHeartbeats 2000000 in
theorem lv_Z3 {Q : Exit → Act → World → Prop} {ds : List Deferred} {A W : World} {ad po : Option Addr} {no co b1 b2 b3 : Nat} {s34 : Nat} {p40 : Option Addr} {n40 c40 : Nat} {s43 : Nat} {p49 : Option Addr} {n49 c49 : Nat} {s52 : Nat} {x0 x7 x8 x9 x10 x11 x12 x13 x14 x15 x16 x17 x18 x19 x20 x21 x22 x23 x24 x25 x26 x53 x54 x55 x56 x57 x58 x59 x60 x61 x62 x63 x64 x65 x66 : Value}
    (HK : Hid ((A.rangeAt b1 0 (U (hx 1)) ∧ A.rangeAt b2 0 (U (hx 2)) ∧ A.rangeAt b3 0 (U (hx 3))) ∧ b1 < A.heap.size ∧ b2 < A.heap.size ∧ b3 < A.heap.size))
    (h14 : Hid (∀ V, Below A.heap.size A V → Calls Try.prog 14 #[.slice ad 3 3, .agg (U (hx 3)).toArray] V fun e V1 => ∃ p n c, e = .returned (.slice p n c) ∧ Hid (HsR V1 p n [hx 1, hx 2] ∧ n ≤ 100000) ∧ Hid (Below V.heap.size V V1)))
    (h16 : Hid (∀ V, Below A.heap.size A V → Calls Try.prog 16 #[.slice ad 3 3, .agg (U (hx 1)).toArray] V fun e V1 => ∃ p n c, e = .returned (.slice p n c) ∧ Hid (HsR V1 p n [hx 2, hx 3] ∧ n ≤ 100000) ∧ Hid (Below V.heap.size V V1)))
    (h20 : Hid (∀ V, Below A.heap.size A V → Calls Try.prog 20 #[.slice ad 3 3] V fun e V1 => e = .returned (.bool true) ∧ Hid (Below V.heap.size V V1)))
    (h18 : Hid (∀ V, Below A.heap.size A V → Calls Try.prog 18 #[.slice ad 3 3] V fun e V1 => ∃ p c, e = .returned (.slice p 0 c) ∧ Hid (Below V.heap.size V V1))) (hb : Hid (Below A.heap.size A W)) (H49 : Hid (HsR W p49 n49 [hx 2, hx 3] ∧ n49 ≤ 100000)) (H52 : Hid (HsR W (some ⟨s52, 0, none⟩) 2 [hx 2, hx 3]))
    (hQ : Hid (∀ (s34 : Nat) (p40 : Option Addr) (n40 c40 s43 : Nat) (p49 : Option Addr) (n49 c49 s52 : Nat) (p61 : Option Addr) (c61 : Nat) (V : World), Below A.heap.size A V → Q .normal { tmps := #[.bool true, .pointer (some ⟨b1, 0, none⟩), .pointer (some ⟨b2, 0, none⟩), .pointer (some ⟨b3, 0, none⟩), .slice ad 3 3, .slice po no co, .int .i64 0, x7, x8, x9, x10, x11, x12, x13, x14, x15, x16, x17, x18, x19, x20, x21, x22, x23, x24, x25, x26, .int .i64 0, .bool true, .bool true, .slice po no co, .agg (U (hx 1)).toArray, .agg (U (hx 2)).toArray, .agg (U (hx 3)).toArray, .slice (some ⟨s34, 0, none⟩) 3 3, .bool true, .bool true, .bool true, .slice ad 3 3, .agg (U (hx 3)).toArray, .slice p40 n40 c40, .agg (U (hx 1)).toArray, .agg (U (hx 2)).toArray, .slice (some ⟨s43, 0, none⟩) 2 2, .bool true, .bool true, .bool true, .slice ad 3 3, .agg (U (hx 1)).toArray, .slice p49 n49 c49, .agg (U (hx 2)).toArray, .agg (U (hx 3)).toArray, .slice (some ⟨s52, 0, none⟩) 2 2, .bool true, .bool true, .bool true, .slice ad 3 3, .bool true, .bool true, .bool true, .slice ad 3 3, .slice p61 0 c61, .int .i64 0, .bool true, .bool true, .bool true, .bool true], defers := ds } V)) :
    wpAnyH Try.prog .any livesOps (QN Q) (fun V => Below A.heap.size A V) 15 #[true, true, true, true, true, true, true, true, true, true, true, true, true, true, true, true, true, true, true, true, true, true, true, true, true, true, false, false, false, false, false, false, false, false, false, false, false, false, false, false, false] { tmps := #[x0, .pointer (some ⟨b1, 0, none⟩), .pointer (some ⟨b2, 0, none⟩), .pointer (some ⟨b3, 0, none⟩), .slice ad 3 3, .slice po no co, .int .i64 0, x7, x8, x9, x10, x11, x12, x13, x14, x15, x16, x17, x18, x19, x20, x21, x22, x23, x24, x25, x26, .int .i64 0, .bool true, .bool true, .slice po no co, .agg (U (hx 1)).toArray, .agg (U (hx 2)).toArray, .agg (U (hx 3)).toArray, .slice (some ⟨s34, 0, none⟩) 3 3, .bool true, .bool true, .bool true, .slice ad 3 3, .agg (U (hx 3)).toArray, .slice p40 n40 c40, .agg (U (hx 1)).toArray, .agg (U (hx 2)).toArray, .slice (some ⟨s43, 0, none⟩) 2 2, .bool true, .bool true, .bool true, .slice ad 3 3, .agg (U (hx 1)).toArray, .slice p49 n49 c49, .agg (U (hx 2)).toArray, .agg (U (hx 3)).toArray, .slice (some ⟨s52, 0, none⟩) 2 2, x53, x54, x55, x56, x57, x58, x59, x60, x61, x62, x63, x64, x65, x66], defers := ds } W := by
  refine wpAnyH_ready (rs := [26]) (by kernel_rfl) (by simp) ?_
  refine AllReadyH.cons (i := 26) (o := { dst := some 53, op := Op.call { callee := Callee.value (Operand.func 13), args := #[Operand.tmp 49, Operand.tmp 52], argTypes := #[26, 26] }, type := 4, pos := "law.go:16", after := #[{ on := 22, ground := Ground.data }, { on := 25, ground := Ground.data }, { on := 22, ground := Ground.chain }, { on := 19, ground := Ground.guard }], guard := some (19, true) }) rfl ?_ AllReadyH.nil
  intro K1 hK1
  rw [if_pos (by rfl)]
  have HC := hashes_true W p49 n49 c49 (some ⟨s52, 0, none⟩) 2 2 _ H49.out.1 H52.out H49.out.2 (by omega)
  go_wp2_with fail
  refine HC.mono ?_
  rintro e V1 ⟨rfl, HBV1⟩
  dsimp only
  refine hK1.out _ _ (hb.out.trans (HBV1.out.mono hb.out.size)) ?_
  clear hK1 HC
  intro _
  try simp only [Act.put, List.setIfInBounds_toArray, List.set_cons_zero, List.set_cons_succ]
  refine wpAnyH_take (i := 27) (oi := { dst := some 54, op := Op.pick (Operand.tmp 46) (Operand.tmp 53) (Operand.const (Value.bool false)), type := 4, pos := "law.go:16", after := #[{ on := 19, ground := Ground.data }, { on := 26, ground := Ground.data }], guard := none }) (v := .bool true) rfl (by kernel_rfl) (by kernel_rfl) (by kernel_rfl) (fun _ _ _ h => (show False from h).elim) (Or.inl ⟨by rfl, ?y1⟩) (hb.out.trans (HBV1.out.mono hb.out.size)) ?_
  case y1 =>
    intro V hV
    go_simp
  simp only [Act.put, List.setIfInBounds_toArray, List.set_cons_zero, List.set_cons_succ]
  refine wpAnyH_take (i := 28) (oi := { dst := some 55, op := Op.move (Operand.tmp 54), type := 4, pos := "law.go:16", after := #[{ on := 27, ground := Ground.data }, { on := 26, ground := Ground.chain }], guard := none }) (v := .bool true) rfl (by kernel_rfl) (by kernel_rfl) (by kernel_rfl) (fun _ _ _ h => (show False from h).elim) (Or.inl ⟨by rfl, ?y2⟩) (hb.out.trans (HBV1.out.mono hb.out.size)) ?_
  case y2 =>
    intro V hV
    go_simp
  simp only [Act.put, List.setIfInBounds_toArray, List.set_cons_zero, List.set_cons_succ]
  refine wpAnyH_take (i := 29) (oi := { dst := some 56, op := Op.move (Operand.tmp 4), type := 22, pos := "law.go:16", after := #[{ on := 28, ground := Ground.guard }], guard := some (28, true) }) (v := .slice ad 3 3) rfl (by kernel_rfl) (by kernel_rfl) (by kernel_rfl) (fun _ _ _ h => (show False from h).elim) (Or.inl ⟨by rfl, ?y3⟩) (hb.out.trans (HBV1.out.mono hb.out.size)) ?_
  case y3 =>
    intro V hV
    go_simp
  simp only [Act.put, List.setIfInBounds_toArray, List.set_cons_zero, List.set_cons_succ]
  refine wpAnyH_ready (rs := [30]) (by kernel_rfl) (by simp) ?_
  refine AllReadyH.cons (i := 30) (o := { dst := some 57, op := Op.call { callee := Callee.value (Operand.func 20), args := #[Operand.tmp 56], argTypes := #[22] }, type := 4, pos := "law.go:16", after := #[{ on := 29, ground := Ground.data }, { on := 28, ground := Ground.chain }, { on := 28, ground := Ground.guard }], guard := some (28, true) }) rfl ?_ AllReadyH.nil
  intro K1 hK1
  rw [if_pos (by rfl)]
  have HC := h20.out V1 (hb.out.trans (HBV1.out.mono hb.out.size))
  go_wp2_with fail
  refine HC.mono ?_
  rintro e V2 ⟨rfl, HBV2⟩
  dsimp only
  refine hK1.out _ _ ((hb.out.trans (HBV1.out.mono hb.out.size)).trans (HBV2.out.mono (hb.out.trans (HBV1.out.mono hb.out.size)).size)) ?_
  clear hK1 HC
  intro _
  try simp only [Act.put, List.setIfInBounds_toArray, List.set_cons_zero, List.set_cons_succ]
  refine wpAnyH_take (i := 31) (oi := { dst := some 58, op := Op.pick (Operand.tmp 55) (Operand.tmp 57) (Operand.const (Value.bool false)), type := 4, pos := "law.go:16", after := #[{ on := 28, ground := Ground.data }, { on := 30, ground := Ground.data }], guard := none }) (v := .bool true) rfl (by kernel_rfl) (by kernel_rfl) (by kernel_rfl) (fun _ _ _ h => (show False from h).elim) (Or.inl ⟨by rfl, ?y4⟩) ((hb.out.trans (HBV1.out.mono hb.out.size)).trans (HBV2.out.mono (hb.out.trans (HBV1.out.mono hb.out.size)).size)) ?_
  case y4 =>
    intro V hV
    go_simp
  simp only [Act.put, List.setIfInBounds_toArray, List.set_cons_zero, List.set_cons_succ]
  refine wpAnyH_take (i := 32) (oi := { dst := some 59, op := Op.move (Operand.tmp 58), type := 4, pos := "law.go:16", after := #[{ on := 31, ground := Ground.data }, { on := 30, ground := Ground.chain }], guard := none }) (v := .bool true) rfl (by kernel_rfl) (by kernel_rfl) (by kernel_rfl) (fun _ _ _ h => (show False from h).elim) (Or.inl ⟨by rfl, ?y5⟩) ((hb.out.trans (HBV1.out.mono hb.out.size)).trans (HBV2.out.mono (hb.out.trans (HBV1.out.mono hb.out.size)).size)) ?_
  case y5 =>
    intro V hV
    go_simp
  simp only [Act.put, List.setIfInBounds_toArray, List.set_cons_zero, List.set_cons_succ]
  refine wpAnyH_take (i := 33) (oi := { dst := some 60, op := Op.move (Operand.tmp 4), type := 22, pos := "law.go:16", after := #[{ on := 32, ground := Ground.guard }], guard := some (32, true) }) (v := .slice ad 3 3) rfl (by kernel_rfl) (by kernel_rfl) (by kernel_rfl) (fun _ _ _ h => (show False from h).elim) (Or.inl ⟨by rfl, ?y6⟩) ((hb.out.trans (HBV1.out.mono hb.out.size)).trans (HBV2.out.mono (hb.out.trans (HBV1.out.mono hb.out.size)).size)) ?_
  case y6 =>
    intro V hV
    go_simp
  simp only [Act.put, List.setIfInBounds_toArray, List.set_cons_zero, List.set_cons_succ]
  refine wpAnyH_ready (rs := [34]) (by kernel_rfl) (by simp) ?_
  refine AllReadyH.cons (i := 34) (o := { dst := some 61, op := Op.call { callee := Callee.value (Operand.func 18), args := #[Operand.tmp 60], argTypes := #[22] }, type := 26, pos := "law.go:16", after := #[{ on := 33, ground := Ground.data }, { on := 32, ground := Ground.chain }, { on := 32, ground := Ground.guard }], guard := some (32, true) }) rfl ?_ AllReadyH.nil
  intro K1 hK1
  rw [if_pos (by rfl)]
  have HC := h18.out V2 ((hb.out.trans (HBV1.out.mono hb.out.size)).trans (HBV2.out.mono (hb.out.trans (HBV1.out.mono hb.out.size)).size))
  go_wp2_with fail
  refine HC.mono ?_
  rintro e V3 ⟨p61, c61, rfl, HBV3⟩
  dsimp only
  refine hK1.out _ _ (((hb.out.trans (HBV1.out.mono hb.out.size)).trans (HBV2.out.mono (hb.out.trans (HBV1.out.mono hb.out.size)).size)).trans (HBV3.out.mono ((hb.out.trans (HBV1.out.mono hb.out.size)).trans (HBV2.out.mono (hb.out.trans (HBV1.out.mono hb.out.size)).size)).size)) ?_
  clear hK1 HC
  intro _
  try simp only [Act.put, List.setIfInBounds_toArray, List.set_cons_zero, List.set_cons_succ]
  refine wpAnyH_take (i := 35) (oi := { dst := some 62, op := Op.call { callee := Callee.builtin Builtin.len, args := #[Operand.tmp 61], argTypes := #[26] }, type := 3, pos := "law.go:16", after := #[{ on := 34, ground := Ground.data }, { on := 32, ground := Ground.guard }], guard := some (32, true) }) (v := .int .i64 0) rfl (by kernel_rfl) (by kernel_rfl) (by kernel_rfl) (fun _ _ _ h => (show False from h).elim) (Or.inl ⟨by rfl, ?y7⟩) (((hb.out.trans (HBV1.out.mono hb.out.size)).trans (HBV2.out.mono (hb.out.trans (HBV1.out.mono hb.out.size)).size)).trans (HBV3.out.mono ((hb.out.trans (HBV1.out.mono hb.out.size)).trans (HBV2.out.mono (hb.out.trans (HBV1.out.mono hb.out.size)).size)).size)) ?_
  case y7 =>
    intro V hV
    go_simp
  simp only [Act.put, List.setIfInBounds_toArray, List.set_cons_zero, List.set_cons_succ]
  refine wpAnyH_take (i := 36) (oi := { dst := some 63, op := Op.binOp BinOp.eql 3 (Operand.tmp 62) (Operand.const (Value.int IntKind.i64 0)) 3, type := 4, pos := "law.go:16", after := #[{ on := 35, ground := Ground.data }, { on := 32, ground := Ground.guard }], guard := some (32, true) }) (v := .bool true) rfl (by kernel_rfl) (by kernel_rfl) (by kernel_rfl) (fun _ _ _ h => (show False from h).elim) (Or.inl ⟨by rfl, ?y8⟩) (((hb.out.trans (HBV1.out.mono hb.out.size)).trans (HBV2.out.mono (hb.out.trans (HBV1.out.mono hb.out.size)).size)).trans (HBV3.out.mono ((hb.out.trans (HBV1.out.mono hb.out.size)).trans (HBV2.out.mono (hb.out.trans (HBV1.out.mono hb.out.size)).size)).size)) ?_
  case y8 =>
    intro V hV
    go_simp
  simp only [Act.put, List.setIfInBounds_toArray, List.set_cons_zero, List.set_cons_succ]
  refine wpAnyH_take (i := 37) (oi := { dst := some 64, op := Op.pick (Operand.tmp 59) (Operand.tmp 63) (Operand.const (Value.bool false)), type := 4, pos := "law.go:16", after := #[{ on := 32, ground := Ground.data }, { on := 36, ground := Ground.data }], guard := none }) (v := .bool true) rfl (by kernel_rfl) (by kernel_rfl) (by kernel_rfl) (fun _ _ _ h => (show False from h).elim) (Or.inl ⟨by rfl, ?y9⟩) (((hb.out.trans (HBV1.out.mono hb.out.size)).trans (HBV2.out.mono (hb.out.trans (HBV1.out.mono hb.out.size)).size)).trans (HBV3.out.mono ((hb.out.trans (HBV1.out.mono hb.out.size)).trans (HBV2.out.mono (hb.out.trans (HBV1.out.mono hb.out.size)).size)).size)) ?_
  case y9 =>
    intro V hV
    go_simp
  simp only [Act.put, List.setIfInBounds_toArray, List.set_cons_zero, List.set_cons_succ]
  refine wpAnyH_take (i := 38) (oi := { dst := some 65, op := Op.move (Operand.tmp 64), type := 4, pos := "law.go:16", after := #[{ on := 37, ground := Ground.data }, { on := 34, ground := Ground.chain }], guard := none }) (v := .bool true) rfl (by kernel_rfl) (by kernel_rfl) (by kernel_rfl) (fun _ _ _ h => (show False from h).elim) (Or.inl ⟨by rfl, ?y10⟩) (((hb.out.trans (HBV1.out.mono hb.out.size)).trans (HBV2.out.mono (hb.out.trans (HBV1.out.mono hb.out.size)).size)).trans (HBV3.out.mono ((hb.out.trans (HBV1.out.mono hb.out.size)).trans (HBV2.out.mono (hb.out.trans (HBV1.out.mono hb.out.size)).size)).size)) ?_
  case y10 =>
    intro V hV
    go_simp
  simp only [Act.put, List.setIfInBounds_toArray, List.set_cons_zero, List.set_cons_succ]
  refine wpAnyH_take (i := 39) (oi := { dst := some 66, op := Op.pick (Operand.tmp 65) (Operand.const (Value.bool true)) (Operand.const (Value.bool false)), type := 4, pos := "law.go:16", after := #[{ on := 38, ground := Ground.data }], guard := none }) (v := .bool true) rfl (by kernel_rfl) (by kernel_rfl) (by kernel_rfl) (fun _ _ _ h => (show False from h).elim) (Or.inl ⟨by rfl, ?y11⟩) (((hb.out.trans (HBV1.out.mono hb.out.size)).trans (HBV2.out.mono (hb.out.trans (HBV1.out.mono hb.out.size)).size)).trans (HBV3.out.mono ((hb.out.trans (HBV1.out.mono hb.out.size)).trans (HBV2.out.mono (hb.out.trans (HBV1.out.mono hb.out.size)).size)).size)) ?_
  case y11 =>
    intro V hV
    go_simp
  simp only [Act.put, List.setIfInBounds_toArray, List.set_cons_zero, List.set_cons_succ]
  refine wpAnyH_take (i := 40) (oi := { dst := some 0, op := Op.assign (Operand.tmp 66), type := 4, pos := "law.go:16", after := #[{ on := 39, ground := Ground.data }, { on := 38, ground := Ground.chain }, { on := 0, ground := Ground.phase }, { on := 1, ground := Ground.phase }, { on := 2, ground := Ground.phase }, { on := 3, ground := Ground.phase }, { on := 4, ground := Ground.phase }, { on := 5, ground := Ground.phase }, { on := 6, ground := Ground.phase }, { on := 7, ground := Ground.phase }, { on := 8, ground := Ground.phase }, { on := 9, ground := Ground.phase }, { on := 10, ground := Ground.phase }, { on := 11, ground := Ground.phase }, { on := 12, ground := Ground.phase }, { on := 13, ground := Ground.phase }, { on := 14, ground := Ground.phase }, { on := 15, ground := Ground.phase }, { on := 16, ground := Ground.phase }, { on := 17, ground := Ground.phase }, { on := 18, ground := Ground.phase }, { on := 19, ground := Ground.phase }, { on := 20, ground := Ground.phase }, { on := 21, ground := Ground.phase }, { on := 22, ground := Ground.phase }, { on := 23, ground := Ground.phase }, { on := 24, ground := Ground.phase }, { on := 25, ground := Ground.phase }, { on := 26, ground := Ground.phase }, { on := 27, ground := Ground.phase }, { on := 28, ground := Ground.phase }, { on := 29, ground := Ground.phase }, { on := 30, ground := Ground.phase }, { on := 31, ground := Ground.phase }, { on := 32, ground := Ground.phase }, { on := 33, ground := Ground.phase }, { on := 34, ground := Ground.phase }, { on := 35, ground := Ground.phase }, { on := 36, ground := Ground.phase }, { on := 37, ground := Ground.phase }, { on := 38, ground := Ground.phase }, { on := 39, ground := Ground.phase }], guard := none }) (v := .bool true) rfl (by kernel_rfl) (by kernel_rfl) (by kernel_rfl) (fun _ _ _ h => (show False from h).elim) (Or.inl ⟨by rfl, ?y12⟩) (((hb.out.trans (HBV1.out.mono hb.out.size)).trans (HBV2.out.mono (hb.out.trans (HBV1.out.mono hb.out.size)).size)).trans (HBV3.out.mono ((hb.out.trans (HBV1.out.mono hb.out.size)).trans (HBV2.out.mono (hb.out.trans (HBV1.out.mono hb.out.size)).size)).size)) ?_
  case y12 =>
    intro V hV
    go_simp
  simp only [Act.put, List.setIfInBounds_toArray, List.set_cons_zero, List.set_cons_succ]
  refine wpAnyH_done (by kernel_rfl) ?_ _
  exact hQ.out s34 p40 n40 c40 s43 p49 n49 c49 s52 p61 c61 V3 (((hb.out.trans (HBV1.out.mono hb.out.size)).trans (HBV2.out.mono (hb.out.trans (HBV1.out.mono hb.out.size)).size)).trans (HBV3.out.mono ((hb.out.trans (HBV1.out.mono hb.out.size)).trans (HBV2.out.mono (hb.out.trans (HBV1.out.mono hb.out.size)).size)).size))
set_option maxRecDepth 100000 in
set_option maxHeartbeats 2000000 in
theorem lv_Z2a {Q : Exit → Act → World → Prop} {ds : List Deferred} {A W : World} {ad po : Option Addr} {no co b1 b2 b3 : Nat} {s34 : Nat} {p40 : Option Addr} {n40 c40 : Nat} {s43 : Nat} {p49 : Option Addr} {n49 c49 : Nat} {x0 x7 x8 x9 x10 x11 x12 x13 x14 x15 x16 x17 x18 x19 x20 x21 x22 x23 x24 x25 x26 x52 x53 x54 x55 x56 x57 x58 x59 x60 x61 x62 x63 x64 x65 x66 : Value}
    (HK : Hid ((A.rangeAt b1 0 (U (hx 1)) ∧ A.rangeAt b2 0 (U (hx 2)) ∧ A.rangeAt b3 0 (U (hx 3))) ∧ b1 < A.heap.size ∧ b2 < A.heap.size ∧ b3 < A.heap.size))
    (h14 : Hid (∀ V, Below A.heap.size A V → Calls Try.prog 14 #[.slice ad 3 3, .agg (U (hx 3)).toArray] V fun e V1 => ∃ p n c, e = .returned (.slice p n c) ∧ Hid (HsR V1 p n [hx 1, hx 2] ∧ n ≤ 100000) ∧ Hid (Below V.heap.size V V1)))
    (h16 : Hid (∀ V, Below A.heap.size A V → Calls Try.prog 16 #[.slice ad 3 3, .agg (U (hx 1)).toArray] V fun e V1 => ∃ p n c, e = .returned (.slice p n c) ∧ Hid (HsR V1 p n [hx 2, hx 3] ∧ n ≤ 100000) ∧ Hid (Below V.heap.size V V1)))
    (h20 : Hid (∀ V, Below A.heap.size A V → Calls Try.prog 20 #[.slice ad 3 3] V fun e V1 => e = .returned (.bool true) ∧ Hid (Below V.heap.size V V1)))
    (h18 : Hid (∀ V, Below A.heap.size A V → Calls Try.prog 18 #[.slice ad 3 3] V fun e V1 => ∃ p c, e = .returned (.slice p 0 c) ∧ Hid (Below V.heap.size V V1))) (hb : Hid (Below A.heap.size A W)) (H49 : Hid (HsR W p49 n49 [hx 2, hx 3] ∧ n49 ≤ 100000))
    (hQ : Hid (∀ (s34 : Nat) (p40 : Option Addr) (n40 c40 s43 : Nat) (p49 : Option Addr) (n49 c49 s52 : Nat) (p61 : Option Addr) (c61 : Nat) (V : World), Below A.heap.size A V → Q .normal { tmps := #[.bool true, .pointer (some ⟨b1, 0, none⟩), .pointer (some ⟨b2, 0, none⟩), .pointer (some ⟨b3, 0, none⟩), .slice ad 3 3, .slice po no co, .int .i64 0, x7, x8, x9, x10, x11, x12, x13, x14, x15, x16, x17, x18, x19, x20, x21, x22, x23, x24, x25, x26, .int .i64 0, .bool true, .bool true, .slice po no co, .agg (U (hx 1)).toArray, .agg (U (hx 2)).toArray, .agg (U (hx 3)).toArray, .slice (some ⟨s34, 0, none⟩) 3 3, .bool true, .bool true, .bool true, .slice ad 3 3, .agg (U (hx 3)).toArray, .slice p40 n40 c40, .agg (U (hx 1)).toArray, .agg (U (hx 2)).toArray, .slice (some ⟨s43, 0, none⟩) 2 2, .bool true, .bool true, .bool true, .slice ad 3 3, .agg (U (hx 1)).toArray, .slice p49 n49 c49, .agg (U (hx 2)).toArray, .agg (U (hx 3)).toArray, .slice (some ⟨s52, 0, none⟩) 2 2, .bool true, .bool true, .bool true, .slice ad 3 3, .bool true, .bool true, .bool true, .slice ad 3 3, .slice p61 0 c61, .int .i64 0, .bool true, .bool true, .bool true, .bool true], defers := ds } V)) :
    wpAnyH Try.prog .any livesOps (QN Q) (fun V => Below A.heap.size A V) 16 #[true, true, true, true, true, true, true, true, true, true, true, true, true, true, true, true, true, true, true, true, true, true, true, true, true, false, false, false, false, false, false, false, false, false, false, false, false, false, false, false, false] { tmps := #[x0, .pointer (some ⟨b1, 0, none⟩), .pointer (some ⟨b2, 0, none⟩), .pointer (some ⟨b3, 0, none⟩), .slice ad 3 3, .slice po no co, .int .i64 0, x7, x8, x9, x10, x11, x12, x13, x14, x15, x16, x17, x18, x19, x20, x21, x22, x23, x24, x25, x26, .int .i64 0, .bool true, .bool true, .slice po no co, .agg (U (hx 1)).toArray, .agg (U (hx 2)).toArray, .agg (U (hx 3)).toArray, .slice (some ⟨s34, 0, none⟩) 3 3, .bool true, .bool true, .bool true, .slice ad 3 3, .agg (U (hx 3)).toArray, .slice p40 n40 c40, .agg (U (hx 1)).toArray, .agg (U (hx 2)).toArray, .slice (some ⟨s43, 0, none⟩) 2 2, .bool true, .bool true, .bool true, .slice ad 3 3, .agg (U (hx 1)).toArray, .slice p49 n49 c49, .agg (U (hx 2)).toArray, .agg (U (hx 3)).toArray, x52, x53, x54, x55, x56, x57, x58, x59, x60, x61, x62, x63, x64, x65, x66], defers := ds } W := by
  refine wpAnyH_ready (rs := [25]) (by kernel_rfl) (by simp) ?_
  refine AllReadyH.cons (i := 25) (o := { dst := some 52, op := Op.buildSlice 26 2 #[(0, Operand.tmp 50), (1, Operand.tmp 51)], type := 26, pos := "law.go:16", after := #[{ on := 23, ground := Ground.data }, { on := 24, ground := Ground.data }, { on := 19, ground := Ground.guard }], guard := some (19, true) }) rfl ?_ AllReadyH.nil
  intro K1 hK1
  rw [if_pos (by rfl)]
  refine wp_bs23 (.tmp 50) (.tmp 51) rfl rfl rfl ?_
  have HBV1 : Hid (Below W.heap.size W (W.alloc (.cells (UU [hx 2, hx 3]).toArray 34))) := below_new W _
  have HNV1 : Hid (HsR (W.alloc (.cells (UU [hx 2, hx 3]).toArray 34)) (some ⟨W.heap.size, 0, none⟩) 2 [hx 2, hx 3]) := HsR.new W [hx 2, hx 3] hx23l
  refine hK1.out _ _ (hb.out.trans (HBV1.out.mono hb.out.size)) ?_
  clear hK1
  intro _
  generalize hGV1 : W.alloc (.cells (UU [hx 2, hx 3]).toArray 34) = V1 at HBV1 HNV1 ⊢
  clear hGV1
  obtain ⟨s52, hs52⟩ : ∃ b, W.heap.size = b := ⟨_, rfl⟩
  rw [hs52] at HNV1 ⊢
  try simp only [Act.put, List.setIfInBounds_toArray, List.set_cons_zero, List.set_cons_succ]
  exact lv_Z3 HK h14 h16 h20 h18 (hb.out.trans (HBV1.out.mono hb.out.size)) (show HsR _ _ _ _ ∧ _ from ⟨H49.out.1.below HBV1.out, H49.out.2⟩) HNV1 hQ
set_option maxRecDepth 100000 in
set_option maxHeartbeats 2000000 in
theorem lv_Z2b {Q : Exit → Act → World → Prop} {ds : List Deferred} {A W : World} {ad po : Option Addr} {no co b1 b2 b3 : Nat} {s34 : Nat} {p40 : Option Addr} {n40 c40 : Nat} {s43 : Nat} {s52 : Nat} {x0 x7 x8 x9 x10 x11 x12 x13 x14 x15 x16 x17 x18 x19 x20 x21 x22 x23 x24 x25 x26 x49 x53 x54 x55 x56 x57 x58 x59 x60 x61 x62 x63 x64 x65 x66 : Value}
    (HK : Hid ((A.rangeAt b1 0 (U (hx 1)) ∧ A.rangeAt b2 0 (U (hx 2)) ∧ A.rangeAt b3 0 (U (hx 3))) ∧ b1 < A.heap.size ∧ b2 < A.heap.size ∧ b3 < A.heap.size))
    (h14 : Hid (∀ V, Below A.heap.size A V → Calls Try.prog 14 #[.slice ad 3 3, .agg (U (hx 3)).toArray] V fun e V1 => ∃ p n c, e = .returned (.slice p n c) ∧ Hid (HsR V1 p n [hx 1, hx 2] ∧ n ≤ 100000) ∧ Hid (Below V.heap.size V V1)))
    (h16 : Hid (∀ V, Below A.heap.size A V → Calls Try.prog 16 #[.slice ad 3 3, .agg (U (hx 1)).toArray] V fun e V1 => ∃ p n c, e = .returned (.slice p n c) ∧ Hid (HsR V1 p n [hx 2, hx 3] ∧ n ≤ 100000) ∧ Hid (Below V.heap.size V V1)))
    (h20 : Hid (∀ V, Below A.heap.size A V → Calls Try.prog 20 #[.slice ad 3 3] V fun e V1 => e = .returned (.bool true) ∧ Hid (Below V.heap.size V V1)))
    (h18 : Hid (∀ V, Below A.heap.size A V → Calls Try.prog 18 #[.slice ad 3 3] V fun e V1 => ∃ p c, e = .returned (.slice p 0 c) ∧ Hid (Below V.heap.size V V1))) (hb : Hid (Below A.heap.size A W)) (H52 : Hid (HsR W (some ⟨s52, 0, none⟩) 2 [hx 2, hx 3]))
    (hQ : Hid (∀ (s34 : Nat) (p40 : Option Addr) (n40 c40 s43 : Nat) (p49 : Option Addr) (n49 c49 s52 : Nat) (p61 : Option Addr) (c61 : Nat) (V : World), Below A.heap.size A V → Q .normal { tmps := #[.bool true, .pointer (some ⟨b1, 0, none⟩), .pointer (some ⟨b2, 0, none⟩), .pointer (some ⟨b3, 0, none⟩), .slice ad 3 3, .slice po no co, .int .i64 0, x7, x8, x9, x10, x11, x12, x13, x14, x15, x16, x17, x18, x19, x20, x21, x22, x23, x24, x25, x26, .int .i64 0, .bool true, .bool true, .slice po no co, .agg (U (hx 1)).toArray, .agg (U (hx 2)).toArray, .agg (U (hx 3)).toArray, .slice (some ⟨s34, 0, none⟩) 3 3, .bool true, .bool true, .bool true, .slice ad 3 3, .agg (U (hx 3)).toArray, .slice p40 n40 c40, .agg (U (hx 1)).toArray, .agg (U (hx 2)).toArray, .slice (some ⟨s43, 0, none⟩) 2 2, .bool true, .bool true, .bool true, .slice ad 3 3, .agg (U (hx 1)).toArray, .slice p49 n49 c49, .agg (U (hx 2)).toArray, .agg (U (hx 3)).toArray, .slice (some ⟨s52, 0, none⟩) 2 2, .bool true, .bool true, .bool true, .slice ad 3 3, .bool true, .bool true, .bool true, .slice ad 3 3, .slice p61 0 c61, .int .i64 0, .bool true, .bool true, .bool true, .bool true], defers := ds } V)) :
    wpAnyH Try.prog .any livesOps (QN Q) (fun V => Below A.heap.size A V) 16 #[true, true, true, true, true, true, true, true, true, true, true, true, true, true, true, true, true, true, true, true, true, true, false, true, true, true, false, false, false, false, false, false, false, false, false, false, false, false, false, false, false] { tmps := #[x0, .pointer (some ⟨b1, 0, none⟩), .pointer (some ⟨b2, 0, none⟩), .pointer (some ⟨b3, 0, none⟩), .slice ad 3 3, .slice po no co, .int .i64 0, x7, x8, x9, x10, x11, x12, x13, x14, x15, x16, x17, x18, x19, x20, x21, x22, x23, x24, x25, x26, .int .i64 0, .bool true, .bool true, .slice po no co, .agg (U (hx 1)).toArray, .agg (U (hx 2)).toArray, .agg (U (hx 3)).toArray, .slice (some ⟨s34, 0, none⟩) 3 3, .bool true, .bool true, .bool true, .slice ad 3 3, .agg (U (hx 3)).toArray, .slice p40 n40 c40, .agg (U (hx 1)).toArray, .agg (U (hx 2)).toArray, .slice (some ⟨s43, 0, none⟩) 2 2, .bool true, .bool true, .bool true, .slice ad 3 3, .agg (U (hx 1)).toArray, x49, .agg (U (hx 2)).toArray, .agg (U (hx 3)).toArray, .slice (some ⟨s52, 0, none⟩) 2 2, x53, x54, x55, x56, x57, x58, x59, x60, x61, x62, x63, x64, x65, x66], defers := ds } W := by
  refine wpAnyH_ready (rs := [22]) (by kernel_rfl) (by simp) ?_
  refine AllReadyH.cons (i := 22) (o := { dst := some 49, op := Op.call { callee := Callee.value (Operand.func 16), args := #[Operand.tmp 47, Operand.tmp 48], argTypes := #[22, 34] }, type := 26, pos := "law.go:16", after := #[{ on := 20, ground := Ground.data }, { on := 21, ground := Ground.data }, { on := 19, ground := Ground.chain }, { on := 19, ground := Ground.guard }], guard := some (19, true) }) rfl ?_ AllReadyH.nil
  intro K1 hK1
  rw [if_pos (by rfl)]
  have HC := h16.out W hb.out
  go_wp2_with fail
  refine HC.mono ?_
  rintro e V1 ⟨p49, n49, c49, rfl, HNV1, HBV1⟩
  dsimp only
  refine hK1.out _ _ (hb.out.trans (HBV1.out.mono hb.out.size)) ?_
  clear hK1 HC
  intro _
  try simp only [Act.put, List.setIfInBounds_toArray, List.set_cons_zero, List.set_cons_succ]
  exact lv_Z3 HK h14 h16 h20 h18 (hb.out.trans (HBV1.out.mono hb.out.size)) HNV1 (show HsR _ _ _ _ from H52.out.below HBV1.out) hQ
set_option maxRecDepth 100000 in
set_option maxHeartbeats 2000000 in
theorem lv_Z2 {Q : Exit → Act → World → Prop} {ds : List Deferred} {A W : World} {ad po : Option Addr} {no co b1 b2 b3 : Nat} {s34 : Nat} {p40 : Option Addr} {n40 c40 : Nat} {s43 : Nat} {x0 x7 x8 x9 x10 x11 x12 x13 x14 x15 x16 x17 x18 x19 x20 x21 x22 x23 x24 x25 x26 x49 x52 x53 x54 x55 x56 x57 x58 x59 x60 x61 x62 x63 x64 x65 x66 : Value}
    (HK : Hid ((A.rangeAt b1 0 (U (hx 1)) ∧ A.rangeAt b2 0 (U (hx 2)) ∧ A.rangeAt b3 0 (U (hx 3))) ∧ b1 < A.heap.size ∧ b2 < A.heap.size ∧ b3 < A.heap.size))
    (h14 : Hid (∀ V, Below A.heap.size A V → Calls Try.prog 14 #[.slice ad 3 3, .agg (U (hx 3)).toArray] V fun e V1 => ∃ p n c, e = .returned (.slice p n c) ∧ Hid (HsR V1 p n [hx 1, hx 2] ∧ n ≤ 100000) ∧ Hid (Below V.heap.size V V1)))
    (h16 : Hid (∀ V, Below A.heap.size A V → Calls Try.prog 16 #[.slice ad 3 3, .agg (U (hx 1)).toArray] V fun e V1 => ∃ p n c, e = .returned (.slice p n c) ∧ Hid (HsR V1 p n [hx 2, hx 3] ∧ n ≤ 100000) ∧ Hid (Below V.heap.size V V1)))
    (h20 : Hid (∀ V, Below A.heap.size A V → Calls Try.prog 20 #[.slice ad 3 3] V fun e V1 => e = .returned (.bool true) ∧ Hid (Below V.heap.size V V1)))
    (h18 : Hid (∀ V, Below A.heap.size A V → Calls Try.prog 18 #[.slice ad 3 3] V fun e V1 => ∃ p c, e = .returned (.slice p 0 c) ∧ Hid (Below V.heap.size V V1))) (hb : Hid (Below A.heap.size A W)) 
    (hQ : Hid (∀ (s34 : Nat) (p40 : Option Addr) (n40 c40 s43 : Nat) (p49 : Option Addr) (n49 c49 s52 : Nat) (p61 : Option Addr) (c61 : Nat) (V : World), Below A.heap.size A V → Q .normal { tmps := #[.bool true, .pointer (some ⟨b1, 0, none⟩), .pointer (some ⟨b2, 0, none⟩), .pointer (some ⟨b3, 0, none⟩), .slice ad 3 3, .slice po no co, .int .i64 0, x7, x8, x9, x10, x11, x12, x13, x14, x15, x16, x17, x18, x19, x20, x21, x22, x23, x24, x25, x26, .int .i64 0, .bool true, .bool true, .slice po no co, .agg (U (hx 1)).toArray, .agg (U (hx 2)).toArray, .agg (U (hx 3)).toArray, .slice (some ⟨s34, 0, none⟩) 3 3, .bool true, .bool true, .bool true, .slice ad 3 3, .agg (U (hx 3)).toArray, .slice p40 n40 c40, .agg (U (hx 1)).toArray, .agg (U (hx 2)).toArray, .slice (some ⟨s43, 0, none⟩) 2 2, .bool true, .bool true, .bool true, .slice ad 3 3, .agg (U (hx 1)).toArray, .slice p49 n49 c49, .agg (U (hx 2)).toArray, .agg (U (hx 3)).toArray, .slice (some ⟨s52, 0, none⟩) 2 2, .bool true, .bool true, .bool true, .slice ad 3 3, .bool true, .bool true, .bool true, .slice ad 3 3, .slice p61 0 c61, .int .i64 0, .bool true, .bool true, .bool true, .bool true], defers := ds } V)) :
    wpAnyH Try.prog .any livesOps (QN Q) (fun V => Below A.heap.size A V) 17 #[true, true, true, true, true, true, true, true, true, true, true, true, true, true, true, true, true, true, true, true, true, true, false, true, true, false, false, false, false, false, false, false, false, false, false, false, false, false, false, false, false] { tmps := #[x0, .pointer (some ⟨b1, 0, none⟩), .pointer (some ⟨b2, 0, none⟩), .pointer (some ⟨b3, 0, none⟩), .slice ad 3 3, .slice po no co, .int .i64 0, x7, x8, x9, x10, x11, x12, x13, x14, x15, x16, x17, x18, x19, x20, x21, x22, x23, x24, x25, x26, .int .i64 0, .bool true, .bool true, .slice po no co, .agg (U (hx 1)).toArray, .agg (U (hx 2)).toArray, .agg (U (hx 3)).toArray, .slice (some ⟨s34, 0, none⟩) 3 3, .bool true, .bool true, .bool true, .slice ad 3 3, .agg (U (hx 3)).toArray, .slice p40 n40 c40, .agg (U (hx 1)).toArray, .agg (U (hx 2)).toArray, .slice (some ⟨s43, 0, none⟩) 2 2, .bool true, .bool true, .bool true, .slice ad 3 3, .agg (U (hx 1)).toArray, x49, .agg (U (hx 2)).toArray, .agg (U (hx 3)).toArray, x52, x53, x54, x55, x56, x57, x58, x59, x60, x61, x62, x63, x64, x65, x66], defers := ds } W := by
  refine wpAnyH_ready (rs := [22, 25]) (by kernel_rfl) (by simp) ?_
  refine AllReadyH.cons (i := 22) (o := { dst := some 49, op := Op.call { callee := Callee.value (Operand.func 16), args := #[Operand.tmp 47, Operand.tmp 48], argTypes := #[22, 34] }, type := 26, pos := "law.go:16", after := #[{ on := 20, ground := Ground.data }, { on := 21, ground := Ground.data }, { on := 19, ground := Ground.chain }, { on := 19, ground := Ground.guard }], guard := some (19, true) }) rfl ?_ (AllReadyH.cons (i := 25) (o := { dst := some 52, op := Op.buildSlice 26 2 #[(0, Operand.tmp 50), (1, Operand.tmp 51)], type := 26, pos := "law.go:16", after := #[{ on := 23, ground := Ground.data }, { on := 24, ground := Ground.data }, { on := 19, ground := Ground.guard }], guard := some (19, true) }) rfl ?_ AllReadyH.nil)
  · intro K1 hK1
    rw [if_pos (by rfl)]
    have HC := h16.out W hb.out
    go_wp2_with fail
    refine HC.mono ?_
    rintro e V1 ⟨p49, n49, c49, rfl, HNV1, HBV1⟩
    dsimp only
    refine hK1.out _ _ (hb.out.trans (HBV1.out.mono hb.out.size)) ?_
    clear hK1 HC
    intro _
    try simp only [Act.put, List.setIfInBounds_toArray, List.set_cons_zero, List.set_cons_succ]
    exact lv_Z2a HK h14 h16 h20 h18 (hb.out.trans (HBV1.out.mono hb.out.size)) HNV1 hQ
  · intro K1 hK1
    rw [if_pos (by rfl)]
    refine wp_bs23 (.tmp 50) (.tmp 51) rfl rfl rfl ?_
    have HBV1 : Hid (Below W.heap.size W (W.alloc (.cells (UU [hx 2, hx 3]).toArray 34))) := below_new W _
    have HNV1 : Hid (HsR (W.alloc (.cells (UU [hx 2, hx 3]).toArray 34)) (some ⟨W.heap.size, 0, none⟩) 2 [hx 2, hx 3]) := HsR.new W [hx 2, hx 3] hx23l
    refine hK1.out _ _ (hb.out.trans (HBV1.out.mono hb.out.size)) ?_
    clear hK1
    intro _
    generalize hGV1 : W.alloc (.cells (UU [hx 2, hx 3]).toArray 34) = V1 at HBV1 HNV1 ⊢
    clear hGV1
    obtain ⟨s52, hs52⟩ : ∃ b, W.heap.size = b := ⟨_, rfl⟩
    rw [hs52] at HNV1 ⊢
    try simp only [Act.put, List.setIfInBounds_toArray, List.set_cons_zero, List.set_cons_succ]
    exact lv_Z2b HK h14 h16 h20 h18 (hb.out.trans (HBV1.out.mono hb.out.size)) HNV1 hQ
set_option maxRecDepth 100000 in
set_option maxHeartbeats 2000000 in
theorem lv_Y3 {Q : Exit → Act → World → Prop} {ds : List Deferred} {A W : World} {ad po : Option Addr} {no co b1 b2 b3 : Nat} {s34 : Nat} {p40 : Option Addr} {n40 c40 : Nat} {s43 : Nat} {x0 x7 x8 x9 x10 x11 x12 x13 x14 x15 x16 x17 x18 x19 x20 x21 x22 x23 x24 x25 x26 x44 x45 x46 x47 x48 x49 x50 x51 x52 x53 x54 x55 x56 x57 x58 x59 x60 x61 x62 x63 x64 x65 x66 : Value}
    (HK : Hid ((A.rangeAt b1 0 (U (hx 1)) ∧ A.rangeAt b2 0 (U (hx 2)) ∧ A.rangeAt b3 0 (U (hx 3))) ∧ b1 < A.heap.size ∧ b2 < A.heap.size ∧ b3 < A.heap.size))
    (h14 : Hid (∀ V, Below A.heap.size A V → Calls Try.prog 14 #[.slice ad 3 3, .agg (U (hx 3)).toArray] V fun e V1 => ∃ p n c, e = .returned (.slice p n c) ∧ Hid (HsR V1 p n [hx 1, hx 2] ∧ n ≤ 100000) ∧ Hid (Below V.heap.size V V1)))
    (h16 : Hid (∀ V, Below A.heap.size A V → Calls Try.prog 16 #[.slice ad 3 3, .agg (U (hx 1)).toArray] V fun e V1 => ∃ p n c, e = .returned (.slice p n c) ∧ Hid (HsR V1 p n [hx 2, hx 3] ∧ n ≤ 100000) ∧ Hid (Below V.heap.size V V1)))
    (h20 : Hid (∀ V, Below A.heap.size A V → Calls Try.prog 20 #[.slice ad 3 3] V fun e V1 => e = .returned (.bool true) ∧ Hid (Below V.heap.size V V1)))
    (h18 : Hid (∀ V, Below A.heap.size A V → Calls Try.prog 18 #[.slice ad 3 3] V fun e V1 => ∃ p c, e = .returned (.slice p 0 c) ∧ Hid (Below V.heap.size V V1))) (hb : Hid (Below A.heap.size A W)) (H40 : Hid (HsR W p40 n40 [hx 1, hx 2] ∧ n40 ≤ 100000)) (H43 : Hid (HsR W (some ⟨s43, 0, none⟩) 2 [hx 1, hx 2]))
    (hQ : Hid (∀ (s34 : Nat) (p40 : Option Addr) (n40 c40 s43 : Nat) (p49 : Option Addr) (n49 c49 s52 : Nat) (p61 : Option Addr) (c61 : Nat) (V : World), Below A.heap.size A V → Q .normal { tmps := #[.bool true, .pointer (some ⟨b1, 0, none⟩), .pointer (some ⟨b2, 0, none⟩), .pointer (some ⟨b3, 0, none⟩), .slice ad 3 3, .slice po no co, .int .i64 0, x7, x8, x9, x10, x11, x12, x13, x14, x15, x16, x17, x18, x19, x20, x21, x22, x23, x24, x25, x26, .int .i64 0, .bool true, .bool true, .slice po no co, .agg (U (hx 1)).toArray, .agg (U (hx 2)).toArray, .agg (U (hx 3)).toArray, .slice (some ⟨s34, 0, none⟩) 3 3, .bool true, .bool true, .bool true, .slice ad 3 3, .agg (U (hx 3)).toArray, .slice p40 n40 c40, .agg (U (hx 1)).toArray, .agg (U (hx 2)).toArray, .slice (some ⟨s43, 0, none⟩) 2 2, .bool true, .bool true, .bool true, .slice ad 3 3, .agg (U (hx 1)).toArray, .slice p49 n49 c49, .agg (U (hx 2)).toArray, .agg (U (hx 3)).toArray, .slice (some ⟨s52, 0, none⟩) 2 2, .bool true, .bool true, .bool true, .slice ad 3 3, .bool true, .bool true, .bool true, .slice ad 3 3, .slice p61 0 c61, .int .i64 0, .bool true, .bool true, .bool true, .bool true], defers := ds } V)) :
    wpAnyH Try.prog .any livesOps (QN Q) (fun V => Below A.heap.size A V) 24 #[true, true, true, true, true, true, true, true, true, true, true, true, true, true, true, true, true, false, false, false, false, false, false, false, false, false, false, false, false, false, false, false, false, false, false, false, false, false, false, false, false] { tmps := #[x0, .pointer (some ⟨b1, 0, none⟩), .pointer (some ⟨b2, 0, none⟩), .pointer (some ⟨b3, 0, none⟩), .slice ad 3 3, .slice po no co, .int .i64 0, x7, x8, x9, x10, x11, x12, x13, x14, x15, x16, x17, x18, x19, x20, x21, x22, x23, x24, x25, x26, .int .i64 0, .bool true, .bool true, .slice po no co, .agg (U (hx 1)).toArray, .agg (U (hx 2)).toArray, .agg (U (hx 3)).toArray, .slice (some ⟨s34, 0, none⟩) 3 3, .bool true, .bool true, .bool true, .slice ad 3 3, .agg (U (hx 3)).toArray, .slice p40 n40 c40, .agg (U (hx 1)).toArray, .agg (U (hx 2)).toArray, .slice (some ⟨s43, 0, none⟩) 2 2, x44, x45, x46, x47, x48, x49, x50, x51, x52, x53, x54, x55, x56, x57, x58, x59, x60, x61, x62, x63, x64, x65, x66], defers := ds } W := by
  refine wpAnyH_ready (rs := [17]) (by kernel_rfl) (by simp) ?_
  refine AllReadyH.cons (i := 17) (o := { dst := some 44, op := Op.call { callee := Callee.value (Operand.func 13), args := #[Operand.tmp 40, Operand.tmp 43], argTypes := #[26, 26] }, type := 4, pos := "law.go:16", after := #[{ on := 13, ground := Ground.data }, { on := 16, ground := Ground.data }, { on := 13, ground := Ground.chain }, { on := 10, ground := Ground.guard }], guard := some (10, true) }) rfl ?_ AllReadyH.nil
  intro K1 hK1
  rw [if_pos (by rfl)]
  have HC := hashes_true W p40 n40 c40 (some ⟨s43, 0, none⟩) 2 2 _ H40.out.1 H43.out H40.out.2 (by omega)
  go_wp2_with fail
  refine HC.mono ?_
  rintro e V1 ⟨rfl, HBV1⟩
  dsimp only
  refine hK1.out _ _ (hb.out.trans (HBV1.out.mono hb.out.size)) ?_
  clear hK1 HC
  intro _
  try simp only [Act.put, List.setIfInBounds_toArray, List.set_cons_zero, List.set_cons_succ]
  refine wpAnyH_take (i := 18) (oi := { dst := some 45, op := Op.pick (Operand.tmp 37) (Operand.tmp 44) (Operand.const (Value.bool false)), type := 4, pos := "law.go:16", after := #[{ on := 10, ground := Ground.data }, { on := 17, ground := Ground.data }], guard := none }) (v := .bool true) rfl (by kernel_rfl) (by kernel_rfl) (by kernel_rfl) (fun _ _ _ h => (show False from h).elim) (Or.inl ⟨by rfl, ?y13⟩) (hb.out.trans (HBV1.out.mono hb.out.size)) ?_
  case y13 =>
    intro V hV
    go_simp
  simp only [Act.put, List.setIfInBounds_toArray, List.set_cons_zero, List.set_cons_succ]
  refine wpAnyH_take (i := 19) (oi := { dst := some 46, op := Op.move (Operand.tmp 45), type := 4, pos := "law.go:16", after := #[{ on := 18, ground := Ground.data }, { on := 17, ground := Ground.chain }], guard := none }) (v := .bool true) rfl (by kernel_rfl) (by kernel_rfl) (by kernel_rfl) (fun _ _ _ h => (show False from h).elim) (Or.inl ⟨by rfl, ?y14⟩) (hb.out.trans (HBV1.out.mono hb.out.size)) ?_
  case y14 =>
    intro V hV
    go_simp
  simp only [Act.put, List.setIfInBounds_toArray, List.set_cons_zero, List.set_cons_succ]
  refine wpAnyH_take (i := 20) (oi := { dst := some 47, op := Op.move (Operand.tmp 4), type := 22, pos := "law.go:16", after := #[{ on := 19, ground := Ground.guard }], guard := some (19, true) }) (v := .slice ad 3 3) rfl (by kernel_rfl) (by kernel_rfl) (by kernel_rfl) (fun _ _ _ h => (show False from h).elim) (Or.inl ⟨by rfl, ?y15⟩) (hb.out.trans (HBV1.out.mono hb.out.size)) ?_
  case y15 =>
    intro V hV
    go_simp
  simp only [Act.put, List.setIfInBounds_toArray, List.set_cons_zero, List.set_cons_succ]
  refine wpAnyH_take (i := 21) (oi := { dst := some 48, op := Op.load 34 (Operand.tmp 1), type := 34, pos := "law.go:16", after := #[{ on := 19, ground := Ground.guard }], guard := some (19, true) }) (v := .agg (U (hx 1)).toArray) rfl (by kernel_rfl) (by kernel_rfl) (by kernel_rfl) (fun _ _ _ h => (show False from h).elim) (yieldsIf_load_mid (by rfl) _ _ rfl _ _ rfl (U (hx 1)) _ (fun V hV => rangeAt_same HK.out.1.1 ((show Below A.heap.size A V from hV).block _ HK.out.2.1)) Try.underlying34 rfl (info34 (hx 1) (hx_len 1))) (hb.out.trans (HBV1.out.mono hb.out.size)) ?_
  simp only [Act.put, List.setIfInBounds_toArray, List.set_cons_zero, List.set_cons_succ]
  refine wpAnyH_take (i := 23) (oi := { dst := some 50, op := Op.load 34 (Operand.tmp 2), type := 34, pos := "law.go:16", after := #[{ on := 19, ground := Ground.guard }], guard := some (19, true) }) (v := .agg (U (hx 2)).toArray) rfl (by kernel_rfl) (by kernel_rfl) (by kernel_rfl) (fun _ _ _ h => (show False from h).elim) (yieldsIf_load_mid (by rfl) _ _ rfl _ _ rfl (U (hx 2)) _ (fun V hV => rangeAt_same HK.out.1.2.1 ((show Below A.heap.size A V from hV).block _ HK.out.2.2.1)) Try.underlying34 rfl (info34 (hx 2) (hx_len 2))) (hb.out.trans (HBV1.out.mono hb.out.size)) ?_
  simp only [Act.put, List.setIfInBounds_toArray, List.set_cons_zero, List.set_cons_succ]
  refine wpAnyH_take (i := 24) (oi := { dst := some 51, op := Op.load 34 (Operand.tmp 3), type := 34, pos := "law.go:16", after := #[{ on := 19, ground := Ground.guard }], guard := some (19, true) }) (v := .agg (U (hx 3)).toArray) rfl (by kernel_rfl) (by kernel_rfl) (by kernel_rfl) (fun _ _ _ h => (show False from h).elim) (yieldsIf_load_mid (by rfl) _ _ rfl _ _ rfl (U (hx 3)) _ (fun V hV => rangeAt_same HK.out.1.2.2 ((show Below A.heap.size A V from hV).block _ HK.out.2.2.2)) Try.underlying34 rfl (info34 (hx 3) (hx_len 3))) (hb.out.trans (HBV1.out.mono hb.out.size)) ?_
  simp only [Act.put, List.setIfInBounds_toArray, List.set_cons_zero, List.set_cons_succ]
  exact lv_Z2 HK h14 h16 h20 h18 (hb.out.trans (HBV1.out.mono hb.out.size)) hQ
set_option maxRecDepth 100000 in
set_option maxHeartbeats 2000000 in
theorem lv_Y2a {Q : Exit → Act → World → Prop} {ds : List Deferred} {A W : World} {ad po : Option Addr} {no co b1 b2 b3 : Nat} {s34 : Nat} {p40 : Option Addr} {n40 c40 : Nat} {x0 x7 x8 x9 x10 x11 x12 x13 x14 x15 x16 x17 x18 x19 x20 x21 x22 x23 x24 x25 x26 x43 x44 x45 x46 x47 x48 x49 x50 x51 x52 x53 x54 x55 x56 x57 x58 x59 x60 x61 x62 x63 x64 x65 x66 : Value}
    (HK : Hid ((A.rangeAt b1 0 (U (hx 1)) ∧ A.rangeAt b2 0 (U (hx 2)) ∧ A.rangeAt b3 0 (U (hx 3))) ∧ b1 < A.heap.size ∧ b2 < A.heap.size ∧ b3 < A.heap.size))
    (h14 : Hid (∀ V, Below A.heap.size A V → Calls Try.prog 14 #[.slice ad 3 3, .agg (U (hx 3)).toArray] V fun e V1 => ∃ p n c, e = .returned (.slice p n c) ∧ Hid (HsR V1 p n [hx 1, hx 2] ∧ n ≤ 100000) ∧ Hid (Below V.heap.size V V1)))
    (h16 : Hid (∀ V, Below A.heap.size A V → Calls Try.prog 16 #[.slice ad 3 3, .agg (U (hx 1)).toArray] V fun e V1 => ∃ p n c, e = .returned (.slice p n c) ∧ Hid (HsR V1 p n [hx 2, hx 3] ∧ n ≤ 100000) ∧ Hid (Below V.heap.size V V1)))
    (h20 : Hid (∀ V, Below A.heap.size A V → Calls Try.prog 20 #[.slice ad 3 3] V fun e V1 => e = .returned (.bool true) ∧ Hid (Below V.heap.size V V1)))
    (h18 : Hid (∀ V, Below A.heap.size A V → Calls Try.prog 18 #[.slice ad 3 3] V fun e V1 => ∃ p c, e = .returned (.slice p 0 c) ∧ Hid (Below V.heap.size V V1))) (hb : Hid (Below A.heap.size A W)) (H40 : Hid (HsR W p40 n40 [hx 1, hx 2] ∧ n40 ≤ 100000))
    (hQ : Hid (∀ (s34 : Nat) (p40 : Option Addr) (n40 c40 s43 : Nat) (p49 : Option Addr) (n49 c49 s52 : Nat) (p61 : Option Addr) (c61 : Nat) (V : World), Below A.heap.size A V → Q .normal { tmps := #[.bool true, .pointer (some ⟨b1, 0, none⟩), .pointer (some ⟨b2, 0, none⟩), .pointer (some ⟨b3, 0, none⟩), .slice ad 3 3, .slice po no co, .int .i64 0, x7, x8, x9, x10, x11, x12, x13, x14, x15, x16, x17, x18, x19, x20, x21, x22, x23, x24, x25, x26, .int .i64 0, .bool true, .bool true, .slice po no co, .agg (U (hx 1)).toArray, .agg (U (hx 2)).toArray, .agg (U (hx 3)).toArray, .slice (some ⟨s34, 0, none⟩) 3 3, .bool true, .bool true, .bool true, .slice ad 3 3, .agg (U (hx 3)).toArray, .slice p40 n40 c40, .agg (U (hx 1)).toArray, .agg (U (hx 2)).toArray, .slice (some ⟨s43, 0, none⟩) 2 2, .bool true, .bool true, .bool true, .slice ad 3 3, .agg (U (hx 1)).toArray, .slice p49 n49 c49, .agg (U (hx 2)).toArray, .agg (U (hx 3)).toArray, .slice (some ⟨s52, 0, none⟩) 2 2, .bool true, .bool true, .bool true, .slice ad 3 3, .bool true, .bool true, .bool true, .slice ad 3 3, .slice p61 0 c61, .int .i64 0, .bool true, .bool true, .bool true, .bool true], defers := ds } V)) :
    wpAnyH Try.prog .any livesOps (QN Q) (fun V => Below A.heap.size A V) 25 #[true, true, true, true, true, true, true, true, true, true, true, true, true, true, true, true, false, false, false, false, false, false, false, false, false, false, false, false, false, false, false, false, false, false, false, false, false, false, false, false, false] { tmps := #[x0, .pointer (some ⟨b1, 0, none⟩), .pointer (some ⟨b2, 0, none⟩), .pointer (some ⟨b3, 0, none⟩), .slice ad 3 3, .slice po no co, .int .i64 0, x7, x8, x9, x10, x11, x12, x13, x14, x15, x16, x17, x18, x19, x20, x21, x22, x23, x24, x25, x26, .int .i64 0, .bool true, .bool true, .slice po no co, .agg (U (hx 1)).toArray, .agg (U (hx 2)).toArray, .agg (U (hx 3)).toArray, .slice (some ⟨s34, 0, none⟩) 3 3, .bool true, .bool true, .bool true, .slice ad 3 3, .agg (U (hx 3)).toArray, .slice p40 n40 c40, .agg (U (hx 1)).toArray, .agg (U (hx 2)).toArray, x43, x44, x45, x46, x47, x48, x49, x50, x51, x52, x53, x54, x55, x56, x57, x58, x59, x60, x61, x62, x63, x64, x65, x66], defers := ds } W := by
  refine wpAnyH_ready (rs := [16]) (by kernel_rfl) (by simp) ?_
  refine AllReadyH.cons (i := 16) (o := { dst := some 43, op := Op.buildSlice 26 2 #[(0, Operand.tmp 41), (1, Operand.tmp 42)], type := 26, pos := "law.go:16", after := #[{ on := 14, ground := Ground.data }, { on := 15, ground := Ground.data }, { on := 10, ground := Ground.guard }], guard := some (10, true) }) rfl ?_ AllReadyH.nil
  intro K1 hK1
  rw [if_pos (by rfl)]
  refine wp_bs12 (.tmp 41) (.tmp 42) rfl rfl rfl ?_
  have HBV1 : Hid (Below W.heap.size W (W.alloc (.cells (UU [hx 1, hx 2]).toArray 34))) := below_new W _
  have HNV1 : Hid (HsR (W.alloc (.cells (UU [hx 1, hx 2]).toArray 34)) (some ⟨W.heap.size, 0, none⟩) 2 [hx 1, hx 2]) := HsR.new W [hx 1, hx 2] hx12l
  refine hK1.out _ _ (hb.out.trans (HBV1.out.mono hb.out.size)) ?_
  clear hK1
  intro _
  generalize hGV1 : W.alloc (.cells (UU [hx 1, hx 2]).toArray 34) = V1 at HBV1 HNV1 ⊢
  clear hGV1
  obtain ⟨s43, hs43⟩ : ∃ b, W.heap.size = b := ⟨_, rfl⟩
  rw [hs43] at HNV1 ⊢
  try simp only [Act.put, List.setIfInBounds_toArray, List.set_cons_zero, List.set_cons_succ]
  exact lv_Y3 HK h14 h16 h20 h18 (hb.out.trans (HBV1.out.mono hb.out.size)) (show HsR _ _ _ _ ∧ _ from ⟨H40.out.1.below HBV1.out, H40.out.2⟩) HNV1 hQ
set_option maxRecDepth 100000 in
set_option maxHeartbeats 2000000 in
theorem lv_Y2b {Q : Exit → Act → World → Prop} {ds : List Deferred} {A W : World} {ad po : Option Addr} {no co b1 b2 b3 : Nat} {s34 : Nat} {s43 : Nat} {x0 x7 x8 x9 x10 x11 x12 x13 x14 x15 x16 x17 x18 x19 x20 x21 x22 x23 x24 x25 x26 x40 x44 x45 x46 x47 x48 x49 x50 x51 x52 x53 x54 x55 x56 x57 x58 x59 x60 x61 x62 x63 x64 x65 x66 : Value}
    (HK : Hid ((A.rangeAt b1 0 (U (hx 1)) ∧ A.rangeAt b2 0 (U (hx 2)) ∧ A.rangeAt b3 0 (U (hx 3))) ∧ b1 < A.heap.size ∧ b2 < A.heap.size ∧ b3 < A.heap.size))
    (h14 : Hid (∀ V, Below A.heap.size A V → Calls Try.prog 14 #[.slice ad 3 3, .agg (U (hx 3)).toArray] V fun e V1 => ∃ p n c, e = .returned (.slice p n c) ∧ Hid (HsR V1 p n [hx 1, hx 2] ∧ n ≤ 100000) ∧ Hid (Below V.heap.size V V1)))
    (h16 : Hid (∀ V, Below A.heap.size A V → Calls Try.prog 16 #[.slice ad 3 3, .agg (U (hx 1)).toArray] V fun e V1 => ∃ p n c, e = .returned (.slice p n c) ∧ Hid (HsR V1 p n [hx 2, hx 3] ∧ n ≤ 100000) ∧ Hid (Below V.heap.size V V1)))
    (h20 : Hid (∀ V, Below A.heap.size A V → Calls Try.prog 20 #[.slice ad 3 3] V fun e V1 => e = .returned (.bool true) ∧ Hid (Below V.heap.size V V1)))
    (h18 : Hid (∀ V, Below A.heap.size A V → Calls Try.prog 18 #[.slice ad 3 3] V fun e V1 => ∃ p c, e = .returned (.slice p 0 c) ∧ Hid (Below V.heap.size V V1))) (hb : Hid (Below A.heap.size A W)) (H43 : Hid (HsR W (some ⟨s43, 0, none⟩) 2 [hx 1, hx 2]))
    (hQ : Hid (∀ (s34 : Nat) (p40 : Option Addr) (n40 c40 s43 : Nat) (p49 : Option Addr) (n49 c49 s52 : Nat) (p61 : Option Addr) (c61 : Nat) (V : World), Below A.heap.size A V → Q .normal { tmps := #[.bool true, .pointer (some ⟨b1, 0, none⟩), .pointer (some ⟨b2, 0, none⟩), .pointer (some ⟨b3, 0, none⟩), .slice ad 3 3, .slice po no co, .int .i64 0, x7, x8, x9, x10, x11, x12, x13, x14, x15, x16, x17, x18, x19, x20, x21, x22, x23, x24, x25, x26, .int .i64 0, .bool true, .bool true, .slice po no co, .agg (U (hx 1)).toArray, .agg (U (hx 2)).toArray, .agg (U (hx 3)).toArray, .slice (some ⟨s34, 0, none⟩) 3 3, .bool true, .bool true, .bool true, .slice ad 3 3, .agg (U (hx 3)).toArray, .slice p40 n40 c40, .agg (U (hx 1)).toArray, .agg (U (hx 2)).toArray, .slice (some ⟨s43, 0, none⟩) 2 2, .bool true, .bool true, .bool true, .slice ad 3 3, .agg (U (hx 1)).toArray, .slice p49 n49 c49, .agg (U (hx 2)).toArray, .agg (U (hx 3)).toArray, .slice (some ⟨s52, 0, none⟩) 2 2, .bool true, .bool true, .bool true, .slice ad 3 3, .bool true, .bool true, .bool true, .slice ad 3 3, .slice p61 0 c61, .int .i64 0, .bool true, .bool true, .bool true, .bool true], defers := ds } V)) :
    wpAnyH Try.prog .any livesOps (QN Q) (fun V => Below A.heap.size A V) 25 #[true, true, true, true, true, true, true, true, true, true, true, true, true, false, true, true, true, false, false, false, false, false, false, false, false, false, false, false, false, false, false, false, false, false, false, false, false, false, false, false, false] { tmps := #[x0, .pointer (some ⟨b1, 0, none⟩), .pointer (some ⟨b2, 0, none⟩), .pointer (some ⟨b3, 0, none⟩), .slice ad 3 3, .slice po no co, .int .i64 0, x7, x8, x9, x10, x11, x12, x13, x14, x15, x16, x17, x18, x19, x20, x21, x22, x23, x24, x25, x26, .int .i64 0, .bool true, .bool true, .slice po no co, .agg (U (hx 1)).toArray, .agg (U (hx 2)).toArray, .agg (U (hx 3)).toArray, .slice (some ⟨s34, 0, none⟩) 3 3, .bool true, .bool true, .bool true, .slice ad 3 3, .agg (U (hx 3)).toArray, x40, .agg (U (hx 1)).toArray, .agg (U (hx 2)).toArray, .slice (some ⟨s43, 0, none⟩) 2 2, x44, x45, x46, x47, x48, x49, x50, x51, x52, x53, x54, x55, x56, x57, x58, x59, x60, x61, x62, x63, x64, x65, x66], defers := ds } W := by
  refine wpAnyH_ready (rs := [13]) (by kernel_rfl) (by simp) ?_
  refine AllReadyH.cons (i := 13) (o := { dst := some 40, op := Op.call { callee := Callee.value (Operand.func 14), args := #[Operand.tmp 38, Operand.tmp 39], argTypes := #[22, 34] }, type := 26, pos := "law.go:16", after := #[{ on := 11, ground := Ground.data }, { on := 12, ground := Ground.data }, { on := 10, ground := Ground.chain }, { on := 10, ground := Ground.guard }], guard := some (10, true) }) rfl ?_ AllReadyH.nil
  intro K1 hK1
  rw [if_pos (by rfl)]
  have HC := h14.out W hb.out
  go_wp2_with fail
  refine HC.mono ?_
  rintro e V1 ⟨p40, n40, c40, rfl, HNV1, HBV1⟩
  dsimp only
  refine hK1.out _ _ (hb.out.trans (HBV1.out.mono hb.out.size)) ?_
  clear hK1 HC
  intro _
  try simp only [Act.put, List.setIfInBounds_toArray, List.set_cons_zero, List.set_cons_succ]
  exact lv_Y3 HK h14 h16 h20 h18 (hb.out.trans (HBV1.out.mono hb.out.size)) HNV1 (show HsR _ _ _ _ from H43.out.below HBV1.out) hQ
set_option maxRecDepth 100000 in
set_option maxHeartbeats 2000000 in
theorem lv_Y2 {Q : Exit → Act → World → Prop} {ds : List Deferred} {A W : World} {ad po : Option Addr} {no co b1 b2 b3 : Nat} {s34 : Nat} {x0 x7 x8 x9 x10 x11 x12 x13 x14 x15 x16 x17 x18 x19 x20 x21 x22 x23 x24 x25 x26 x40 x43 x44 x45 x46 x47 x48 x49 x50 x51 x52 x53 x54 x55 x56 x57 x58 x59 x60 x61 x62 x63 x64 x65 x66 : Value}
    (HK : Hid ((A.rangeAt b1 0 (U (hx 1)) ∧ A.rangeAt b2 0 (U (hx 2)) ∧ A.rangeAt b3 0 (U (hx 3))) ∧ b1 < A.heap.size ∧ b2 < A.heap.size ∧ b3 < A.heap.size))
    (h14 : Hid (∀ V, Below A.heap.size A V → Calls Try.prog 14 #[.slice ad 3 3, .agg (U (hx 3)).toArray] V fun e V1 => ∃ p n c, e = .returned (.slice p n c) ∧ Hid (HsR V1 p n [hx 1, hx 2] ∧ n ≤ 100000) ∧ Hid (Below V.heap.size V V1)))
    (h16 : Hid (∀ V, Below A.heap.size A V → Calls Try.prog 16 #[.slice ad 3 3, .agg (U (hx 1)).toArray] V fun e V1 => ∃ p n c, e = .returned (.slice p n c) ∧ Hid (HsR V1 p n [hx 2, hx 3] ∧ n ≤ 100000) ∧ Hid (Below V.heap.size V V1)))
    (h20 : Hid (∀ V, Below A.heap.size A V → Calls Try.prog 20 #[.slice ad 3 3] V fun e V1 => e = .returned (.bool true) ∧ Hid (Below V.heap.size V V1)))
    (h18 : Hid (∀ V, Below A.heap.size A V → Calls Try.prog 18 #[.slice ad 3 3] V fun e V1 => ∃ p c, e = .returned (.slice p 0 c) ∧ Hid (Below V.heap.size V V1))) (hb : Hid (Below A.heap.size A W)) 
    (hQ : Hid (∀ (s34 : Nat) (p40 : Option Addr) (n40 c40 s43 : Nat) (p49 : Option Addr) (n49 c49 s52 : Nat) (p61 : Option Addr) (c61 : Nat) (V : World), Below A.heap.size A V → Q .normal { tmps := #[.bool true, .pointer (some ⟨b1, 0, none⟩), .pointer (some ⟨b2, 0, none⟩), .pointer (some ⟨b3, 0, none⟩), .slice ad 3 3, .slice po no co, .int .i64 0, x7, x8, x9, x10, x11, x12, x13, x14, x15, x16, x17, x18, x19, x20, x21, x22, x23, x24, x25, x26, .int .i64 0, .bool true, .bool true, .slice po no co, .agg (U (hx 1)).toArray, .agg (U (hx 2)).toArray, .agg (U (hx 3)).toArray, .slice (some ⟨s34, 0, none⟩) 3 3, .bool true, .bool true, .bool true, .slice ad 3 3, .agg (U (hx 3)).toArray, .slice p40 n40 c40, .agg (U (hx 1)).toArray, .agg (U (hx 2)).toArray, .slice (some ⟨s43, 0, none⟩) 2 2, .bool true, .bool true, .bool true, .slice ad 3 3, .agg (U (hx 1)).toArray, .slice p49 n49 c49, .agg (U (hx 2)).toArray, .agg (U (hx 3)).toArray, .slice (some ⟨s52, 0, none⟩) 2 2, .bool true, .bool true, .bool true, .slice ad 3 3, .bool true, .bool true, .bool true, .slice ad 3 3, .slice p61 0 c61, .int .i64 0, .bool true, .bool true, .bool true, .bool true], defers := ds } V)) :
    wpAnyH Try.prog .any livesOps (QN Q) (fun V => Below A.heap.size A V) 26 #[true, true, true, true, true, true, true, true, true, true, true, true, true, false, true, true, false, false, false, false, false, false, false, false, false, false, false, false, false, false, false, false, false, false, false, false, false, false, false, false, false] { tmps := #[x0, .pointer (some ⟨b1, 0, none⟩), .pointer (some ⟨b2, 0, none⟩), .pointer (some ⟨b3, 0, none⟩), .slice ad 3 3, .slice po no co, .int .i64 0, x7, x8, x9, x10, x11, x12, x13, x14, x15, x16, x17, x18, x19, x20, x21, x22, x23, x24, x25, x26, .int .i64 0, .bool true, .bool true, .slice po no co, .agg (U (hx 1)).toArray, .agg (U (hx 2)).toArray, .agg (U (hx 3)).toArray, .slice (some ⟨s34, 0, none⟩) 3 3, .bool true, .bool true, .bool true, .slice ad 3 3, .agg (U (hx 3)).toArray, x40, .agg (U (hx 1)).toArray, .agg (U (hx 2)).toArray, x43, x44, x45, x46, x47, x48, x49, x50, x51, x52, x53, x54, x55, x56, x57, x58, x59, x60, x61, x62, x63, x64, x65, x66], defers := ds } W := by
  refine wpAnyH_ready (rs := [13, 16]) (by kernel_rfl) (by simp) ?_
  refine AllReadyH.cons (i := 13) (o := { dst := some 40, op := Op.call { callee := Callee.value (Operand.func 14), args := #[Operand.tmp 38, Operand.tmp 39], argTypes := #[22, 34] }, type := 26, pos := "law.go:16", after := #[{ on := 11, ground := Ground.data }, { on := 12, ground := Ground.data }, { on := 10, ground := Ground.chain }, { on := 10, ground := Ground.guard }], guard := some (10, true) }) rfl ?_ (AllReadyH.cons (i := 16) (o := { dst := some 43, op := Op.buildSlice 26 2 #[(0, Operand.tmp 41), (1, Operand.tmp 42)], type := 26, pos := "law.go:16", after := #[{ on := 14, ground := Ground.data }, { on := 15, ground := Ground.data }, { on := 10, ground := Ground.guard }], guard := some (10, true) }) rfl ?_ AllReadyH.nil)
  · intro K1 hK1
    rw [if_pos (by rfl)]
    have HC := h14.out W hb.out
    go_wp2_with fail
    refine HC.mono ?_
    rintro e V1 ⟨p40, n40, c40, rfl, HNV1, HBV1⟩
    dsimp only
    refine hK1.out _ _ (hb.out.trans (HBV1.out.mono hb.out.size)) ?_
    clear hK1 HC
    intro _
    try simp only [Act.put, List.setIfInBounds_toArray, List.set_cons_zero, List.set_cons_succ]
    exact lv_Y2a HK h14 h16 h20 h18 (hb.out.trans (HBV1.out.mono hb.out.size)) HNV1 hQ
  · intro K1 hK1
    rw [if_pos (by rfl)]
    refine wp_bs12 (.tmp 41) (.tmp 42) rfl rfl rfl ?_
    have HBV1 : Hid (Below W.heap.size W (W.alloc (.cells (UU [hx 1, hx 2]).toArray 34))) := below_new W _
    have HNV1 : Hid (HsR (W.alloc (.cells (UU [hx 1, hx 2]).toArray 34)) (some ⟨W.heap.size, 0, none⟩) 2 [hx 1, hx 2]) := HsR.new W [hx 1, hx 2] hx12l
    refine hK1.out _ _ (hb.out.trans (HBV1.out.mono hb.out.size)) ?_
    clear hK1
    intro _
    generalize hGV1 : W.alloc (.cells (UU [hx 1, hx 2]).toArray 34) = V1 at HBV1 HNV1 ⊢
    clear hGV1
    obtain ⟨s43, hs43⟩ : ∃ b, W.heap.size = b := ⟨_, rfl⟩
    rw [hs43] at HNV1 ⊢
    try simp only [Act.put, List.setIfInBounds_toArray, List.set_cons_zero, List.set_cons_succ]
    exact lv_Y2b HK h14 h16 h20 h18 (hb.out.trans (HBV1.out.mono hb.out.size)) HNV1 hQ
set_option maxRecDepth 100000 in
set_option maxHeartbeats 2000000 in
theorem lv_X {Q : Exit → Act → World → Prop} {ds : List Deferred} {A W : World} {ad po : Option Addr} {no co b1 b2 b3 : Nat} {x0 x7 x8 x9 x10 x11 x12 x13 x14 x15 x16 x17 x18 x19 x20 x21 x22 x23 x24 x25 x26 x27 x28 x29 x30 x31 x32 x33 x34 x35 x36 x37 x38 x39 x40 x41 x42 x43 x44 x45 x46 x47 x48 x49 x50 x51 x52 x53 x54 x55 x56 x57 x58 x59 x60 x61 x62 x63 x64 x65 x66 : Value}
    (HK : Hid ((A.rangeAt b1 0 (U (hx 1)) ∧ A.rangeAt b2 0 (U (hx 2)) ∧ A.rangeAt b3 0 (U (hx 3))) ∧ b1 < A.heap.size ∧ b2 < A.heap.size ∧ b3 < A.heap.size))
    (h14 : Hid (∀ V, Below A.heap.size A V → Calls Try.prog 14 #[.slice ad 3 3, .agg (U (hx 3)).toArray] V fun e V1 => ∃ p n c, e = .returned (.slice p n c) ∧ Hid (HsR V1 p n [hx 1, hx 2] ∧ n ≤ 100000) ∧ Hid (Below V.heap.size V V1)))
    (h16 : Hid (∀ V, Below A.heap.size A V → Calls Try.prog 16 #[.slice ad 3 3, .agg (U (hx 1)).toArray] V fun e V1 => ∃ p n c, e = .returned (.slice p n c) ∧ Hid (HsR V1 p n [hx 2, hx 3] ∧ n ≤ 100000) ∧ Hid (Below V.heap.size V V1)))
    (h20 : Hid (∀ V, Below A.heap.size A V → Calls Try.prog 20 #[.slice ad 3 3] V fun e V1 => e = .returned (.bool true) ∧ Hid (Below V.heap.size V V1)))
    (h18 : Hid (∀ V, Below A.heap.size A V → Calls Try.prog 18 #[.slice ad 3 3] V fun e V1 => ∃ p c, e = .returned (.slice p 0 c) ∧ Hid (Below V.heap.size V V1))) (hb : Hid (Below A.heap.size A W)) (Ho : Hid (HsR W po no [hx 1, hx 2, hx 3] ∧ no ≤ 100000))
    (hQ : Hid (∀ (s34 : Nat) (p40 : Option Addr) (n40 c40 s43 : Nat) (p49 : Option Addr) (n49 c49 s52 : Nat) (p61 : Option Addr) (c61 : Nat) (V : World), Below A.heap.size A V → Q .normal { tmps := #[.bool true, .pointer (some ⟨b1, 0, none⟩), .pointer (some ⟨b2, 0, none⟩), .pointer (some ⟨b3, 0, none⟩), .slice ad 3 3, .slice po no co, .int .i64 0, x7, x8, x9, x10, x11, x12, x13, x14, x15, x16, x17, x18, x19, x20, x21, x22, x23, x24, x25, x26, .int .i64 0, .bool true, .bool true, .slice po no co, .agg (U (hx 1)).toArray, .agg (U (hx 2)).toArray, .agg (U (hx 3)).toArray, .slice (some ⟨s34, 0, none⟩) 3 3, .bool true, .bool true, .bool true, .slice ad 3 3, .agg (U (hx 3)).toArray, .slice p40 n40 c40, .agg (U (hx 1)).toArray, .agg (U (hx 2)).toArray, .slice (some ⟨s43, 0, none⟩) 2 2, .bool true, .bool true, .bool true, .slice ad 3 3, .agg (U (hx 1)).toArray, .slice p49 n49 c49, .agg (U (hx 2)).toArray, .agg (U (hx 3)).toArray, .slice (some ⟨s52, 0, none⟩) 2 2, .bool true, .bool true, .bool true, .slice ad 3 3, .bool true, .bool true, .bool true, .slice ad 3 3, .slice p61 0 c61, .int .i64 0, .bool true, .bool true, .bool true, .bool true], defers := ds } V)) :
    wpAnyH Try.prog .any livesOps (QN Q) (fun V => Below A.heap.size A V) 41 #[false, false, false, false, false, false, false, false, false, false, false, false, false, false, false, false, false, false, false, false, false, false, false, false, false, false, false, false, false, false, false, false, false, false, false, false, false, false, false, false, false] { tmps := #[x0, .pointer (some ⟨b1, 0, none⟩), .pointer (some ⟨b2, 0, none⟩), .pointer (some ⟨b3, 0, none⟩), .slice ad 3 3, .slice po no co, .int .i64 0, x7, x8, x9, x10, x11, x12, x13, x14, x15, x16, x17, x18, x19, x20, x21, x22, x23, x24, x25, x26, x27, x28, x29, x30, x31, x32, x33, x34, x35, x36, x37, x38, x39, x40, x41, x42, x43, x44, x45, x46, x47, x48, x49, x50, x51, x52, x53, x54, x55, x56, x57, x58, x59, x60, x61, x62, x63, x64, x65, x66], defers := ds } W := by
  refine wpAnyH_take (i := 0) (oi := { dst := some 27, op := Op.move (Operand.tmp 6), type := 27, pos := "law.go:16", after := #[], guard := none }) (v := .int .i64 0) rfl (by kernel_rfl) (by kernel_rfl) (by kernel_rfl) (fun _ _ _ h => (show False from h).elim) (Or.inl ⟨by rfl, ?y19⟩) hb.out ?_
  case y19 =>
    intro V hV
    go_simp
  simp only [Act.put, List.setIfInBounds_toArray, List.set_cons_zero, List.set_cons_succ]
  refine wpAnyH_take (i := 1) (oi := { dst := some 28, op := Op.binOp BinOp.eql 27 (Operand.tmp 27) (Operand.const (Value.int IntKind.i64 0)) 27, type := 4, pos := "law.go:16", after := #[{ on := 0, ground := Ground.data }], guard := none }) (v := .bool true) rfl (by kernel_rfl) (by kernel_rfl) (by kernel_rfl) (fun _ _ _ h => (show False from h).elim) (Or.inl ⟨by rfl, ?y20⟩) hb.out ?_
  case y20 =>
    intro V hV
    go_simp
  simp only [Act.put, List.setIfInBounds_toArray, List.set_cons_zero, List.set_cons_succ]
  refine wpAnyH_take (i := 2) (oi := { dst := some 29, op := Op.move (Operand.tmp 28), type := 4, pos := "law.go:16", after := #[{ on := 1, ground := Ground.data }], guard := none }) (v := .bool true) rfl (by kernel_rfl) (by kernel_rfl) (by kernel_rfl) (fun _ _ _ h => (show False from h).elim) (Or.inl ⟨by rfl, ?y21⟩) hb.out ?_
  case y21 =>
    intro V hV
    go_simp
  simp only [Act.put, List.setIfInBounds_toArray, List.set_cons_zero, List.set_cons_succ]
  refine wpAnyH_take (i := 3) (oi := { dst := some 30, op := Op.move (Operand.tmp 5), type := 26, pos := "law.go:16", after := #[{ on := 2, ground := Ground.guard }], guard := some (2, true) }) (v := .slice po no co) rfl (by kernel_rfl) (by kernel_rfl) (by kernel_rfl) (fun _ _ _ h => (show False from h).elim) (Or.inl ⟨by rfl, ?y22⟩) hb.out ?_
  case y22 =>
    intro V hV
    go_simp
  simp only [Act.put, List.setIfInBounds_toArray, List.set_cons_zero, List.set_cons_succ]
  refine wpAnyH_take (i := 4) (oi := { dst := some 31, op := Op.load 34 (Operand.tmp 1), type := 34, pos := "law.go:16", after := #[{ on := 2, ground := Ground.guard }], guard := some (2, true) }) (v := .agg (U (hx 1)).toArray) rfl (by kernel_rfl) (by kernel_rfl) (by kernel_rfl) (fun _ _ _ h => (show False from h).elim) (yieldsIf_load_mid (by rfl) _ _ rfl _ _ rfl (U (hx 1)) _ (fun V hV => rangeAt_same HK.out.1.1 ((show Below A.heap.size A V from hV).block _ HK.out.2.1)) Try.underlying34 rfl (info34 (hx 1) (hx_len 1))) hb.out ?_
  simp only [Act.put, List.setIfInBounds_toArray, List.set_cons_zero, List.set_cons_succ]
  refine wpAnyH_take (i := 5) (oi := { dst := some 32, op := Op.load 34 (Operand.tmp 2), type := 34, pos := "law.go:16", after := #[{ on := 2, ground := Ground.guard }], guard := some (2, true) }) (v := .agg (U (hx 2)).toArray) rfl (by kernel_rfl) (by kernel_rfl) (by kernel_rfl) (fun _ _ _ h => (show False from h).elim) (yieldsIf_load_mid (by rfl) _ _ rfl _ _ rfl (U (hx 2)) _ (fun V hV => rangeAt_same HK.out.1.2.1 ((show Below A.heap.size A V from hV).block _ HK.out.2.2.1)) Try.underlying34 rfl (info34 (hx 2) (hx_len 2))) hb.out ?_
  simp only [Act.put, List.setIfInBounds_toArray, List.set_cons_zero, List.set_cons_succ]
  refine wpAnyH_take (i := 6) (oi := { dst := some 33, op := Op.load 34 (Operand.tmp 3), type := 34, pos := "law.go:16", after := #[{ on := 2, ground := Ground.guard }], guard := some (2, true) }) (v := .agg (U (hx 3)).toArray) rfl (by kernel_rfl) (by kernel_rfl) (by kernel_rfl) (fun _ _ _ h => (show False from h).elim) (yieldsIf_load_mid (by rfl) _ _ rfl _ _ rfl (U (hx 3)) _ (fun V hV => rangeAt_same HK.out.1.2.2 ((show Below A.heap.size A V from hV).block _ HK.out.2.2.2)) Try.underlying34 rfl (info34 (hx 3) (hx_len 3))) hb.out ?_
  simp only [Act.put, List.setIfInBounds_toArray, List.set_cons_zero, List.set_cons_succ]
  refine wpAnyH_ready (rs := [7]) (by kernel_rfl) (by simp) ?_
  refine AllReadyH.cons (i := 7) (o := { dst := some 34, op := Op.buildSlice 26 3 #[(0, Operand.tmp 31), (1, Operand.tmp 32), (2, Operand.tmp 33)], type := 26, pos := "law.go:16", after := #[{ on := 4, ground := Ground.data }, { on := 5, ground := Ground.data }, { on := 6, ground := Ground.data }, { on := 2, ground := Ground.guard }], guard := some (2, true) }) rfl ?_ AllReadyH.nil
  intro K1 hK1
  rw [if_pos (by rfl)]
  refine wp_bs123 (.tmp 31) (.tmp 32) (.tmp 33) rfl rfl rfl rfl ?_
  have HBV1 : Hid (Below W.heap.size W (W.alloc (.cells (UU [hx 1, hx 2, hx 3]).toArray 34))) := below_new W _
  have HNV1 : Hid (HsR (W.alloc (.cells (UU [hx 1, hx 2, hx 3]).toArray 34)) (some ⟨W.heap.size, 0, none⟩) 3 [hx 1, hx 2, hx 3]) := HsR.new W [hx 1, hx 2, hx 3] hx3l
  refine hK1.out _ _ (hb.out.trans (HBV1.out.mono hb.out.size)) ?_
  clear hK1
  intro _
  generalize hGV1 : W.alloc (.cells (UU [hx 1, hx 2, hx 3]).toArray 34) = V1 at HBV1 HNV1 ⊢
  clear hGV1
  obtain ⟨s34, hs34⟩ : ∃ b, W.heap.size = b := ⟨_, rfl⟩
  rw [hs34] at HNV1 ⊢
  try simp only [Act.put, List.setIfInBounds_toArray, List.set_cons_zero, List.set_cons_succ]
  refine wpAnyH_ready (rs := [8]) (by kernel_rfl) (by simp) ?_
  refine AllReadyH.cons (i := 8) (o := { dst := some 35, op := Op.call { callee := Callee.value (Operand.func 13), args := #[Operand.tmp 30, Operand.tmp 34], argTypes := #[26, 26] }, type := 4, pos := "law.go:16", after := #[{ on := 3, ground := Ground.data }, { on := 7, ground := Ground.data }, { on := 2, ground := Ground.chain }, { on := 2, ground := Ground.guard }], guard := some (2, true) }) rfl ?_ AllReadyH.nil
  intro K1 hK1
  rw [if_pos (by rfl)]
  have HC := hashes_true V1 po no co (some ⟨s34, 0, none⟩) 3 3 _ (Ho.out.1.below HBV1.out) HNV1.out Ho.out.2 (by omega)
  go_wp2_with fail
  refine HC.mono ?_
  rintro e V2 ⟨rfl, HBV2⟩
  dsimp only
  refine hK1.out _ _ ((hb.out.trans (HBV1.out.mono hb.out.size)).trans (HBV2.out.mono (hb.out.trans (HBV1.out.mono hb.out.size)).size)) ?_
  clear hK1 HC
  intro _
  try simp only [Act.put, List.setIfInBounds_toArray, List.set_cons_zero, List.set_cons_succ]
  refine wpAnyH_take (i := 9) (oi := { dst := some 36, op := Op.pick (Operand.tmp 29) (Operand.tmp 35) (Operand.const (Value.bool false)), type := 4, pos := "law.go:16", after := #[{ on := 2, ground := Ground.data }, { on := 8, ground := Ground.data }], guard := none }) (v := .bool true) rfl (by kernel_rfl) (by kernel_rfl) (by kernel_rfl) (fun _ _ _ h => (show False from h).elim) (Or.inl ⟨by rfl, ?y26⟩) ((hb.out.trans (HBV1.out.mono hb.out.size)).trans (HBV2.out.mono (hb.out.trans (HBV1.out.mono hb.out.size)).size)) ?_
  case y26 =>
    intro V hV
    go_simp
  simp only [Act.put, List.setIfInBounds_toArray, List.set_cons_zero, List.set_cons_succ]
  refine wpAnyH_take (i := 10) (oi := { dst := some 37, op := Op.move (Operand.tmp 36), type := 4, pos := "law.go:16", after := #[{ on := 9, ground := Ground.data }, { on := 8, ground := Ground.chain }], guard := none }) (v := .bool true) rfl (by kernel_rfl) (by kernel_rfl) (by kernel_rfl) (fun _ _ _ h => (show False from h).elim) (Or.inl ⟨by rfl, ?y27⟩) ((hb.out.trans (HBV1.out.mono hb.out.size)).trans (HBV2.out.mono (hb.out.trans (HBV1.out.mono hb.out.size)).size)) ?_
  case y27 =>
    intro V hV
    go_simp
  simp only [Act.put, List.setIfInBounds_toArray, List.set_cons_zero, List.set_cons_succ]
  refine wpAnyH_take (i := 11) (oi := { dst := some 38, op := Op.move (Operand.tmp 4), type := 22, pos := "law.go:16", after := #[{ on := 10, ground := Ground.guard }], guard := some (10, true) }) (v := .slice ad 3 3) rfl (by kernel_rfl) (by kernel_rfl) (by kernel_rfl) (fun _ _ _ h => (show False from h).elim) (Or.inl ⟨by rfl, ?y28⟩) ((hb.out.trans (HBV1.out.mono hb.out.size)).trans (HBV2.out.mono (hb.out.trans (HBV1.out.mono hb.out.size)).size)) ?_
  case y28 =>
    intro V hV
    go_simp
  simp only [Act.put, List.setIfInBounds_toArray, List.set_cons_zero, List.set_cons_succ]
  refine wpAnyH_take (i := 12) (oi := { dst := some 39, op := Op.load 34 (Operand.tmp 3), type := 34, pos := "law.go:16", after := #[{ on := 10, ground := Ground.guard }], guard := some (10, true) }) (v := .agg (U (hx 3)).toArray) rfl (by kernel_rfl) (by kernel_rfl) (by kernel_rfl) (fun _ _ _ h => (show False from h).elim) (yieldsIf_load_mid (by rfl) _ _ rfl _ _ rfl (U (hx 3)) _ (fun V hV => rangeAt_same HK.out.1.2.2 ((show Below A.heap.size A V from hV).block _ HK.out.2.2.2)) Try.underlying34 rfl (info34 (hx 3) (hx_len 3))) ((hb.out.trans (HBV1.out.mono hb.out.size)).trans (HBV2.out.mono (hb.out.trans (HBV1.out.mono hb.out.size)).size)) ?_
  simp only [Act.put, List.setIfInBounds_toArray, List.set_cons_zero, List.set_cons_succ]
  refine wpAnyH_take (i := 14) (oi := { dst := some 41, op := Op.load 34 (Operand.tmp 1), type := 34, pos := "law.go:16", after := #[{ on := 10, ground := Ground.guard }], guard := some (10, true) }) (v := .agg (U (hx 1)).toArray) rfl (by kernel_rfl) (by kernel_rfl) (by kernel_rfl) (fun _ _ _ h => (show False from h).elim) (yieldsIf_load_mid (by rfl) _ _ rfl _ _ rfl (U (hx 1)) _ (fun V hV => rangeAt_same HK.out.1.1 ((show Below A.heap.size A V from hV).block _ HK.out.2.1)) Try.underlying34 rfl (info34 (hx 1) (hx_len 1))) ((hb.out.trans (HBV1.out.mono hb.out.size)).trans (HBV2.out.mono (hb.out.trans (HBV1.out.mono hb.out.size)).size)) ?_
  simp only [Act.put, List.setIfInBounds_toArray, List.set_cons_zero, List.set_cons_succ]
  refine wpAnyH_take (i := 15) (oi := { dst := some 42, op := Op.load 34 (Operand.tmp 2), type := 34, pos := "law.go:16", after := #[{ on := 10, ground := Ground.guard }], guard := some (10, true) }) (v := .agg (U (hx 2)).toArray) rfl (by kernel_rfl) (by kernel_rfl) (by kernel_rfl) (fun _ _ _ h => (show False from h).elim) (yieldsIf_load_mid (by rfl) _ _ rfl _ _ rfl (U (hx 2)) _ (fun V hV => rangeAt_same HK.out.1.2.1 ((show Below A.heap.size A V from hV).block _ HK.out.2.2.1)) Try.underlying34 rfl (info34 (hx 2) (hx_len 2))) ((hb.out.trans (HBV1.out.mono hb.out.size)).trans (HBV2.out.mono (hb.out.trans (HBV1.out.mono hb.out.size)).size)) ?_
  simp only [Act.put, List.setIfInBounds_toArray, List.set_cons_zero, List.set_cons_succ]
  exact lv_Y2 HK h14 h16 h20 h18 ((hb.out.trans (HBV1.out.mono hb.out.size)).trans (HBV2.out.mono (hb.out.trans (HBV1.out.mono hb.out.size)).size)) hQ
set_option maxRecDepth 100000 in
set_option maxHeartbeats 2000000 in
theorem lives_region {Q : Exit → Act → World → Prop} {ds : List Deferred} {A : World} {ad po : Option Addr} {no co b1 b2 b3 : Nat} {x0 x7 x8 x9 x10 x11 x12 x13 x14 x15 x16 x17 x18 x19 x20 x21 x22 x23 x24 x25 x26 x27 x28 x29 x30 x31 x32 x33 x34 x35 x36 x37 x38 x39 x40 x41 x42 x43 x44 x45 x46 x47 x48 x49 x50 x51 x52 x53 x54 x55 x56 x57 x58 x59 x60 x61 x62 x63 x64 x65 x66 : Value}
    (HK : Hid ((A.rangeAt b1 0 (U (hx 1)) ∧ A.rangeAt b2 0 (U (hx 2)) ∧ A.rangeAt b3 0 (U (hx 3))) ∧ b1 < A.heap.size ∧ b2 < A.heap.size ∧ b3 < A.heap.size))
    (h14 : Hid (∀ V, Below A.heap.size A V → Calls Try.prog 14 #[.slice ad 3 3, .agg (U (hx 3)).toArray] V fun e V1 => ∃ p n c, e = .returned (.slice p n c) ∧ Hid (HsR V1 p n [hx 1, hx 2] ∧ n ≤ 100000) ∧ Hid (Below V.heap.size V V1)))
    (h16 : Hid (∀ V, Below A.heap.size A V → Calls Try.prog 16 #[.slice ad 3 3, .agg (U (hx 1)).toArray] V fun e V1 => ∃ p n c, e = .returned (.slice p n c) ∧ Hid (HsR V1 p n [hx 2, hx 3] ∧ n ≤ 100000) ∧ Hid (Below V.heap.size V V1)))
    (h20 : Hid (∀ V, Below A.heap.size A V → Calls Try.prog 20 #[.slice ad 3 3] V fun e V1 => e = .returned (.bool true) ∧ Hid (Below V.heap.size V V1)))
    (h18 : Hid (∀ V, Below A.heap.size A V → Calls Try.prog 18 #[.slice ad 3 3] V fun e V1 => ∃ p c, e = .returned (.slice p 0 c) ∧ Hid (Below V.heap.size V V1))) (Ho : Hid (HsR A po no [hx 1, hx 2, hx 3] ∧ no ≤ 100000))
    (hQ : Hid (∀ (s34 : Nat) (p40 : Option Addr) (n40 c40 s43 : Nat) (p49 : Option Addr) (n49 c49 s52 : Nat) (p61 : Option Addr) (c61 : Nat) (V : World), Below A.heap.size A V → Q .normal { tmps := #[.bool true, .pointer (some ⟨b1, 0, none⟩), .pointer (some ⟨b2, 0, none⟩), .pointer (some ⟨b3, 0, none⟩), .slice ad 3 3, .slice po no co, .int .i64 0, x7, x8, x9, x10, x11, x12, x13, x14, x15, x16, x17, x18, x19, x20, x21, x22, x23, x24, x25, x26, .int .i64 0, .bool true, .bool true, .slice po no co, .agg (U (hx 1)).toArray, .agg (U (hx 2)).toArray, .agg (U (hx 3)).toArray, .slice (some ⟨s34, 0, none⟩) 3 3, .bool true, .bool true, .bool true, .slice ad 3 3, .agg (U (hx 3)).toArray, .slice p40 n40 c40, .agg (U (hx 1)).toArray, .agg (U (hx 2)).toArray, .slice (some ⟨s43, 0, none⟩) 2 2, .bool true, .bool true, .bool true, .slice ad 3 3, .agg (U (hx 1)).toArray, .slice p49 n49 c49, .agg (U (hx 2)).toArray, .agg (U (hx 3)).toArray, .slice (some ⟨s52, 0, none⟩) 2 2, .bool true, .bool true, .bool true, .slice ad 3 3, .bool true, .bool true, .bool true, .slice ad 3 3, .slice p61 0 c61, .int .i64 0, .bool true, .bool true, .bool true, .bool true], defers := ds } V)) :
    (Code.region 4 #[{ dst := some 27, op := Op.move (Operand.tmp 6), type := 27, pos := "law.go:16", after := #[], guard := none }, { dst := some 28, op := Op.binOp BinOp.eql 27 (Operand.tmp 27) (Operand.const (Value.int IntKind.i64 0)) 27, type := 4, pos := "law.go:16", after := #[{ on := 0, ground := Ground.data }], guard := none }, { dst := some 29, op := Op.move (Operand.tmp 28), type := 4, pos := "law.go:16", after := #[{ on := 1, ground := Ground.data }], guard := none }, { dst := some 30, op := Op.move (Operand.tmp 5), type := 26, pos := "law.go:16", after := #[{ on := 2, ground := Ground.guard }], guard := some (2, true) }, { dst := some 31, op := Op.load 34 (Operand.tmp 1), type := 34, pos := "law.go:16", after := #[{ on := 2, ground := Ground.guard }], guard := some (2, true) }, { dst := some 32, op := Op.load 34 (Operand.tmp 2), type := 34, pos := "law.go:16", after := #[{ on := 2, ground := Ground.guard }], guard := some (2, true) }, { dst := some 33, op := Op.load 34 (Operand.tmp 3), type := 34, pos := "law.go:16", after := #[{ on := 2, ground := Ground.guard }], guard := some (2, true) }, { dst := some 34, op := Op.buildSlice 26 3 #[(0, Operand.tmp 31), (1, Operand.tmp 32), (2, Operand.tmp 33)], type := 26, pos := "law.go:16", after := #[{ on := 4, ground := Ground.data }, { on := 5, ground := Ground.data }, { on := 6, ground := Ground.data }, { on := 2, ground := Ground.guard }], guard := some (2, true) }, { dst := some 35, op := Op.call { callee := Callee.value (Operand.func 13), args := #[Operand.tmp 30, Operand.tmp 34], argTypes := #[26, 26] }, type := 4, pos := "law.go:16", after := #[{ on := 3, ground := Ground.data }, { on := 7, ground := Ground.data }, { on := 2, ground := Ground.chain }, { on := 2, ground := Ground.guard }], guard := some (2, true) }, { dst := some 36, op := Op.pick (Operand.tmp 29) (Operand.tmp 35) (Operand.const (Value.bool false)), type := 4, pos := "law.go:16", after := #[{ on := 2, ground := Ground.data }, { on := 8, ground := Ground.data }], guard := none }, { dst := some 37, op := Op.move (Operand.tmp 36), type := 4, pos := "law.go:16", after := #[{ on := 9, ground := Ground.data }, { on := 8, ground := Ground.chain }], guard := none }, { dst := some 38, op := Op.move (Operand.tmp 4), type := 22, pos := "law.go:16", after := #[{ on := 10, ground := Ground.guard }], guard := some (10, true) }, { dst := some 39, op := Op.load 34 (Operand.tmp 3), type := 34, pos := "law.go:16", after := #[{ on := 10, ground := Ground.guard }], guard := some (10, true) }, { dst := some 40, op := Op.call { callee := Callee.value (Operand.func 14), args := #[Operand.tmp 38, Operand.tmp 39], argTypes := #[22, 34] }, type := 26, pos := "law.go:16", after := #[{ on := 11, ground := Ground.data }, { on := 12, ground := Ground.data }, { on := 10, ground := Ground.chain }, { on := 10, ground := Ground.guard }], guard := some (10, true) }, { dst := some 41, op := Op.load 34 (Operand.tmp 1), type := 34, pos := "law.go:16", after := #[{ on := 10, ground := Ground.guard }], guard := some (10, true) }, { dst := some 42, op := Op.load 34 (Operand.tmp 2), type := 34, pos := "law.go:16", after := #[{ on := 10, ground := Ground.guard }], guard := some (10, true) }, { dst := some 43, op := Op.buildSlice 26 2 #[(0, Operand.tmp 41), (1, Operand.tmp 42)], type := 26, pos := "law.go:16", after := #[{ on := 14, ground := Ground.data }, { on := 15, ground := Ground.data }, { on := 10, ground := Ground.guard }], guard := some (10, true) }, { dst := some 44, op := Op.call { callee := Callee.value (Operand.func 13), args := #[Operand.tmp 40, Operand.tmp 43], argTypes := #[26, 26] }, type := 4, pos := "law.go:16", after := #[{ on := 13, ground := Ground.data }, { on := 16, ground := Ground.data }, { on := 13, ground := Ground.chain }, { on := 10, ground := Ground.guard }], guard := some (10, true) }, { dst := some 45, op := Op.pick (Operand.tmp 37) (Operand.tmp 44) (Operand.const (Value.bool false)), type := 4, pos := "law.go:16", after := #[{ on := 10, ground := Ground.data }, { on := 17, ground := Ground.data }], guard := none }, { dst := some 46, op := Op.move (Operand.tmp 45), type := 4, pos := "law.go:16", after := #[{ on := 18, ground := Ground.data }, { on := 17, ground := Ground.chain }], guard := none }, { dst := some 47, op := Op.move (Operand.tmp 4), type := 22, pos := "law.go:16", after := #[{ on := 19, ground := Ground.guard }], guard := some (19, true) }, { dst := some 48, op := Op.load 34 (Operand.tmp 1), type := 34, pos := "law.go:16", after := #[{ on := 19, ground := Ground.guard }], guard := some (19, true) }, { dst := some 49, op := Op.call { callee := Callee.value (Operand.func 16), args := #[Operand.tmp 47, Operand.tmp 48], argTypes := #[22, 34] }, type := 26, pos := "law.go:16", after := #[{ on := 20, ground := Ground.data }, { on := 21, ground := Ground.data }, { on := 19, ground := Ground.chain }, { on := 19, ground := Ground.guard }], guard := some (19, true) }, { dst := some 50, op := Op.load 34 (Operand.tmp 2), type := 34, pos := "law.go:16", after := #[{ on := 19, ground := Ground.guard }], guard := some (19, true) }, { dst := some 51, op := Op.load 34 (Operand.tmp 3), type := 34, pos := "law.go:16", after := #[{ on := 19, ground := Ground.guard }], guard := some (19, true) }, { dst := some 52, op := Op.buildSlice 26 2 #[(0, Operand.tmp 50), (1, Operand.tmp 51)], type := 26, pos := "law.go:16", after := #[{ on := 23, ground := Ground.data }, { on := 24, ground := Ground.data }, { on := 19, ground := Ground.guard }], guard := some (19, true) }, { dst := some 53, op := Op.call { callee := Callee.value (Operand.func 13), args := #[Operand.tmp 49, Operand.tmp 52], argTypes := #[26, 26] }, type := 4, pos := "law.go:16", after := #[{ on := 22, ground := Ground.data }, { on := 25, ground := Ground.data }, { on := 22, ground := Ground.chain }, { on := 19, ground := Ground.guard }], guard := some (19, true) }, { dst := some 54, op := Op.pick (Operand.tmp 46) (Operand.tmp 53) (Operand.const (Value.bool false)), type := 4, pos := "law.go:16", after := #[{ on := 19, ground := Ground.data }, { on := 26, ground := Ground.data }], guard := none }, { dst := some 55, op := Op.move (Operand.tmp 54), type := 4, pos := "law.go:16", after := #[{ on := 27, ground := Ground.data }, { on := 26, ground := Ground.chain }], guard := none }, { dst := some 56, op := Op.move (Operand.tmp 4), type := 22, pos := "law.go:16", after := #[{ on := 28, ground := Ground.guard }], guard := some (28, true) }, { dst := some 57, op := Op.call { callee := Callee.value (Operand.func 20), args := #[Operand.tmp 56], argTypes := #[22] }, type := 4, pos := "law.go:16", after := #[{ on := 29, ground := Ground.data }, { on := 28, ground := Ground.chain }, { on := 28, ground := Ground.guard }], guard := some (28, true) }, { dst := some 58, op := Op.pick (Operand.tmp 55) (Operand.tmp 57) (Operand.const (Value.bool false)), type := 4, pos := "law.go:16", after := #[{ on := 28, ground := Ground.data }, { on := 30, ground := Ground.data }], guard := none }, { dst := some 59, op := Op.move (Operand.tmp 58), type := 4, pos := "law.go:16", after := #[{ on := 31, ground := Ground.data }, { on := 30, ground := Ground.chain }], guard := none }, { dst := some 60, op := Op.move (Operand.tmp 4), type := 22, pos := "law.go:16", after := #[{ on := 32, ground := Ground.guard }], guard := some (32, true) }, { dst := some 61, op := Op.call { callee := Callee.value (Operand.func 18), args := #[Operand.tmp 60], argTypes := #[22] }, type := 26, pos := "law.go:16", after := #[{ on := 33, ground := Ground.data }, { on := 32, ground := Ground.chain }, { on := 32, ground := Ground.guard }], guard := some (32, true) }, { dst := some 62, op := Op.call { callee := Callee.builtin Builtin.len, args := #[Operand.tmp 61], argTypes := #[26] }, type := 3, pos := "law.go:16", after := #[{ on := 34, ground := Ground.data }, { on := 32, ground := Ground.guard }], guard := some (32, true) }, { dst := some 63, op := Op.binOp BinOp.eql 3 (Operand.tmp 62) (Operand.const (Value.int IntKind.i64 0)) 3, type := 4, pos := "law.go:16", after := #[{ on := 35, ground := Ground.data }, { on := 32, ground := Ground.guard }], guard := some (32, true) }, { dst := some 64, op := Op.pick (Operand.tmp 59) (Operand.tmp 63) (Operand.const (Value.bool false)), type := 4, pos := "law.go:16", after := #[{ on := 32, ground := Ground.data }, { on := 36, ground := Ground.data }], guard := none }, { dst := some 65, op := Op.move (Operand.tmp 64), type := 4, pos := "law.go:16", after := #[{ on := 37, ground := Ground.data }, { on := 34, ground := Ground.chain }], guard := none }, { dst := some 66, op := Op.pick (Operand.tmp 65) (Operand.const (Value.bool true)) (Operand.const (Value.bool false)), type := 4, pos := "law.go:16", after := #[{ on := 38, ground := Ground.data }], guard := none }, { dst := some 0, op := Op.assign (Operand.tmp 66), type := 4, pos := "law.go:16", after := #[{ on := 39, ground := Ground.data }, { on := 38, ground := Ground.chain }, { on := 0, ground := Ground.phase }, { on := 1, ground := Ground.phase }, { on := 2, ground := Ground.phase }, { on := 3, ground := Ground.phase }, { on := 4, ground := Ground.phase }, { on := 5, ground := Ground.phase }, { on := 6, ground := Ground.phase }, { on := 7, ground := Ground.phase }, { on := 8, ground := Ground.phase }, { on := 9, ground := Ground.phase }, { on := 10, ground := Ground.phase }, { on := 11, ground := Ground.phase }, { on := 12, ground := Ground.phase }, { on := 13, ground := Ground.phase }, { on := 14, ground := Ground.phase }, { on := 15, ground := Ground.phase }, { on := 16, ground := Ground.phase }, { on := 17, ground := Ground.phase }, { on := 18, ground := Ground.phase }, { on := 19, ground := Ground.phase }, { on := 20, ground := Ground.phase }, { on := 21, ground := Ground.phase }, { on := 22, ground := Ground.phase }, { on := 23, ground := Ground.phase }, { on := 24, ground := Ground.phase }, { on := 25, ground := Ground.phase }, { on := 26, ground := Ground.phase }, { on := 27, ground := Ground.phase }, { on := 28, ground := Ground.phase }, { on := 29, ground := Ground.phase }, { on := 30, ground := Ground.phase }, { on := 31, ground := Ground.phase }, { on := 32, ground := Ground.phase }, { on := 33, ground := Ground.phase }, { on := 34, ground := Ground.phase }, { on := 35, ground := Ground.phase }, { on := 36, ground := Ground.phase }, { on := 37, ground := Ground.phase }, { on := 38, ground := Ground.phase }, { on := 39, ground := Ground.phase }], guard := none }] true).wp Try.prog Q { tmps := #[x0, .pointer (some ⟨b1, 0, none⟩), .pointer (some ⟨b2, 0, none⟩), .pointer (some ⟨b3, 0, none⟩), .slice ad 3 3, .slice po no co, .int .i64 0, x7, x8, x9, x10, x11, x12, x13, x14, x15, x16, x17, x18, x19, x20, x21, x22, x23, x24, x25, x26, x27, x28, x29, x30, x31, x32, x33, x34, x35, x36, x37, x38, x39, x40, x41, x42, x43, x44, x45, x46, x47, x48, x49, x50, x51, x52, x53, x54, x55, x56, x57, x58, x59, x60, x61, x62, x63, x64, x65, x66], defers := ds } A := by
  refine Code.wp_mono (Q := QN Q) (by intro x a' w' h; cases x <;> first | exact h | exact (show False from h).elim) ?_
  refine wp_region_held (S := fun V => Below A.heap.size A V) (by kernel_rfl) ?_
  exact lv_X HK h14 h16 h20 h18 (show Below A.heap.size A A.drew from below_drew A) (show HsR _ _ _ _ ∧ _ from ⟨Ho.out.1.below (below_drew A), Ho.out.2⟩) (fun s34 p40 n40 c40 s43 p49 n49 c49 s52 p61 c61 V hV => hQ.out s34 p40 n40 c40 s43 p49 n49 c49 s52 p61 c61 V hV)
end Go.Proofs.Ytijkpkcopjkhkaa.Oct

/- Layer 12 (deps): lives. -/
namespace Go.Proofs.Ytijkpkcopjkhkaa.Oct
open Go.RowKit

section
variable {ops : Array Oper} {rest : List Oper} {o : Oper} {a : Act} {w : World} {Q : Exit → Act → World → Prop}
theorem wpList_b1 (hg : o.guard = none) (t : TypeId) (k : Nat) (x : Operand) (hop : o.op = Op.build t #[(k, x)]) (u v : Value) (hx : a.eval x = u) (hrun : ∀ W, (Instr.build t #[(k, u)]).run Try.prog W = .ok v W)
    (hK : wpList Try.prog ops Q rest (a.put o.dst v) w) : wpList Try.prog ops Q (o :: rest) a w := by
  refine wpList_plain hg fun K' hK' => ?_
  unfold Oper.wp execOp
  simp [hop, hx, hrun, Result.andThen]
  exact hK' _ _ hK
theorem wpList_b2 (hg : o.guard = none) (t : TypeId) (x y : Operand) (hop : o.op = Op.build t #[(0, x), (1, y)]) (u u2 v : Value) (hx : a.eval x = u) (hy : a.eval y = u2) (hrun : ∀ W, (Instr.build t #[(0, u), (1, u2)]).run Try.prog W = .ok v W)
    (hK : wpList Try.prog ops Q rest (a.put o.dst v) w) : wpList Try.prog ops Q (o :: rest) a w := by
  refine wpList_plain hg fun K' hK' => ?_
  unfold Oper.wp execOp
  simp [hop, hx, hy, hrun, Result.andThen]
  exact hK' _ _ hK
theorem wpList_bsl1 (hg : o.guard = none) (x : Operand) (hop : o.op = Op.buildSlice 26 1 #[(0, x)]) (hx1 : a.eval x = .agg (U (hx 1)).toArray)
    (hK : wpList Try.prog ops Q rest (a.put o.dst (.slice (some ⟨w.heap.size, 0, none⟩) 1 1)) (w.alloc (.cells (UU [hx 1]).toArray 34))) : wpList Try.prog ops Q (o :: rest) a w := by
  refine wpList_plain hg fun K' hK' => ?_
  unfold Oper.wp execOp
  simp [hop, hx1, run_bs1, Result.andThen]
  exact hK' _ _ hK
theorem wpList_bsl12 (hg : o.guard = none) (x y : Operand) (hop : o.op = Op.buildSlice 26 2 #[(0, x), (1, y)]) (hx1 : a.eval x = .agg (U (hx 1)).toArray) (hx2 : a.eval y = .agg (U (hx 2)).toArray)
    (hK : wpList Try.prog ops Q rest (a.put o.dst (.slice (some ⟨w.heap.size, 0, none⟩) 2 2)) (w.alloc (.cells (UU [hx 1, hx 2]).toArray 34))) : wpList Try.prog ops Q (o :: rest) a w :=
  wpList_plain hg fun _ hK' => wp_bs12 x y hop hx1 hx2 (hK' _ _ hK)
theorem wpList_bits (hg : o.guard = none) (x y z : Operand) (hop : o.op = Op.buildSlice 22 3 #[(0, x), (1, y), (2, z)]) (p p' : Option Addr) (hx1 : a.eval x = .agg (i3 p).cells.toArray) (hx2 : a.eval y = .agg i1.cells.toArray) (hx3 : a.eval z = .agg (i2 p').cells.toArray)
    (hK : wpList Try.prog ops Q rest (a.put o.dst (.slice (some ⟨w.heap.size, 0, none⟩) 3 3)) (w.alloc (.cells ((i3 p).cells ++ i1.cells ++ (i2 p').cells).toArray 36))) : wpList Try.prog ops Q (o :: rest) a w := by
  refine wpList_plain hg fun K' hK' => ?_
  unfold Oper.wp execOp
  simp only [hop, hx1, hx2, hx3, run_its, Result.andThen, Sem.run_bind, Sem.run_pure, List.map_toArray, List.map_cons, List.map_nil]
  exact hK' _ _ hK
end
theorem rise12 : [hx 1, hx 2].Pairwise LtH := by simp [lt12]
theorem rise23 : [hx 2, hx 3].Pairwise LtH := by simp [lt23]

theorem its_new (W : World) (p p' : Option Addr) (h3 : HsR (W.alloc (.cells ((i3 p).cells ++ i1.cells ++ (i2 p').cells).toArray 36)) p 2 [hx 1, hx 2]) (h2 : HsR (W.alloc (.cells ((i3 p).cells ++ i1.cells ++ (i2 p').cells).toArray 36)) p' 1 [hx 1]) :
    Its (W.alloc (.cells ((i3 p).cells ++ i1.cells ++ (i2 p').cells).toArray 36)) (some ⟨W.heap.size, 0, none⟩) 3 [i3 p, i1, i2 p'] := by
  have hl3 : (i3 p).cells.length = 33 := It.cells_length _ (hx_len 3)
  have hl1 : i1.cells.length = 33 := It.cells_length _ (hx_len 1)
  have hr : (W.alloc (.cells ((i3 p).cells ++ i1.cells ++ (i2 p').cells).toArray 36)).rangeAt W.heap.size 0 ((i3 p).cells ++ i1.cells ++ (i2 p').cells) := by
    intro j v hj
    have := (Blk.new W ((i3 p).cells ++ i1.cells ++ (i2 p').cells).toArray 36).cell (i := 0 + j) (v := v) (by simpa using hj)
    exact this
  have r12 := rangeAt_left hr
  have r3 := rangeAt_right hr
  have ra := rangeAt_left r12
  have rb := rangeAt_right r12
  rw [hl3] at rb
  rw [List.length_append, hl3, hl1] at r3
  refine ⟨rfl, fun _ => ⟨_, _, rfl, by simp, fun i x hi => ?_⟩⟩
  match i, hi with
  | 0, hi =>
    simp at hi; subst hi
    exact ⟨hx_len 3, by simpa using ra, h3, Nat.le_refl _, by show 2 ≤ _; omega⟩
  | 1, hi =>
    simp at hi; subst hi
    exact ⟨hx_len 1, by simpa using rb, HsR.nil _ _, Nat.le_refl _, by show 0 ≤ _; omega⟩
  | 2, hi =>
    simp at hi; subst hi
    exact ⟨hx_len 2, by simpa using r3, h2, Nat.le_refl _, by show 1 ≤ _; omega⟩
  | i + 3, hi => simp at hi
theorem many_lv (p p' : Option Addr) : many [i3 p, i1, i2 p'] = 3 := rfl
attribute [local irreducible] hx i1 i2 i3
set_option maxRecDepth 100000 in
set_option maxHeartbeats 1000000 in
theorem lives_is (w : World) : Calls Try.prog 9 #[] w fun e w' => e = .returned (.bool true) ∧ Hid (Below w.heap.size w w') := by
  obtain ⟨Y, hYl, hY⟩ := zero34
  have HZ : Hid (Y.length = 32) := hYl
  clear hYl
  have H0 : Hid (Blk (((w.alloc (.cells Y.toArray 34)).alloc (.cells Y.toArray 34)).alloc (.cells Y.toArray 34)) w.heap.size 34 Y ∧ Blk (((w.alloc (.cells Y.toArray 34)).alloc (.cells Y.toArray 34)).alloc (.cells Y.toArray 34)) (w.heap.size + 1) 34 Y ∧ Blk (((w.alloc (.cells Y.toArray 34)).alloc (.cells Y.toArray 34)).alloc (.cells Y.toArray 34)) (w.heap.size + 1 + 1) 34 Y ∧ Below w.heap.size w (((w.alloc (.cells Y.toArray 34)).alloc (.cells Y.toArray 34)).alloc (.cells Y.toArray 34))) := by
    refine ⟨((by simpa using Blk.new w Y.toArray 34 : Blk _ _ 34 Y).alloc _).alloc _, Blk.alloc ?_ _, ?_, ?_⟩
    · have := Blk.new (w.alloc (.cells Y.toArray 34)) Y.toArray 34
      simpa using this
    · have := Blk.new ((w.alloc (.cells Y.toArray 34)).alloc (.cells Y.toArray 34)) Y.toArray 34
      simpa using this
    · exact (((Below.refl _ w).alloc (Nat.le_refl _) _).alloc (by simp) _).alloc (by simp; omega) _
  go_enter Try.func9, Try.ntmps9
  go_wp2_with (first
    | (with_reducible change wpList _ _ _ ({ dst := some 7, op := _, type := _, pos := _, after := _, guard := _ } :: _) _ _
       refine wpList_b1 rfl 34 0 _ rfl _ _ rfl run_b34_1 ?_)
    | (with_reducible change wpList _ _ _ ({ dst := some 8, op := _, type := _, pos := _, after := _, guard := _ } :: _) _ _
       refine wpList_b1 rfl 34 0 _ rfl _ _ rfl run_b34_2 ?_)
    | (with_reducible change wpList _ _ _ ({ dst := some 9, op := _, type := _, pos := _, after := _, guard := _ } :: _) _ _
       refine wpList_b1 rfl 34 0 _ rfl _ _ rfl run_b34_3 ?_)
    | (with_reducible change wpList _ _ _ ({ dst := none, op := Op.store 34 (Operand.tmp 1) _, type := _, pos := _, after := _, guard := _ } :: _) _ _
       refine wpList_store_blk rfl 34 (.tmp 1) (.tmp 7) rfl w.heap.size 0 34 Y (U (hx 1)) rfl rfl H0.out.1 (by rw [U_length, hx_len, HZ.out]; omega) (info34 (hx 1) (hx_len 1)) (U_one _) ?_
       intro V1 S1 T1)
    | (with_reducible change wpList _ _ _ ({ dst := none, op := Op.store 34 (Operand.tmp 2) _, type := _, pos := _, after := _, guard := _ } :: _) _ _
       refine wpList_store_blk rfl 34 (.tmp 2) (.tmp 8) rfl (w.heap.size + 1) 0 34 Y (U (hx 2)) rfl rfl (H0.out.2.1.kept T1.out (by simp)) (by rw [U_length, hx_len, HZ.out]; omega) (info34 (hx 2) (hx_len 2)) (U_one _) ?_
       intro V2 S2 T2)
    | (with_reducible change wpList _ _ _ ({ dst := none, op := Op.store 34 (Operand.tmp 3) _, type := _, pos := _, after := _, guard := _ } :: _) _ _
       refine wpList_store_blk rfl 34 (.tmp 3) (.tmp 9) rfl (w.heap.size + 1 + 1) 0 34 Y (U (hx 3)) rfl rfl ((H0.out.2.2.1.kept T1.out (by simp; omega)).kept T2.out (by simp)) (by rw [U_length, hx_len, HZ.out]; omega) (info34 (hx 3) (hx_len 3)) (U_one _) ?_
       intro V3 S3 T3)
    | (with_reducible change wpList _ _ _ ({ dst := some 10, op := _, type := _, pos := _, after := _, guard := _ } :: _) _ _
       refine Hid.out ?_)
    | fail)
  show wpList _ _ _ _ _ _
  have HV : Hid (Below w.heap.size w V3 ∧ V3.rangeAt w.heap.size 0 (U (hx 1)) ∧ V3.rangeAt (w.heap.size + 1) 0 (U (hx 2)) ∧ V3.rangeAt (w.heap.size + 1 + 1) 0 (U (hx 3)) ∧ w.heap.size + 1 + 1 < V3.heap.size) := by
    have e1 : ∀ k, Y.take 0 ++ U (hx k) ++ Y.drop (0 + (U (hx k)).length) = U (hx k) := fun k => by
      rw [List.drop_of_length_le (by rw [U_length, hx_len, HZ.out]; omega)]; simp
    have k1 : Blk V1 w.heap.size 34 (U (hx 1)) := by have := S1.out; rw [e1 1] at this; exact this
    have k2 : Blk V2 (w.heap.size + 1) 34 (U (hx 2)) := by have := S2.out; rw [e1 2] at this; exact this
    have k3 : Blk V3 (w.heap.size + 1 + 1) 34 (U (hx 3)) := by have := S3.out; rw [e1 3] at this; exact this
    have k2' := k2.kept T3.out (by simp)
    have k1' := (k1.kept T2.out (by simp)).kept T3.out (by simp; omega)
    refine ⟨below_grownBy (below_grownBy (below_grownBy H0.out.2.2.2 T1.out (Nat.le_refl _) (Nat.le_refl _)) T2.out (by omega) (Nat.le_refl _)) T3.out (by omega) (Nat.le_refl _), ?_, ?_, ?_, k3.lt⟩
    · have := k1'.range 0 32
      rw [List.drop_zero, List.take_of_length_le (by rw [U_length, hx_len]; omega)] at this
      exact this
    · have := k2'.range 0 32
      rw [List.drop_zero, List.take_of_length_le (by rw [U_length, hx_len]; omega)] at this
      exact this
    · have := k3.range 0 32
      rw [List.drop_zero, List.take_of_length_le (by rw [U_length, hx_len]; omega)] at this
      exact this
  clear S1 S2 S3 T1 T2 T3 H0
  have hb1 := below_new V3 (.cells (UU [hx 1, hx 2]).toArray 34)
  have HV1 : Hid ((V3.alloc (.cells (UU [hx 1, hx 2]).toArray 34)).rangeAt w.heap.size 0 (U (hx 1)) ∧ (V3.alloc (.cells (UU [hx 1, hx 2]).toArray 34)).rangeAt (w.heap.size + 1) 0 (U (hx 2))) := ⟨rangeAt_same HV.out.2.1 (hb1.block _ (by have := HV.out.2.2.2.2; omega)), rangeAt_same HV.out.2.2.1 (hb1.block _ (by have := HV.out.2.2.2.2; omega))⟩
  clear hb1
  go_wp2_with (first
    | (with_reducible change wpList _ _ _ ({ dst := some 10, op := _, type := _, pos := _, after := _, guard := _ } :: _) _ _
       refine wpList_load_mid rfl 34 (.tmp 3) rfl (w.heap.size + 1 + 1) 0 rfl (U (hx 3)) _ HV.out.2.2.2.1 Try.underlying34 rfl (info34 (hx 3) (hx_len 3)) ?_)
    | (with_reducible change wpList _ _ _ ({ dst := some 11, op := _, type := _, pos := _, after := _, guard := _ } :: _) _ _
       refine wpList_load_mid rfl 34 (.tmp 1) rfl w.heap.size 0 rfl (U (hx 1)) _ HV.out.2.1 Try.underlying34 rfl (info34 (hx 1) (hx_len 1)) ?_)
    | (with_reducible change wpList _ _ _ ({ dst := some 12, op := _, type := _, pos := _, after := _, guard := _ } :: _) _ _
       refine wpList_load_mid rfl 34 (.tmp 2) rfl (w.heap.size + 1) 0 rfl (U (hx 2)) _ HV.out.2.2.1 Try.underlying34 rfl (info34 (hx 2) (hx_len 2)) ?_)
    | (with_reducible change wpList _ _ _ ({ dst := some 13, op := _, type := _, pos := _, after := _, guard := _ } :: _) _ _
       refine Hid.out ?_)
    | fail)
  show wpList _ _ _ _ _ _
  refine wpList_bsl12 rfl (.tmp 11) (.tmp 12) rfl rfl rfl ?_
  simp only [Act.put, List.setIfInBounds_toArray, List.set_cons_zero, List.set_cons_succ]
  have HN1 : Hid (HsR (V3.alloc (.cells (UU [hx 1, hx 2]).toArray 34)) (some ⟨V3.heap.size, 0, none⟩) 2 [hx 1, hx 2] ∧ Below V3.heap.size V3 (V3.alloc (.cells (UU [hx 1, hx 2]).toArray 34))) := ⟨HsR.new V3 [hx 1, hx 2] hx12l, below_new V3 _⟩
  generalize hA1 : V3.alloc (.cells (UU [hx 1, hx 2]).toArray 34) = A1 at HV1 HN1 ⊢
  generalize hg1 : (⟨V3.heap.size, 0, none⟩ : Addr) = g1 at HN1 ⊢
  refine wpList_b2 rfl 36 (.tmp 10) (.tmp 13) rfl (.agg (U (hx 3)).toArray) (.slice (some g1) 2 2) (.agg (i3 (some g1)).cells.toArray) rfl rfl (fun W => run_it3 W _) ?_
  simp only [Act.put, List.setIfInBounds_toArray, List.set_cons_zero, List.set_cons_succ]
  refine wpList_load_mid rfl 34 (.tmp 1) rfl w.heap.size 0 rfl (U (hx 1)) _ HV1.out.1 Try.underlying34 rfl (info34 (hx 1) (hx_len 1)) ?_
  simp only [Act.put, List.setIfInBounds_toArray, List.set_cons_zero, List.set_cons_succ]
  refine wpList_b1 rfl 36 0 (.tmp 15) rfl (.agg (U (hx 1)).toArray) (.agg i1.cells.toArray) rfl run_it1 ?_
  simp only [Act.put, List.setIfInBounds_toArray, List.set_cons_zero, List.set_cons_succ]
  refine wpList_load_mid rfl 34 (.tmp 2) rfl (w.heap.size + 1) 0 rfl (U (hx 2)) _ HV1.out.2 Try.underlying34 rfl (info34 (hx 2) (hx_len 2)) ?_
  simp only [Act.put, List.setIfInBounds_toArray, List.set_cons_zero, List.set_cons_succ]
  refine wpList_load_mid rfl 34 (.tmp 1) rfl w.heap.size 0 rfl (U (hx 1)) _ HV1.out.1 Try.underlying34 rfl (info34 (hx 1) (hx_len 1)) ?_
  simp only [Act.put, List.setIfInBounds_toArray, List.set_cons_zero, List.set_cons_succ]
  refine wpList_bsl1 rfl (.tmp 18) rfl rfl ?_
  simp only [Act.put, List.setIfInBounds_toArray, List.set_cons_zero, List.set_cons_succ]
  have HN2 : Hid (HsR (A1.alloc (.cells (UU [hx 1]).toArray 34)) (some ⟨A1.heap.size, 0, none⟩) 1 [hx 1] ∧ Below A1.heap.size A1 (A1.alloc (.cells (UU [hx 1]).toArray 34))) := ⟨HsR.new A1 [hx 1] (by intro h hh; simp at hh; subst hh; exact hx_len 1), below_new A1 _⟩
  generalize hA2 : A1.alloc (.cells (UU [hx 1]).toArray 34) = A2 at HN2 ⊢
  generalize hg2 : (⟨A1.heap.size, 0, none⟩ : Addr) = g2 at HN2 ⊢
  refine wpList_b2 rfl 36 (.tmp 17) (.tmp 19) rfl (.agg (U (hx 2)).toArray) (.slice (some g2) 1 1) (.agg (i2 (some g2)).cells.toArray) rfl rfl (fun W => run_it2 W _) ?_
  simp only [Act.put, List.setIfInBounds_toArray, List.set_cons_zero, List.set_cons_succ]
  refine wpList_bits rfl (.tmp 14) (.tmp 16) (.tmp 20) rfl (some g1) (some g2) rfl rfl rfl ?_
  simp only [Act.put, List.setIfInBounds_toArray, List.set_cons_zero, List.set_cons_succ]
  have HN3 : Hid (Its (A2.alloc (.cells ((i3 (some g1)).cells ++ i1.cells ++ (i2 (some g2)).cells).toArray 36)) (some ⟨A2.heap.size, 0, none⟩) 3 [i3 (some g1), i1, i2 (some g2)] ∧ Below A2.heap.size A2 (A2.alloc (.cells ((i3 (some g1)).cells ++ i1.cells ++ (i2 (some g2)).cells).toArray 36))) := by
    have hb := below_new A2 (.cells ((i3 (some g1)).cells ++ i1.cells ++ (i2 (some g2)).cells).toArray 36)
    exact ⟨its_new A2 (some g1) (some g2) ((HN1.out.1.below HN2.out.2).below hb) (HN2.out.1.below hb), hb⟩
  generalize hA3 : A2.alloc (.cells ((i3 (some g1)).cells ++ i1.cells ++ (i2 (some g2)).cells).toArray 36) = A3 at HN3 ⊢
  generalize hg3 : (⟨A2.heap.size, 0, none⟩ : Addr) = g3 at HN3 ⊢
  clear hA1 hA2 hA3 hg1 hg2 hg3
  have HEX : Hid (Exam (i3 (some g1)) i1 (i2 (some g2)) (hx 1) (hx 2) (hx 3) ∧ many [i3 (some g1), i1, i2 (some g2)] ≤ 90000) := ⟨exam_is _ _, by rw [many_lv]; omega⟩
  have H11 : Hid (Calls Try.prog 11 #[.slice (some g3) 3 3] A3 fun e V => ∃ p n c, e = .returned (.tuple #[.slice p n c, .int .i64 0]) ∧ Hid (HsR V p n [hx 1, hx 2, hx 3] ∧ n ≤ 100000) ∧ Hid (Below A3.heap.size A3 V)) := by
    refine (order_is A3 (some g3) 3 3 _ HN3.out.1 (by omega) HEX.out.2).mono ?_
    rintro e V ⟨p, n, c, er, hs, rfl, G1, G2, G3⟩
    obtain ⟨rfl, rfl⟩ := HEX.out.1.ord G2.out
    exact ⟨p, n, c, rfl, G1, G3⟩
  go_wp2_with fail
  refine H11.out.mono ?_
  rintro e A ⟨po, no, co, rfl, G1, G2⟩
  go_wp2
  have HB3 : Hid (Below V3.heap.size V3 A ∧ Below w.heap.size w A) := by
    have h1 := HN1.out.2.trans (HN2.out.2.mono HN1.out.2.size)
    have h2 := h1.trans (HN3.out.2.mono h1.size)
    have h3 := h2.trans (G2.out.mono h2.size)
    exact ⟨h3, HV.out.1.trans (h3.mono HV.out.1.size)⟩
  have HIA : Hid (Its A (some g3) 3 [i3 (some g1), i1, i2 (some g2)]) := HN3.out.1.below G2.out
  have hsz := HV.out.2.2.2.2
  have hsz2 := HB3.out.1.size
  refine lives_region (b1 := w.heap.size) (b2 := w.heap.size + 1) (b3 := w.heap.size + 1 + 1) ⟨⟨rangeAt_same HV.out.2.1 (HB3.out.1.block _ (by omega)), rangeAt_same HV.out.2.2.1 (HB3.out.1.block _ (by omega)), rangeAt_same HV.out.2.2.2.1 (HB3.out.1.block _ hsz)⟩, by omega, by omega, by omega⟩ (fun V hV => ?_) (fun V hV => ?_) (fun V hV => ?_) (fun V hV => ?_) G1 ?_
  · refine (needs_is V (some g3) 3 3 _ (hx 3) (HIA.out.below hV) (hx_len 3) (by omega) HEX.out.2).mono ?_
    rintro e V1 ⟨p, n, c, rs, rfl, F1, F2⟩
    have : rs = [hx 1, hx 2] := rise_eq F1.out.2.2.1 rise12 (fun x => (F1.out.2.2.2 x).trans ⟨fun h => (HEX.out.1.needs x).1 h.2, fun h => ⟨by omega, (HEX.out.1.needs x).2 h⟩⟩)
    subst this
    exact ⟨p, n, c, rfl, ⟨F1.out.1, F1.out.2.1⟩, F2⟩
  · refine (above_is V (some g3) 3 3 _ (hx 1) (HIA.out.below hV) (hx_len 1) (by omega) HEX.out.2).mono ?_
    rintro e V1 ⟨p, n, c, rs, rfl, F1, F2⟩
    have : rs = [hx 2, hx 3] := rise_eq F1.out.2.2.1 rise23 (fun x => (F1.out.2.2.2 x).trans ⟨fun h => (HEX.out.1.above x).1 h.2, fun h => ⟨by omega, (HEX.out.1.above x).2 h⟩⟩)
    subst this
    exact ⟨p, n, c, rfl, ⟨F1.out.1, F1.out.2.1⟩, F2⟩
  · refine (closed_is V (some g3) 3 3 _ (HIA.out.below hV) (by omega) HEX.out.2).mono ?_
    rintro e V1 ⟨b, rfl, F1, F2⟩
    have : b = true := F1.out.2 ⟨by omega, HEX.out.1.nodup, HEX.out.1.whole⟩
    subst this
    exact ⟨rfl, F2⟩
  · refine (missing_is V (some g3) 3 3 _ (HIA.out.below hV) (by omega) HEX.out.2).mono ?_
    rintro e V1 ⟨p, n, c, rs, rfl, F1, F2⟩
    have : rs = [] := by
      cases rs with
      | nil => rfl
      | cons x t => exact absurd ((F1.out.2.2.2 x).1 (by simp)).2 (HEX.out.1.whole x)
    subst this
    obtain rfl : n = 0 := F1.out.1.1.symm
    exact ⟨p, c, rfl, F2⟩
  show ∀ _, _
  intro s34 p40 n40 c40 s43 p49 n49 c49 s52 p61 c61 V hV
  have HF : Hid (Below w.heap.size w V) := HB3.out.2.trans (hV.mono HB3.out.2.size)
  clear hV hsz hsz2
  go_wp2
  go_ret
  exact ⟨rfl, HF⟩
end Go.Proofs.Ytijkpkcopjkhkaa.Oct

/- Layer 12 (deps): DepsMirror: its last statement, whatever its order. -/
namespace Go.Proofs.Ytijkpkcopjkhkaa.Oct
open Go.RowKit
set_option linter.unusedSimpArgs false

/-- whether a hash is among others, as 'Place' tells it -/
theorem place_tell (w : World) (a : Option Addr) (n c : Nat) (hs : List Hs) (h : Hs) (B : Bool) (hr : HsR w a n hs) (hl : h.length = 32) (hn : n ≤ 100000) (hB : decide (h ∈ hs) = B) :
    Calls Try.prog 22 #[.slice a n c, .agg (U h).toArray] w fun e w' => ∃ z : Int, e = .returned (.int .i64 z) ∧ Hid (decide (0 ≤ z) = B) ∧ Hid (Below w.heap.size w w') := by
  refine (place_is w a n c hs h hr hl hn).mono ?_
  rintro e w' ⟨rfl, hb⟩
  refine ⟨_, rfl, ?_, hb⟩
  show decide _ = B
  rw [← hB]
  exact decide_eq_decide.2 (placeOf_mem h hs)
set_option maxRecDepth 100000 in
set_option maxHeartbeats 2000000 in
theorem mirror_region {Q : Exit → Act → World → Prop} {x1 x2 x3 x4 x6 x8 x9 x10 x11 x12 x13 x14 x15 x16 x17 x18 x19 x20 x21 x22 x23 x24 x25 x26 x27 x28 x29 x30 x31 x32 x33 x34 x35 x36 x37 x38 x39 x40 x41 x42 x43 x44 x45 x46 x47 x48 : Value} {ds : List Deferred} {A : World} {a : Option Addr} {len cap hb xb : Nat} {h x : Hs} {B : Bool}
    (hl : Hid (h.length = 32 ∧ x.length = 32)) (HK : Hid (A.rangeAt xb 0 (U x) ∧ A.rangeAt hb 0 (U h) ∧ xb < A.heap.size ∧ hb < A.heap.size)) (h14 : Hid (∀ V, Below A.heap.size A V → Calls Try.prog 14 #[.slice a len cap, .agg (U x).toArray] V fun e V1 => ∃ p n c rs, e = .returned (.slice p n c) ∧ Hid (HsR V1 p n rs ∧ n ≤ 100000 ∧ decide (h ∈ rs) = B) ∧ Hid (Below V.heap.size V V1))) (h16 : Hid (∀ V, Below A.heap.size A V → Calls Try.prog 16 #[.slice a len cap, .agg (U h).toArray] V fun e V1 => ∃ p n c rs, e = .returned (.slice p n c) ∧ Hid (HsR V1 p n rs ∧ n ≤ 100000 ∧ decide (x ∈ rs) = B) ∧ Hid (Below V.heap.size V V1)))
    (hQ : ∀ (p1 : Option Addr) (n1 c1 : Nat) (z1 : Int) (p2 : Option Addr) (n2 c2 : Nat) (z2 : Int) (V : World), Below A.heap.size A V → Q .normal { tmps := #[.slice a len cap, x1, x2, x3, x4, .pointer (some ⟨hb, 0, none⟩), .bool true, .pointer (some ⟨xb, 0, none⟩), x8, x9, x10, x11, x12, x13, x14, x15, x16, x17, x18, x19, x20, x21, x22, x23, x24, x25, x26, x27, x28, x29, x30, x31, x32, .slice a len cap, .agg (U x).toArray, .slice p1 n1 c1, .agg (U h).toArray, .int .i64 z1, .bool B, .slice a len cap, .agg (U h).toArray, .slice p2 n2 c2, .agg (U x).toArray, .int .i64 z2, .bool B, .bool true, .bool true, .bool true, .bool true], defers := ds } V) :
    (Code.region 4 #[{ dst := some 33, op := Op.move (Operand.tmp 0), type := 22, pos := "law.go:122", after := #[], guard := none }, { dst := some 34, op := Op.load 34 (Operand.tmp 7), type := 34, pos := "law.go:122", after := #[], guard := none }, { dst := some 35, op := Op.call { callee := Callee.value (Operand.func 14), args := #[Operand.tmp 33, Operand.tmp 34], argTypes := #[22, 34] }, type := 26, pos := "law.go:122", after := #[{ on := 0, ground := Ground.data }, { on := 1, ground := Ground.data }], guard := none }, { dst := some 36, op := Op.load 34 (Operand.tmp 5), type := 34, pos := "law.go:122", after := #[], guard := none }, { dst := some 37, op := Op.call { callee := Callee.value (Operand.func 22), args := #[Operand.tmp 35, Operand.tmp 36], argTypes := #[26, 34] }, type := 3, pos := "law.go:122", after := #[{ on := 2, ground := Ground.data }, { on := 3, ground := Ground.data }, { on := 2, ground := Ground.chain }], guard := none }, { dst := some 38, op := Op.binOp BinOp.geq 3 (Operand.tmp 37) (Operand.const (Value.int IntKind.i64 0)) 3, type := 4, pos := "law.go:122", after := #[{ on := 4, ground := Ground.data }], guard := none }, { dst := some 39, op := Op.move (Operand.tmp 0), type := 22, pos := "law.go:122", after := #[], guard := none }, { dst := some 40, op := Op.load 34 (Operand.tmp 5), type := 34, pos := "law.go:122", after := #[], guard := none }, { dst := some 41, op := Op.call { callee := Callee.value (Operand.func 16), args := #[Operand.tmp 39, Operand.tmp 40], argTypes := #[22, 34] }, type := 26, pos := "law.go:122", after := #[{ on := 6, ground := Ground.data }, { on := 7, ground := Ground.data }, { on := 4, ground := Ground.chain }], guard := none }, { dst := some 42, op := Op.load 34 (Operand.tmp 7), type := 34, pos := "law.go:122", after := #[], guard := none }, { dst := some 43, op := Op.call { callee := Callee.value (Operand.func 22), args := #[Operand.tmp 41, Operand.tmp 42], argTypes := #[26, 34] }, type := 3, pos := "law.go:122", after := #[{ on := 8, ground := Ground.data }, { on := 9, ground := Ground.data }, { on := 8, ground := Ground.chain }], guard := none }, { dst := some 44, op := Op.binOp BinOp.geq 3 (Operand.tmp 43) (Operand.const (Value.int IntKind.i64 0)) 3, type := 4, pos := "law.go:122", after := #[{ on := 10, ground := Ground.data }], guard := none }, { dst := some 45, op := Op.binOp BinOp.eql 4 (Operand.tmp 38) (Operand.tmp 44) 4, type := 4, pos := "law.go:122", after := #[{ on := 5, ground := Ground.data }, { on := 11, ground := Ground.data }], guard := none }, { dst := some 46, op := Op.move (Operand.tmp 45), type := 4, pos := "law.go:122", after := #[{ on := 12, ground := Ground.data }, { on := 10, ground := Ground.chain }], guard := none }, { dst := some 47, op := Op.call { callee := Callee.value (Operand.func 9), args := #[], argTypes := #[] }, type := 4, pos := "law.go:122", after := #[{ on := 13, ground := Ground.chain }, { on := 13, ground := Ground.guard }], guard := some (13, true) }, { dst := some 48, op := Op.pick (Operand.tmp 46) (Operand.tmp 47) (Operand.const (Value.bool false)), type := 4, pos := "law.go:122", after := #[{ on := 13, ground := Ground.data }, { on := 14, ground := Ground.data }], guard := none }, { dst := some 6, op := Op.assign (Operand.tmp 48), type := 4, pos := "law.go:122", after := #[{ on := 15, ground := Ground.data }, { on := 14, ground := Ground.chain }, { on := 0, ground := Ground.phase }, { on := 1, ground := Ground.phase }, { on := 2, ground := Ground.phase }, { on := 3, ground := Ground.phase }, { on := 4, ground := Ground.phase }, { on := 5, ground := Ground.phase }, { on := 6, ground := Ground.phase }, { on := 7, ground := Ground.phase }, { on := 8, ground := Ground.phase }, { on := 9, ground := Ground.phase }, { on := 10, ground := Ground.phase }, { on := 11, ground := Ground.phase }, { on := 12, ground := Ground.phase }, { on := 13, ground := Ground.phase }, { on := 14, ground := Ground.phase }, { on := 15, ground := Ground.phase }], guard := none }] true).wp Try.prog Q { tmps := #[.slice a len cap, x1, x2, x3, x4, .pointer (some ⟨hb, 0, none⟩), x6, .pointer (some ⟨xb, 0, none⟩), x8, x9, x10, x11, x12, x13, x14, x15, x16, x17, x18, x19, x20, x21, x22, x23, x24, x25, x26, x27, x28, x29, x30, x31, x32, x33, x34, x35, x36, x37, x38, x39, x40, x41, x42, x43, x44, x45, x46, x47, x48], defers := ds } A := by
  refine Code.wp_mono (Q := fun x a' w' => match x with | .normal => Q .normal a' w' | _ => False) (by intro x a' w' h; cases x <;> first | exact h | exact h.elim) ?_
  refine wp_region_held (S := fun V => Below A.heap.size A V) (by kernel_rfl) ?_
  have hS0 : Hid (Below A.heap.size A A.drew) := below_drew A
  change wpAnyH Try.prog .any _ _ (fun V => Below A.heap.size A V) 17 (Array.replicate 17 false) _ A.drew
  refine wpAnyH_take (i := 0) (oi := { dst := some 33, op := Op.move (Operand.tmp 0), type := 22, pos := "law.go:122", after := #[], guard := none }) (v := .slice a len cap) rfl (by kernel_rfl) (by kernel_rfl) (by kernel_rfl) (fun _ _ _ h => h.elim) (Or.inl ⟨by rfl, ?y0⟩) hS0.out ?_
  case y0 =>
    intro V hV
    go_simp
  simp only [Act.put, List.setIfInBounds_toArray, List.set_cons_zero, List.set_cons_succ]
  refine wpAnyH_take (i := 1) (oi := { dst := some 34, op := Op.load 34 (Operand.tmp 7), type := 34, pos := "law.go:122", after := #[], guard := none }) (v := .agg (U x).toArray) rfl (by kernel_rfl) (by kernel_rfl) (by kernel_rfl) (fun _ _ _ h => h.elim) (yieldsIf_load_mid (by rfl) _ _ rfl _ _ rfl (U x) _ (fun V hV => rangeAt_same (HK.out.1) ((show Below A.heap.size A V from hV).block _ (HK.out.2.2.1))) Try.underlying34 rfl (info34 x hl.out.2)) hS0.out ?_
  simp only [Act.put, List.setIfInBounds_toArray, List.set_cons_zero, List.set_cons_succ]
  refine wpAnyH_take (i := 3) (oi := { dst := some 36, op := Op.load 34 (Operand.tmp 5), type := 34, pos := "law.go:122", after := #[], guard := none }) (v := .agg (U h).toArray) rfl (by kernel_rfl) (by kernel_rfl) (by kernel_rfl) (fun _ _ _ h => h.elim) (yieldsIf_load_mid (by rfl) _ _ rfl _ _ rfl (U h) _ (fun V hV => rangeAt_same (HK.out.2.1) ((show Below A.heap.size A V from hV).block _ (HK.out.2.2.2))) Try.underlying34 rfl (info34 h hl.out.1)) hS0.out ?_
  simp only [Act.put, List.setIfInBounds_toArray, List.set_cons_zero, List.set_cons_succ]
  refine wpAnyH_take (i := 6) (oi := { dst := some 39, op := Op.move (Operand.tmp 0), type := 22, pos := "law.go:122", after := #[], guard := none }) (v := .slice a len cap) rfl (by kernel_rfl) (by kernel_rfl) (by kernel_rfl) (fun _ _ _ h => h.elim) (Or.inl ⟨by rfl, ?y6⟩) hS0.out ?_
  case y6 =>
    intro V hV
    go_simp
  simp only [Act.put, List.setIfInBounds_toArray, List.set_cons_zero, List.set_cons_succ]
  refine wpAnyH_take (i := 7) (oi := { dst := some 40, op := Op.load 34 (Operand.tmp 5), type := 34, pos := "law.go:122", after := #[], guard := none }) (v := .agg (U h).toArray) rfl (by kernel_rfl) (by kernel_rfl) (by kernel_rfl) (fun _ _ _ h => h.elim) (yieldsIf_load_mid (by rfl) _ _ rfl _ _ rfl (U h) _ (fun V hV => rangeAt_same (HK.out.2.1) ((show Below A.heap.size A V from hV).block _ (HK.out.2.2.2))) Try.underlying34 rfl (info34 h hl.out.1)) hS0.out ?_
  simp only [Act.put, List.setIfInBounds_toArray, List.set_cons_zero, List.set_cons_succ]
  refine wpAnyH_take (i := 9) (oi := { dst := some 42, op := Op.load 34 (Operand.tmp 7), type := 34, pos := "law.go:122", after := #[], guard := none }) (v := .agg (U x).toArray) rfl (by kernel_rfl) (by kernel_rfl) (by kernel_rfl) (fun _ _ _ h => h.elim) (yieldsIf_load_mid (by rfl) _ _ rfl _ _ rfl (U x) _ (fun V hV => rangeAt_same (HK.out.1) ((show Below A.heap.size A V from hV).block _ (HK.out.2.2.1))) Try.underlying34 rfl (info34 x hl.out.2)) hS0.out ?_
  simp only [Act.put, List.setIfInBounds_toArray, List.set_cons_zero, List.set_cons_succ]
  refine wpAnyH_ready (rs := [2]) (by kernel_rfl) (by simp) (AllReadyH.cons (i := 2) (o := { dst := some 35, op := Op.call { callee := Callee.value (Operand.func 14), args := #[Operand.tmp 33, Operand.tmp 34], argTypes := #[22, 34] }, type := 26, pos := "law.go:122", after := #[{ on := 0, ground := Ground.data }, { on := 1, ground := Ground.data }], guard := none }) rfl ?_ AllReadyH.nil)
  intro K1 hK1
  rw [if_pos (by rfl)]
  have HC1 := h14.out A.drew hS0.out
  go_wp2_with fail
  refine HC1.mono ?_
  rintro e V1 ⟨p1, n1, c1, rs1, rfl, H1, HB1⟩
  dsimp only
  clear HC1
  have hS1 : Hid (Below A.heap.size A V1) := hS0.out.trans (HB1.out.mono hS0.out.size)
  refine hK1.out _ _ hS1.out ?_
  clear hK1
  intro _
  try simp only [Act.put, List.setIfInBounds_toArray, List.set_cons_zero, List.set_cons_succ]
  refine wpAnyH_ready (rs := [4]) (by kernel_rfl) (by simp) (AllReadyH.cons (i := 4) (o := { dst := some 37, op := Op.call { callee := Callee.value (Operand.func 22), args := #[Operand.tmp 35, Operand.tmp 36], argTypes := #[26, 34] }, type := 3, pos := "law.go:122", after := #[{ on := 2, ground := Ground.data }, { on := 3, ground := Ground.data }, { on := 2, ground := Ground.chain }], guard := none }) rfl ?_ AllReadyH.nil)
  intro K1 hK1
  rw [if_pos (by rfl)]
  have HC2 := place_tell V1 p1 n1 c1 rs1 h B H1.out.1 hl.out.1 H1.out.2.1 H1.out.2.2
  go_wp2_with fail
  refine HC2.mono ?_
  rintro e V2 ⟨z1, rfl, HZ1, HB2⟩
  dsimp only
  clear HC2
  have hS2 : Hid (Below A.heap.size A V2) := hS1.out.trans (HB2.out.mono hS1.out.size)
  refine hK1.out _ _ hS2.out ?_
  clear hK1
  intro _
  try simp only [Act.put, List.setIfInBounds_toArray, List.set_cons_zero, List.set_cons_succ]
  refine wpAnyH_take (i := 5) (oi := { dst := some 38, op := Op.binOp BinOp.geq 3 (Operand.tmp 37) (Operand.const (Value.int IntKind.i64 0)) 3, type := 4, pos := "law.go:122", after := #[{ on := 4, ground := Ground.data }], guard := none }) (v := .bool B) rfl (by kernel_rfl) (by kernel_rfl) (by kernel_rfl) (fun _ _ _ h => h.elim) (Or.inl ⟨by rfl, ?y5⟩) hS2.out ?_
  case y5 =>
    intro V hV
    have q := HZ1.out
    go_simp
  simp only [Act.put, List.setIfInBounds_toArray, List.set_cons_zero, List.set_cons_succ]
  refine wpAnyH_ready (rs := [8]) (by kernel_rfl) (by simp) (AllReadyH.cons (i := 8) (o := { dst := some 41, op := Op.call { callee := Callee.value (Operand.func 16), args := #[Operand.tmp 39, Operand.tmp 40], argTypes := #[22, 34] }, type := 26, pos := "law.go:122", after := #[{ on := 6, ground := Ground.data }, { on := 7, ground := Ground.data }, { on := 4, ground := Ground.chain }], guard := none }) rfl ?_ AllReadyH.nil)
  intro K1 hK1
  rw [if_pos (by rfl)]
  have HC3 := h16.out V2 hS2.out
  go_wp2_with fail
  refine HC3.mono ?_
  rintro e V3 ⟨p2, n2, c2, rs2, rfl, H2, HB3⟩
  dsimp only
  clear HC3
  have hS3 : Hid (Below A.heap.size A V3) := hS2.out.trans (HB3.out.mono hS2.out.size)
  refine hK1.out _ _ hS3.out ?_
  clear hK1
  intro _
  try simp only [Act.put, List.setIfInBounds_toArray, List.set_cons_zero, List.set_cons_succ]
  refine wpAnyH_ready (rs := [10]) (by kernel_rfl) (by simp) (AllReadyH.cons (i := 10) (o := { dst := some 43, op := Op.call { callee := Callee.value (Operand.func 22), args := #[Operand.tmp 41, Operand.tmp 42], argTypes := #[26, 34] }, type := 3, pos := "law.go:122", after := #[{ on := 8, ground := Ground.data }, { on := 9, ground := Ground.data }, { on := 8, ground := Ground.chain }], guard := none }) rfl ?_ AllReadyH.nil)
  intro K1 hK1
  rw [if_pos (by rfl)]
  have HC4 := place_tell V3 p2 n2 c2 rs2 x B H2.out.1 hl.out.2 H2.out.2.1 H2.out.2.2
  go_wp2_with fail
  refine HC4.mono ?_
  rintro e V4 ⟨z2, rfl, HZ2, HB4⟩
  dsimp only
  clear HC4
  have hS4 : Hid (Below A.heap.size A V4) := hS3.out.trans (HB4.out.mono hS3.out.size)
  refine hK1.out _ _ hS4.out ?_
  clear hK1
  intro _
  try simp only [Act.put, List.setIfInBounds_toArray, List.set_cons_zero, List.set_cons_succ]
  refine wpAnyH_take (i := 11) (oi := { dst := some 44, op := Op.binOp BinOp.geq 3 (Operand.tmp 43) (Operand.const (Value.int IntKind.i64 0)) 3, type := 4, pos := "law.go:122", after := #[{ on := 10, ground := Ground.data }], guard := none }) (v := .bool B) rfl (by kernel_rfl) (by kernel_rfl) (by kernel_rfl) (fun _ _ _ h => h.elim) (Or.inl ⟨by rfl, ?y11⟩) hS4.out ?_
  case y11 =>
    intro V hV
    have q := HZ2.out
    go_simp
  simp only [Act.put, List.setIfInBounds_toArray, List.set_cons_zero, List.set_cons_succ]
  refine wpAnyH_take (i := 12) (oi := { dst := some 45, op := Op.binOp BinOp.eql 4 (Operand.tmp 38) (Operand.tmp 44) 4, type := 4, pos := "law.go:122", after := #[{ on := 5, ground := Ground.data }, { on := 11, ground := Ground.data }], guard := none }) (v := .bool true) rfl (by kernel_rfl) (by kernel_rfl) (by kernel_rfl) (fun _ _ _ h => h.elim) (Or.inl ⟨by rfl, ?y12⟩) hS4.out ?_
  case y12 =>
    intro V hV
    go_simp
  simp only [Act.put, List.setIfInBounds_toArray, List.set_cons_zero, List.set_cons_succ]
  refine wpAnyH_take (i := 13) (oi := { dst := some 46, op := Op.move (Operand.tmp 45), type := 4, pos := "law.go:122", after := #[{ on := 12, ground := Ground.data }, { on := 10, ground := Ground.chain }], guard := none }) (v := .bool true) rfl (by kernel_rfl) (by kernel_rfl) (by kernel_rfl) (fun _ _ _ h => h.elim) (Or.inl ⟨by rfl, ?y13⟩) hS4.out ?_
  case y13 =>
    intro V hV
    go_simp
  simp only [Act.put, List.setIfInBounds_toArray, List.set_cons_zero, List.set_cons_succ]
  refine wpAnyH_ready (rs := [14]) (by kernel_rfl) (by simp) (AllReadyH.cons (i := 14) (o := { dst := some 47, op := Op.call { callee := Callee.value (Operand.func 9), args := #[], argTypes := #[] }, type := 4, pos := "law.go:122", after := #[{ on := 13, ground := Ground.chain }, { on := 13, ground := Ground.guard }], guard := some (13, true) }) rfl ?_ AllReadyH.nil)
  intro K1 hK1
  rw [if_pos (by rfl)]
  have HC5 := lives_is V4
  go_wp2_with fail
  refine HC5.mono ?_
  rintro e V5 ⟨rfl, HB5⟩
  dsimp only
  clear HC5
  have hS5 : Hid (Below A.heap.size A V5) := hS4.out.trans (HB5.out.mono hS4.out.size)
  refine hK1.out _ _ hS5.out ?_
  clear hK1
  intro _
  try simp only [Act.put, List.setIfInBounds_toArray, List.set_cons_zero, List.set_cons_succ]
  refine wpAnyH_take (i := 15) (oi := { dst := some 48, op := Op.pick (Operand.tmp 46) (Operand.tmp 47) (Operand.const (Value.bool false)), type := 4, pos := "law.go:122", after := #[{ on := 13, ground := Ground.data }, { on := 14, ground := Ground.data }], guard := none }) (v := .bool true) rfl (by kernel_rfl) (by kernel_rfl) (by kernel_rfl) (fun _ _ _ h => h.elim) (Or.inl ⟨by rfl, ?y15⟩) hS5.out ?_
  case y15 =>
    intro V hV
    go_simp
  simp only [Act.put, List.setIfInBounds_toArray, List.set_cons_zero, List.set_cons_succ]
  refine wpAnyH_take (i := 16) (oi := { dst := some 6, op := Op.assign (Operand.tmp 48), type := 4, pos := "law.go:122", after := #[{ on := 15, ground := Ground.data }, { on := 14, ground := Ground.chain }, { on := 0, ground := Ground.phase }, { on := 1, ground := Ground.phase }, { on := 2, ground := Ground.phase }, { on := 3, ground := Ground.phase }, { on := 4, ground := Ground.phase }, { on := 5, ground := Ground.phase }, { on := 6, ground := Ground.phase }, { on := 7, ground := Ground.phase }, { on := 8, ground := Ground.phase }, { on := 9, ground := Ground.phase }, { on := 10, ground := Ground.phase }, { on := 11, ground := Ground.phase }, { on := 12, ground := Ground.phase }, { on := 13, ground := Ground.phase }, { on := 14, ground := Ground.phase }, { on := 15, ground := Ground.phase }], guard := none }) (v := .bool true) rfl (by kernel_rfl) (by kernel_rfl) (by kernel_rfl) (fun _ _ _ h => h.elim) (Or.inl ⟨by rfl, ?y16⟩) hS5.out ?_
  case y16 =>
    intro V hV
    go_simp
  simp only [Act.put, List.setIfInBounds_toArray, List.set_cons_zero, List.set_cons_succ]
  refine wpAnyH_done (by kernel_rfl) ?_ _
  exact hQ p1 n1 c1 z1 p2 n2 c2 z2 V5 hS5.out
end Go.Proofs.Ytijkpkcopjkhkaa.Oct

/- Layer 12 (deps): in the order each stands behind all that it needs; where it stops short something goes round. Plain facts. -/
namespace Go.Proofs.Ytijkpkcopjkhkaa.Oct

theorem mem_take_at {hs : List Hs} {i : Nat} {d : Hs} (h : d ∈ hs.take i) : ∃ k, k < i ∧ hs[k]? = some d := by
  obtain ⟨k, hk⟩ := List.getElem?_of_mem h
  have hlt := (List.getElem?_eq_some_iff.1 hk).1
  rw [List.length_take] at hlt
  rw [List.getElem?_take_of_lt (by omega)] at hk
  exact ⟨k, by omega, hk⟩
theorem order_behind {l : List It} {hs : List Hs} (ho : OrderS l hs) {i : Nat} {h d : Hs} (hi : hs[i]? = some h) (hr : Reach (getS (downS l)) h d) : ∃ k, k < i ∧ hs[k]? = some d := by
  induction hr with
  | one h1 =>
    obtain ⟨it, m1, m2, m3⟩ := (mem_down l _ _).1 h1
    exact mem_take_at ((ho.1 i h hi).1.2.2 it m1 m2 _ m3)
  | step _ h1 ih =>
    obtain ⟨k, hk, hkx⟩ := ih
    obtain ⟨it, m1, m2, m3⟩ := (mem_down l _ _).1 h1
    obtain ⟨k', hk', hkd⟩ := mem_take_at ((ho.1 k _ hkx).1.2.2 it m1 m2 _ m3)
    exact ⟨k', by omega, hkd⟩
theorem order_noround {l : List It} {hs : List Hs} (ho : OrderS l hs) {h : Hs} (hh : h ∈ hs) : ¬ Reach (getS (downS l)) h h := by
  intro hr
  obtain ⟨i, hi⟩ := List.getElem?_of_mem hh
  obtain ⟨k, hk, hkh⟩ := order_behind ho hi hr
  refine (ho.1 i h hi).1.2.1 ?_
  rw [List.mem_iff_getElem?]
  exact ⟨k, by rw [List.getElem?_take_of_lt hk]; exact hkh⟩
theorem order_mem {l : List It} {hs : List Hs} (ho : OrderS l hs) {h : Hs} (hh : h ∈ hs) : h ∈ l.map (·.name) := by
  obtain ⟨i, hi⟩ := List.getElem?_of_mem hh
  exact (ho.1 i h hi).1.1
theorem order_nodup {l : List It} {hs : List Hs} (ho : OrderS l hs) : hs.Nodup := by
  rw [List.nodup_iff_pairwise_ne, List.pairwise_iff_getElem]
  intro i j hi hj hij e
  have h1 := (ho.1 j hs[j] (List.getElem?_eq_getElem hj)).1.2.1
  exact h1 (by rw [← e]; exact List.mem_take_iff_getElem.2 ⟨i, by omega, rfl⟩)
/-- a set in which each has a step within goes round somewhere -/
theorem goes_round (s : Hs → List Hs) (U : List Hs) (hs : ∀ u ∈ U, ∃ v ∈ U, v ∈ s u) (hne : ∃ u, u ∈ U) : ∃ u ∈ U, Reach s u u := by
  classical
  have key : ∀ (n : Nat) (u : Hs), u ∈ U → (U.filter (fun v => decide (Reach s u v))).length ≤ n → ∃ u ∈ U, Reach s u u := by
    intro n
    induction n with
    | zero =>
      intro u hu hl
      obtain ⟨v, hv, hvs⟩ := hs u hu
      have : v ∈ U.filter (fun v => decide (Reach s u v)) := List.mem_filter.2 ⟨hv, by simpa using Reach.one hvs⟩
      have hp := List.length_pos_of_mem this
      omega
    | succ n ih =>
      intro u hu hl
      obtain ⟨v, hv, hvs⟩ := hs u hu
      by_cases hvv : Reach s v v
      · exact ⟨v, hv, hvv⟩
      · refine ih v hv ?_
        have hsub : ∀ x ∈ U, decide (Reach s v x) = true → decide (Reach s u x) = true := by
          intro x _ hx
          have hx' : Reach s v x := by simpa using hx
          simpa using (Reach.one hvs).trans hx'
        have hlt : (U.filter (fun x => decide (Reach s v x))).length < (U.filter (fun x => decide (Reach s u x))).length := by
          rw [← List.countP_eq_length_filter, ← List.countP_eq_length_filter]
          have gen : ∀ (L : List Hs), (∀ x ∈ L, decide (Reach s v x) = true → decide (Reach s u x) = true) → v ∈ L → L.countP (fun x => decide (Reach s v x)) < L.countP (fun x => decide (Reach s u x)) := by
            intro L
            induction L with
            | nil => intro _ h; cases h
            | cons x t iht =>
              intro hL hm
              have hle : t.countP (fun x => decide (Reach s v x)) ≤ t.countP (fun x => decide (Reach s u x)) := List.countP_mono_left (fun y hy => hL y (by simp [hy]))
              by_cases hxv : x = v
              · subst hxv
                rw [List.countP_cons_of_neg (by simpa using hvv), List.countP_cons_of_pos (by simpa using Reach.one hvs)]
                omega
              · have hm' : v ∈ t := by
                  rcases List.mem_cons.1 hm with e | e
                  · exact absurd e.symm hxv
                  · exact e
                have := iht (fun y hy => hL y (by simp [hy])) hm'
                by_cases hx1 : Reach s v x
                · have hx2 : Reach s u x := by simpa using hL x (by simp) (by simpa using hx1)
                  rw [List.countP_cons_of_pos (by simpa using hx1), List.countP_cons_of_pos (by simpa using hx2)]
                  omega
                · rw [List.countP_cons_of_neg (by simpa using hx1), List.countP_cons]
                  omega
          exact gen U hsub hv
        omega
  obtain ⟨u, hu⟩ := hne
  exact key _ u hu (Nat.le_refl _)
/-- where the order stops short, something goes round -/
theorem short_round {l : List It} {ks : List Hs} (ho : OrderS l ks) (hnd : (l.map (·.name)).Nodup) (hcl : ∀ x, ¬ missing l x) (hlt : ks.length < l.length) : ∃ x ∈ l, Reach (getS (downS l)) x.name x.name := by
  classical
  have hout : ∃ h, h ∈ l.map (·.name) ∧ h ∉ ks := by
    by_cases h : ∃ h, h ∈ l.map (·.name) ∧ h ∉ ks
    · exact h
    · exfalso
      have := nodup_le (l.map (·.name)) ks hnd (fun x hx => by
        by_cases hk : x ∈ ks
        · exact hk
        · exact absurd ⟨x, hx, hk⟩ h)
      simp at this
      omega
  obtain ⟨u, hu, hr⟩ := goes_round (getS (downS l)) ((l.map (·.name)).filter (fun h => decide (h ∉ ks))) (fun u hu => by
    obtain ⟨h1, h2⟩ := List.mem_filter.1 hu
    have h2' : u ∉ ks := by simpa using h2
    have hn := ho.2 u
    have : ∃ x ∈ l, x.name = u ∧ ∃ d ∈ x.deps, d ∉ ks := by
      by_cases h : ∃ x ∈ l, x.name = u ∧ ∃ d ∈ x.deps, d ∉ ks
      · exact h
      · refine absurd ⟨h1, h2', fun x hx e d hd => ?_⟩ hn
        by_cases hk : d ∈ ks
        · exact hk
        · exact absurd ⟨x, hx, e, d, hd, hk⟩ h
    obtain ⟨x, hx, e, d, hd, hk⟩ := this
    have hdn : d ∈ l.map (·.name) := by
      by_cases h : d ∈ l.map (·.name)
      · exact h
      · exact absurd ⟨⟨x, hx, hd⟩, h⟩ (hcl d)
    exact ⟨d, List.mem_filter.2 ⟨hdn, by simpa using hk⟩, (mem_down l u d).2 ⟨x, hx, e, hd⟩⟩) (by
    obtain ⟨h, h1, h2⟩ := hout
    exact ⟨h, List.mem_filter.2 ⟨h1, by simpa using h2⟩⟩)
  obtain ⟨h1, _⟩ := List.mem_filter.1 hu
  obtain ⟨x, hx, rfl⟩ := List.mem_map.1 h1
  exact ⟨x, hx, hr⟩
end Go.Proofs.Ytijkpkcopjkhkaa.Oct

/- Layer 12 (deps): items that say the same have the same answers. Plain facts. -/
namespace Go.Proofs.Ytijkpkcopjkhkaa.Oct

/-- items that say the same -/
structure Alike (l m : List It) : Prop where
  len : l.length = m.length
  nd : (l.map (·.name)).Nodup ↔ (m.map (·.name)).Nodup
  names : ∀ h, h ∈ l.map (·.name) ↔ h ∈ m.map (·.name)
  needs : ∀ n d, (∃ x ∈ l, x.name = n ∧ d ∈ x.deps) ↔ ∃ x ∈ m, x.name = n ∧ d ∈ x.deps
theorem Alike.symm {l m : List It} (h : Alike l m) : Alike m l := ⟨h.len.symm, h.nd.symm, fun x => (h.names x).symm, fun n d => (h.needs n d).symm⟩
theorem rdy_iff (l : List It) (told : List Hs) (h : Hs) : Rdy l told h ↔ h ∈ l.map (·.name) ∧ h ∉ told ∧ ∀ d, (∃ x ∈ l, x.name = h ∧ d ∈ x.deps) → d ∈ told :=
  ⟨fun ⟨a, b, c⟩ => ⟨a, b, fun d ⟨x, hx, e, hd⟩ => c x hx e d hd⟩, fun ⟨a, b, c⟩ => ⟨a, b, fun x hx e d hd => c d ⟨x, hx, e, hd⟩⟩⟩
theorem Alike.rdy {l m : List It} (h : Alike l m) (told : List Hs) (k : Hs) : Rdy l told k ↔ Rdy m told k := by
  rw [rdy_iff, rdy_iff, h.names]
  exact and_congr Iff.rfl (and_congr Iff.rfl (forall_congr' fun d => by rw [h.needs]))
theorem Alike.missing {l m : List It} (h : Alike l m) (x : Hs) : missing l x ↔ missing m x := by
  have key : ∀ {l m : List It}, Alike l m → Oct.missing l x → Oct.missing m x := by
    rintro l m h ⟨⟨it, h1, h2⟩, h3⟩
    obtain ⟨y, hy, _, hd⟩ := (h.needs it.name x).1 ⟨it, h1, rfl, h2⟩
    exact ⟨⟨y, hy, hd⟩, fun e => h3 ((h.names x).2 e)⟩
  exact ⟨key h, key h.symm⟩
theorem Alike.down {l m : List It} (h : Alike l m) (a b : Hs) : Reach (getS (downS l)) a b ↔ Reach (getS (downS m)) a b :=
  reach_same fun x y => by rw [mem_down, mem_down, h.needs]
theorem Alike.up {l m : List It} (h : Alike l m) (a b : Hs) : Reach (getS (upS l)) a b ↔ Reach (getS (upS m)) a b := by
  rw [← mirror, ← mirror]; exact h.down b a
theorem Alike.closed {l m : List It} (h : Alike l m) : ClosedL l.length l ↔ ClosedL m.length m := by
  unfold ClosedL
  rw [h.len, h.nd]
  exact and_congr Iff.rfl (and_congr Iff.rfl (forall_congr' fun x => by rw [h.missing]))
/-- one answer alone -/
theorem OrdA.same {l m : List It} (h : Alike l m) {hs ks : List Hs} {er fr : Int} (ha : OrdA l hs er) (hb : OrdA m ks fr) : hs = ks ∧ er = fr := by
  have hl := h.len
  rcases ha with ⟨a1, a2, a3⟩ | ⟨a1, a2, a3, a4⟩ | ⟨a1, a2, ⟨x, a3⟩, a4, a5⟩ | ⟨a1, a2, a3, ⟨u, a4, a5⟩, a6, a7⟩ | ⟨a1, a2, a3, a4, a5, a6⟩ <;>
  rcases hb with ⟨b1, b2, b3⟩ | ⟨b1, b2, b3, b4⟩ | ⟨b1, b2, ⟨y, b3⟩, b4, b5⟩ | ⟨b1, b2, b3, ⟨v, b4, b5⟩, b6, b7⟩ | ⟨b1, b2, b3, b4, b5, b6⟩ <;>
  first
    | exact ⟨by rw [a2, b2], by rw [a3, b3]⟩
    | exact ⟨by rw [a3, b3], by rw [a4, b4]⟩
    | exact ⟨by rw [a4, b4], by rw [a5, b5]⟩
    | exact ⟨by rw [a6, b6], by rw [a7, b7]⟩
    | exact ⟨OrderS.same h.rdy a4 b4, by rw [a6, b6]⟩
    | (exfalso; omega)
    | exact absurd (h.nd.2 b2) a2
    | exact absurd (h.nd.1 a2) b2
    | exact absurd ((h.missing _).1 a3) (b3 _)
    | exact absurd ((h.missing _).2 b3) (a3 _)
    | (exfalso; have e := congrArg List.length (OrderS.same h.rdy a4 b4); omega)
end Go.Proofs.Ytijkpkcopjkhkaa.Oct

/- Layer 12 (deps): DepsMirror. -/
namespace Go.Proofs.Ytijkpkcopjkhkaa.Oct
open Go.RowKit

/-- what a law answers -/
def Law (w : World) (e : Ending) (w' : World) : Prop := e = .returned (.bool true) ∧ Below w.heap.size w w'

theorem bt {w w1 w2 : World} (h : Below w.heap.size w w1) (k : Below w1.heap.size w1 w2) : Below w.heap.size w w2 := h.trans (k.mono h.size)
/-- what 'Needs' tells, one hash asked -/
theorem needs_tell (w : World) (a : Option Addr) (len cap : Nat) (l : List It) (h y : Hs) (hi : Its w a len l) (hl : h.length = 32) (hn : len ≤ 256) (hm : many l ≤ 90000) (B : Bool) (hB : B = true ↔ Reach (getS (downS l)) h y) :
    Calls Try.prog 14 #[.slice a len cap, .agg (U h).toArray] w fun e w' => ∃ p n c rs, e = .returned (.slice p n c) ∧ Hid (HsR w' p n rs ∧ n ≤ 100000 ∧ decide (y ∈ rs) = B) ∧ Hid (Below w.heap.size w w') := by
  refine (needs_is w a len cap l h hi hl (by omega) hm).mono ?_
  rintro e w' ⟨p, n, c, rs, rfl, H1, H2⟩
  refine ⟨p, n, c, rs, rfl, ⟨H1.out.1, H1.out.2.1, ?_⟩, H2⟩
  rw [Bool.eq_iff_iff, decide_eq_true_iff, hB, H1.out.2.2.2]
  exact ⟨fun h => h.2, fun h => ⟨hn, h⟩⟩
theorem above_tell (w : World) (a : Option Addr) (len cap : Nat) (l : List It) (h y : Hs) (hi : Its w a len l) (hl : h.length = 32) (hn : len ≤ 256) (hm : many l ≤ 90000) (B : Bool) (hB : B = true ↔ Reach (getS (upS l)) h y) :
    Calls Try.prog 16 #[.slice a len cap, .agg (U h).toArray] w fun e w' => ∃ p n c rs, e = .returned (.slice p n c) ∧ Hid (HsR w' p n rs ∧ n ≤ 100000 ∧ decide (y ∈ rs) = B) ∧ Hid (Below w.heap.size w w') := by
  refine (above_is w a len cap l h hi hl (by omega) hm).mono ?_
  rintro e w' ⟨p, n, c, rs, rfl, H1, H2⟩
  refine ⟨p, n, c, rs, rfl, ⟨H1.out.1, H1.out.2.1, ?_⟩, H2⟩
  rw [Bool.eq_iff_iff, decide_eq_true_iff, hB, H1.out.2.2.2]
  exact ⟨fun h => h.2, fun h => ⟨hn, h⟩⟩

set_option maxRecDepth 100000 in
set_option maxHeartbeats 2000000 in
theorem mirror_law (l : List It) (a : Option Addr) (len cap : Nat) (t : Int) (h : Hs) (w : World) (hi : Its w a len l) (hc : len ≤ cap ∧ cap ≤ maxLen) (hl : h.length = 32) :
    Calls Try.prog 7 #[.slice a len cap, .int .i64 t, .agg (U h).toArray] w (Law w) := by
  obtain ⟨W, hW⟩ : ∃ W, w.alloc (.cells (U h).toArray 34) = W := ⟨_, rfl⟩
  have HB : Hid (Below w.heap.size w W ∧ W.rangeAt w.heap.size 0 (U h) ∧ w.heap.size < W.heap.size) := ⟨by rw [← hW]; exact (Below.refl _ w).alloc (Nat.le_refl _) _, by rw [← hW]; exact new34 w h, by rw [← hW]; simp⟩
  have HW : Hid (w.alloc (.cells (U h).toArray 34) = W) := hW
  have HI : Hid (Its w a len l ∧ h.length = 32) := ⟨hi, hl⟩
  have H8 : Hid (Calls Try.prog 8 #[.slice a len cap] W (LightP W len l)) := light_is W a len cap l (hi.below HB.out.1) hc
  have q5 : (len : Int) ≤ 9223372036854775807 := by have h1 := hc.1; have h2 := hc.2; unfold maxLen at h2; omega
  clear hW hi hl hc
  go_enter Try.func7, Try.ntmps7
  go_wp2_with fail
  rw [HW.out]
  refine H8.out.mono ?_
  rintro e w' ⟨b, rfl, HL, rfl⟩
  cases b with
  | false =>
    go_wp2_with fail
    refine (lives_is W).mono ?_
    rintro e w1 ⟨rfl, HB1⟩
    go_wp2
    go_ret
    exact ⟨rfl, HB.out.1.trans (HB1.out.mono HB.out.1.size)⟩
  | true =>
    by_cases h60 : 60 < len
    · have q1 : (60 : Int) < (len : Int) := by omega
      clear h60
      go_wp2_with fail
      refine (lives_is W).mono ?_
      rintro e w1 ⟨rfl, HB1⟩
      go_wp2
      go_ret
      exact ⟨rfl, HB.out.1.trans (HB1.out.mono HB.out.1.size)⟩
    · by_cases h0 : len = 0
      · subst h0
        go_wp2_with fail
        refine (lives_is W).mono ?_
        rintro e w1 ⟨rfl, HB1⟩
        go_wp2
        go_ret
        exact ⟨rfl, HB.out.1.trans (HB1.out.mono HB.out.1.size)⟩
      · have q1 : ¬ (60 : Int) < (len : Int) := by omega
        have q2 : ((len : Int) == 0) = false := by simp; omega
        have hU : 0 ≤ IntKind.u64.wrap t := by simp [IntKind.wrap, IntKind.signed, IntKind.bits]; omega
        obtain ⟨k, hk⟩ : ∃ k : Nat, (IntKind.u64.wrap t).tmod (len : Int) = (k : Int) ∧ k < len := by
          have h1 : 0 ≤ (IntKind.u64.wrap t).tmod (len : Int) := Int.tmod_nonneg _ hU
          have h2 := Int.tmod_lt_of_pos (IntKind.u64.wrap t) (show (0 : Int) < (len : Int) by omega)
          exact ⟨((IntKind.u64.wrap t).tmod (len : Int)).toNat, by omega, by omega⟩
        have q3 := hk.1
        have q4 : (k : Int) < (len : Int) := by omega
        obtain ⟨x, hx⟩ : ∃ x, l[k]? = some x := ⟨_, List.getElem?_eq_getElem (by rw [HI.out.1.1]; exact hk.2)⟩
        obtain ⟨b, off, rfl, hb, hel⟩ := HI.out.1.2 (by omega)
        have HX : Hid (x ∈ l ∧ x.name.length = 32 ∧ len ≤ 60 ∧ many l ≤ 90000) := ⟨List.mem_of_getElem? hx, (hel k x hx).1, by omega, by have := (HL.out rfl).2; omega⟩
        have HRA : Hid (W.rangeAt b (off + k * 33) (U x.name)) := rangeAt_same (hel k x hx).nm (HB.out.1.block b hb)
        obtain ⟨Y, hYl, hY⟩ := zero34
        have HZ : Hid (Y.length = 32) := hYl
        clear hYl h60 h0 hU hk hx hel hb
        go_wp2_with (first
          | (with_reducible change wpList _ _ _ ({ dst := some 32, op := _, type := _, pos := _, after := _, guard := _ } :: _) _ _
             refine wpList_load_mid rfl 34 (.tmp 31) rfl b (off + k * 33) rfl (U x.name) _ HRA.out Try.underlying34 rfl (info34 x.name HX.out.2.1) ?_)
          | (with_reducible change wpList _ _ _ ({ dst := none, op := Op.store 34 _ _, type := _, pos := _, after := _, guard := _ } :: _) _ _
             refine wpList_store_fresh rfl 34 (.tmp 7) (.tmp 32) rfl Y (U x.name) 34 rfl rfl (by rw [U_length, HX.out.2.1, HZ.out]) (info34 x.name HX.out.2.1) (U_one _) ?_)
          | fail)
        obtain ⟨V, hV⟩ : ∃ V, W.alloc (.cells (U x.name).toArray 34) = V := ⟨_, rfl⟩
        have HV : Hid (Below W.heap.size W V ∧ V.rangeAt W.heap.size 0 (U x.name) ∧ W.heap.size < V.heap.size) := by rw [← hV]; exact ⟨(Below.refl _ W).alloc (Nat.le_refl _) _, new34 W x.name, by simp⟩
        have HBV : Hid (Below w.heap.size w V) := bt HB.out.1 HV.out.1
        rw [hV]
        clear hV
        obtain ⟨B, hB⟩ : ∃ B : Bool, B = true ↔ Reach (getS (downS l)) x.name h := by
          classical
          exact ⟨decide (Reach (getS (downS l)) x.name h), decide_eq_true_iff⟩
        have HBB : Hid (B = true ↔ Reach (getS (downS l)) x.name h) := hB
        clear hB
        refine mirror_region (x := x.name) (h := h) (B := B) (show Hid _ from ⟨HI.out.2, HX.out.2.1⟩) ⟨HV.out.2.1, rangeAt_same HB.out.2.1 (HV.out.1.block _ HB.out.2.2), HV.out.2.2, Nat.lt_of_lt_of_le HB.out.2.2 HV.out.1.size⟩
          (fun V1 h1 => needs_tell V1 _ len cap l x.name h (HI.out.1.below (bt HBV.out h1)) HX.out.2.1 (by have := HX.out.2.2.1; omega) HX.out.2.2.2 B HBB.out)
          (fun V1 h1 => above_tell V1 _ len cap l h x.name (HI.out.1.below (bt HBV.out h1)) HI.out.2 (by have := HX.out.2.2.1; omega) HX.out.2.2.2 B (HBB.out.trans (mirror l x.name h))) ?_
        intro p1 n1 c1 z1 p2 n2 c2 z2 V5 hV5
        have HV5 : Hid (Below w.heap.size w V5) := bt HBV.out hV5
        clear hV5
        go_wp2
        go_ret
        exact ⟨rfl, HV5.out⟩
end Go.Proofs.Ytijkpkcopjkhkaa.Oct

/- Layer 12 (deps): the reference: Missing, Closed. -/
namespace Go.Proofs.Ytijkpkcopjkhkaa.Oct
open Go.RowKit

theorem RiR.len_le {w : World} {p : Option Addr} {m c : Nat} {rs : List Hs} {l : List It} (h : RiR w p m c rs) (hs : ∀ x ∈ rs, ∃ it ∈ l, x ∈ it.deps) : m ≤ many l := by
  have h1 := nodup_le rs (allD l) (rise_nodup h.2.2.2) (fun x hx => by
    obtain ⟨it, h1, h2⟩ := hs x hx
    exact List.mem_flatMap.2 ⟨it, h1, h2⟩)
  rw [allD_len, h.1.1] at h1
  exact h1
theorem dep_take_succ {ds : List Hs} {j : Nat} {d : Hs} (h : ds[j]? = some d) (y : Hs) : y ∈ ds.take (j + 1) ↔ y ∈ ds.take j ∨ y = d := by
  rw [List.take_add_one, h]; simp
theorem it_take_succ {l : List It} {i : Nat} {x : It} (h : l[i]? = some x) (y : Hs) : (∃ it ∈ l.take (i + 1), y ∈ it.deps) ↔ (∃ it ∈ l.take i, y ∈ it.deps) ∨ y ∈ x.deps := by
  rw [List.take_add_one, h]
  simp only [Option.toList, List.mem_append, List.mem_singleton]
  constructor
  · rintro ⟨it, h1 | rfl, h2⟩
    · exact .inl ⟨it, h1, h2⟩
    · exact .inr h2
  · rintro (⟨it, h1, h2⟩ | h2)
    · exact ⟨it, .inl h1, h2⟩
    · exact ⟨x, .inr rfl, h2⟩

set_option maxRecDepth 100000 in
set_option maxHeartbeats 2000000 in
theorem rmissing_is (w : World) (a : Option Addr) (len cap : Nat) (l : List It) (hi : Its w a len l) (hn : len ≤ 100000) (hm : many l ≤ 90000) :
    Calls Try.prog 19 #[.slice a len cap] w (SetP w fun x => len ≤ 256 ∧ missing l x) := by
  have HA : Hid (Its w a len l ∧ len ≤ 100000 ∧ many l ≤ 90000 ∧ l.length = len) := ⟨hi, hn, hm, hi.1⟩
  have q5 : (len : Int) ≤ 100000 := by omega
  clear hi hn hm
  by_cases h256 : 256 < len
  · have q1 : (256 : Int) < (len : Int) := by omega
    have HN : Hid (¬ len ≤ 256) := by show ¬ _; omega
    clear h256
    go_enter Try.func19, Try.ntmps19
    go_wp2
    go_ret
    exact SetP.nil w (fun x hx => HN.out hx.1) (Below.refl _ _)
  · have q1 : ¬ (256 : Int) < (len : Int) := by omega
    have HN : Hid (len ≤ 256) := by show _ ≤ _; omega
    clear h256
    go_enter Try.func19, Try.ntmps19
    go_wp2
    go_loopw [4, 3] (fun u v wr => ∃ (i : Nat) (p : Option Addr) (m c : Nat) (rs : List Hs), u = .int .i64 (i : Int) ∧ v = .slice p m c ∧ Hid (i ≤ len ∧ Below w.heap.size w wr ∧ RiR wr p m c rs ∧ ∀ y, y ∈ rs ↔ (∃ it ∈ l.take i, y ∈ it.deps) ∧ y ∉ l.map (·.name))) (fun u _ _ => len - (intOf u).toNat)
    case atStart => exact ⟨0, none, 0, 0, [], rfl, rfl, ⟨Nat.zero_le _, Below.refl _ _, RiR.nil _, by simp⟩⟩
    case round =>
      obtain ⟨i, p0, m0, c0, rs0, rfl, rfl, HJ⟩ := hrel
      by_cases hin : i < len
      · obtain ⟨x, hx⟩ : ∃ x, l[i]? = some x := ⟨_, List.getElem?_eq_getElem (by rw [HA.out.2.2.2]; exact hin)⟩
        obtain ⟨b, off, rfl, hb, hel⟩ := HA.out.1.2 (by omega)
        have HX : Hid (i < len ∧ l[i]? = some x ∧ b < w.heap.size ∧ w.cell? ⟨b, off + i * 33 + 32, none⟩ = some (.slice x.a x.n x.c)) := ⟨hin, hx, hb, (hel i x hx).dep⟩
        have HDW : Hid (HsR w x.a x.n x.deps) := (hel i x hx).2.2.1
        have q2 : (i : Int) < (len : Int) := by omega
        have q3 : (x.n : Int) ≤ 90000 := by have h1 := dep_le l i x hx; have h2 := HDW.out.1; have h3 := HA.out.2.2.1; omega
        clear hel hx hin hb
        go_wp2
        obtain ⟨W1, hW1⟩ : ∃ W1, W1 = wr := ⟨_, rfl⟩
        subst hW1
        go_loopw [5, 3] (fun u v wr => ∃ (j : Nat) (p : Option Addr) (m c : Nat) (rs : List Hs), u = .int .i64 (j : Int) ∧ v = .slice p m c ∧ Hid (j ≤ x.n ∧ Below w.heap.size w wr ∧ RiR wr p m c rs ∧ ∀ y, y ∈ rs ↔ ((∃ it ∈ l.take i, y ∈ it.deps) ∨ y ∈ x.deps.take j) ∧ y ∉ l.map (·.name))) (fun u _ _ => x.n - (intOf u).toNat)
        case atStart => exact ⟨0, p0, m0, c0, rs0, rfl, rfl, ⟨Nat.zero_le _, HJ.out.2.1, HJ.out.2.2.1, fun y => by rw [HJ.out.2.2.2 y]; simp⟩⟩
        case round =>
          obtain ⟨j, p, m, c, rs, rfl, rfl, HK⟩ := hrel
          have c1 : wr.cell? ⟨b, off + i * 33 + 32, none⟩ = some (.slice x.a x.n x.c) := (HK.out.2.1.cell (p := ⟨b, _, none⟩) HX.out.2.2.1).trans HX.out.2.2.2
          by_cases hj : j < x.n
          · obtain ⟨d, hd⟩ : ∃ d, x.deps[j]? = some d := ⟨_, List.getElem?_eq_getElem (by rw [HDW.out.1]; exact hj)⟩
            obtain ⟨g2, off2, hxa, hg2, hel2⟩ := HDW.out.2.2 (by omega)
            have HD : Hid (j < x.n ∧ d.length = 32 ∧ wr.rangeAt g2 (off2 + j * 32) (U d) ∧ x.deps[j]? = some d ∧ g2 < w.heap.size) := ⟨hj, HDW.out.2.1 d (List.mem_of_getElem? hd), rangeAt_same (hel2 j d hd) (HK.out.2.1.block g2 hg2), hd, hg2⟩
            have q4 : (j : Int) < (x.n : Int) := by omega
            rw [hxa] at c1
            have HXA : Hid (x.a = some ⟨g2, off2, none⟩) := hxa
            clear hj hd hel2 hxa hg2
            obtain ⟨B, hB⟩ : ∃ B : Bool, B = true ↔ d ∈ l.map (·.name) := ⟨decide (d ∈ l.map (·.name)), decide_eq_true_iff⟩
            have HBB : Hid (B = true ↔ d ∈ l.map (·.name)) := hB
            clear hB
            go_wp2_with (first
              | (with_reducible change wpList _ _ _ ({ dst := some 33, op := _, type := _, pos := _, after := _, guard := _ } :: _) _ _
                 refine wpList_load_mid rfl 34 (.tmp 32) rfl g2 (off2 + j * 32) rfl (U d) _ HD.out.2.2.1 Try.underlying34 rfl (info34 d HD.out.2.1) ?_)
              | fail)
            refine (named_is wr _ len cap l d (HA.out.1.below HK.out.2.1) HD.out.2.1 HA.out.2.1 B HBB.out).mono ?_
            rintro e V1 ⟨rfl, HB1⟩
            have HV1 : Hid (Below w.heap.size w V1 ∧ V1.rangeAt g2 (off2 + j * 32) (U d) ∧ RiR V1 p m c rs) := ⟨bt HK.out.2.1 HB1.out, rangeAt_same HD.out.2.2.1 (HB1.out.block _ (Nat.lt_of_lt_of_le HD.out.2.2.2.2 HK.out.2.1.size)), HK.out.2.2.1.below HB1.out⟩
            clear c1
            cases B with
            | true =>
              go_wp2
              refine ⟨⟨j + 1, p, m, c, rs, by simp, rfl, ⟨HD.out.1, HV1.out.1, HV1.out.2.2, fun y => ?_⟩⟩, ?_⟩
              · rw [HK.out.2.2.2 y, dep_take_succ HD.out.2.2.2.1]
                constructor
                · rintro ⟨h1 | h1, h2⟩
                  · exact ⟨.inl h1, h2⟩
                  · exact ⟨.inr (.inl h1), h2⟩
                · rintro ⟨h1 | h1 | rfl, h2⟩
                  · exact ⟨.inl h1, h2⟩
                  · exact ⟨.inr h1, h2⟩
                  · exact absurd (HBB.out.1 (by trivial)) h2
              · have := HD.out.1; simp [intOf]; omega
            | false =>
              have c1 : V1.cell? ⟨b, off + i * 33 + 32, none⟩ = some (.slice (some ⟨g2, off2, none⟩) x.n x.c) := by
                rw [← HXA.out]
                exact (HV1.out.1.cell (p := ⟨b, _, none⟩) HX.out.2.2.1).trans HX.out.2.2.2
              go_wp2_with (first
                | (with_reducible change wpList _ _ _ ({ dst := some 44, op := _, type := _, pos := _, after := _, guard := _ } :: _) _ _
                   refine wpList_load_mid rfl 34 (.tmp 43) rfl g2 (off2 + j * 32) rfl (U d) _ HV1.out.2.1 Try.underlying34 rfl (info34 d HD.out.2.1) ?_)
                | fail)
              refine (with_is V1 p m c rs d HV1.out.2.2 HD.out.2.1 (by
                have := HK.out.2.2.1.len_le (l := l) (fun y hy => by
                  rcases ((HK.out.2.2.2 y).1 hy).1 with ⟨it, h1, h2⟩ | h1
                  · exact ⟨it, List.mem_of_mem_take h1, h2⟩
                  · exact ⟨x, List.mem_of_getElem? HX.out.2.1, List.mem_of_mem_take h1⟩)
                have := HA.out.2.2.1
                omega)).mono ?_
              rintro e V2 ⟨p', m', c', rs', rfl, H2, HB2, _⟩
              clear c1
              go_wp2
              refine ⟨⟨j + 1, p', m', c', rs', by simp, rfl, ⟨HD.out.1, bt HV1.out.1 HB2.out, H2.out.1, fun y => ?_⟩⟩, ?_⟩
              · rw [H2.out.2.2 y, HK.out.2.2.2 y, dep_take_succ HD.out.2.2.2.1]
                constructor
                · rintro (⟨h1 | h1, h2⟩ | rfl)
                  · exact ⟨.inl h1, h2⟩
                  · exact ⟨.inr (.inl h1), h2⟩
                  · exact ⟨.inr (.inr rfl), fun h => by have := HBB.out.2 h; cases this⟩
                · rintro ⟨h1 | h1 | rfl, h2⟩
                  · exact .inl ⟨.inl h1, h2⟩
                  · exact .inl ⟨.inr h1, h2⟩
                  · exact .inr rfl
              · have := HD.out.1; simp [intOf]; omega
          · have q4 : ¬ (j : Int) < (x.n : Int) := by omega
            have HJN : Hid (j = x.n) := by have := HK.out.1; show _ = _; omega
            clear hj
            go_wp2
            refine ⟨⟨i + 1, p, m, c, rs, by simp, rfl, ⟨HX.out.1, HK.out.2.1, HK.out.2.2.1, fun y => ?_⟩⟩, ?_⟩
            · rw [HK.out.2.2.2 y, it_take_succ HX.out.2.1, List.take_of_length_le (l := x.deps) (by rw [HDW.out.1, HJN.out]; exact Nat.le_refl _)]
            · have := HX.out.1; simp [intOf]; omega
      · have q2 : ¬ (i : Int) < (len : Int) := by omega
        have HT : Hid (l.take i = l) := List.take_of_length_le (by have := HA.out.2.2.2; omega)
        clear hin
        go_wp2
        go_ret
        refine ⟨p0, m0, c0, rs0, rfl, ⟨HJ.out.2.2.1.1, ?_, HJ.out.2.2.1.2.2.2, fun y => ?_⟩, HJ.out.2.1⟩
        · have := HJ.out.2.2.1.len_le (l := l) (fun y hy => by
            obtain ⟨it, h1, h2⟩ := ((HJ.out.2.2.2 y).1 hy).1
            exact ⟨it, List.mem_of_mem_take h1, h2⟩)
          have := HA.out.2.2.1
          omega
        · rw [HJ.out.2.2.2 y, HT.out]
          exact ⟨fun h => ⟨HN.out, h⟩, fun h => h.2⟩

set_option maxRecDepth 100000 in
set_option maxHeartbeats 2000000 in
theorem rclosed_is (w : World) (a : Option Addr) (len cap : Nat) (l : List It) (hi : Its w a len l) (hc : len ≤ cap) (hn : len ≤ 100000) (hm : many l ≤ 90000) :
    Calls Try.prog 21 #[.slice a len cap] w (ClosedP w len l) := by
  have HA : Hid (Its w a len l ∧ len ≤ 100000 ∧ many l ≤ 90000 ∧ len ≤ cap) := ⟨hi, hn, hm, hc⟩
  have q5 : (len : Int) ≤ 100000 := by omega
  clear hi hn hm hc
  by_cases h256 : 256 < len
  · have q1 : ¬ (len : Int) ≤ 256 := by omega
    have HN : Hid (¬ len ≤ 256) := by show ¬ _; omega
    clear h256
    go_enter Try.func21, Try.ntmps21
    go_wp2
    go_ret
    exact ⟨false, rfl, ⟨(fun h => by cases h), fun h => absurd h.1 HN.out⟩, Below.refl _ _⟩
  · have q1 : (len : Int) ≤ 256 := by omega
    have HN : Hid (len ≤ 256) := by show _ ≤ _; omega
    clear h256
    go_enter Try.func21, Try.ntmps21
    go_wp2_with fail
    refine (twice_is w a len cap l HA.out.1 HA.out.2.2.2 HA.out.2.1).mono ?_
    rintro e w1 ⟨b, rfl, H1, HB1⟩
    cases b with
    | true =>
      go_wp2
      go_ret
      exact ⟨false, rfl, ⟨(fun h => by cases h), fun h => by have := H1.out.2 h.2.1; cases this⟩, HB1⟩
    | false =>
      go_wp2_with fail
      refine (rmissing_is w1 a len cap l (HA.out.1.below HB1.out) HA.out.2.1 HA.out.2.2.1).mono ?_
      rintro e w2 ⟨a2, n2, c2, rs, rfl, H2, HB2⟩
      by_cases h0 : n2 = 0
      · subst h0
        go_wp2
        go_ret
        refine ⟨true, rfl, ⟨fun _ => ⟨HN.out, H1.out.1 (by trivial), fun x hx => ?_⟩, fun _ => rfl⟩, bt HB1.out HB2.out⟩
        have h1 := (H2.out.2.2.2 x).2 ⟨HN.out, hx⟩
        rw [List.eq_nil_of_length_eq_zero H2.out.1.1] at h1
        cases h1
      · have e0 : ((n2 : Int) == 0) = false := by simp; omega
        have HX : Hid (∃ x, x ∈ rs) := by
          show ∃ x, x ∈ rs
          cases rs with
          | nil => exact absurd H2.out.1.1.symm h0
          | cons x rs => exact ⟨x, by simp⟩
        clear h0
        go_wp2
        go_ret
        refine ⟨false, rfl, ⟨(fun h => by cases h), fun h => ?_⟩, bt HB1.out HB2.out⟩
        obtain ⟨x, hx⟩ := HX.out
        exact absurd ((H2.out.2.2.2 x).1 hx).2 (h.2.2 x)
end Go.Proofs.Ytijkpkcopjkhkaa.Oct

/- Layer 12 (deps): the reference: Needs as a search. Plain facts. -/
namespace Go.Proofs.Ytijkpkcopjkhkaa.Oct

/-- what the search holds: what was met, and what is to be looked at -/
def NS (l : List It) (h : Hs) (rs ts : List Hs) : Prop := ∃ ms, ts = h :: ms ∧ ms.Nodup ∧ (∀ x, x ∈ rs ↔ x ∈ ms) ∧ ∀ x ∈ ms, Reach (getS (downS l)) h x
theorem NS.start (l : List It) (h : Hs) : NS l h [] [h] := ⟨[], rfl, List.nodup_nil, by simp, by simp⟩
theorem NS.len {l : List It} {h : Hs} {rs ts : List Hs} (hs : NS l h rs ts) : ts.length ≤ many l + 1 := by
  obtain ⟨ms, rfl, h1, _, h3⟩ := hs
  have := nodup_le ms (allS (downS l)) h1 (fun x hx => reach_all (h3 x hx))
  have := downS_all l
  simp
  omega
theorem NS.rlen {l : List It} {h : Hs} {rs ts : List Hs} (hs : NS l h rs ts) (hn : rs.Pairwise LtH) : rs.length ≤ many l := by
  obtain ⟨ms, rfl, _, h2, h3⟩ := hs
  have := nodup_le rs (allS (downS l)) (rise_nodup hn) (fun x hx => reach_all (h3 x ((h2 x).1 hx)))
  have := downS_all l
  omega
theorem NS.reach {l : List It} {h t d : Hs} {rs ts : List Hs} (hs : NS l h rs ts) (ht : t ∈ ts) {it : It} (hi : it ∈ l) (hn : it.name = t) (hd : d ∈ it.deps) : Reach (getS (downS l)) h d := by
  obtain ⟨ms, rfl, _, _, h3⟩ := hs
  have h4 : d ∈ getS (downS l) t := (mem_down l t d).2 ⟨it, hi, hn, hd⟩
  rcases List.mem_cons.1 ht with rfl | h5
  · exact .one h4
  · exact .step (h3 t h5) h4
theorem NS.add {l : List It} {h d : Hs} {rs rs' ts : List Hs} (hs : NS l h rs ts) (hd : d ∉ rs) (hr : Reach (getS (downS l)) h d) (he : ∀ x, x ∈ rs' ↔ x ∈ rs ∨ x = d) : NS l h rs' (ts ++ [d]) := by
  obtain ⟨ms, rfl, h1, h2, h3⟩ := hs
  refine ⟨ms ++ [d], by simp, ?_, fun x => ?_, fun x hx => ?_⟩
  · rw [List.nodup_append]
    refine ⟨h1, by simp, fun a ha b hb e => ?_⟩
    simp at hb
    subst hb
    exact hd ((h2 _).2 (e ▸ ha))
  · rw [he, h2]; simp
  · rcases List.mem_append.1 hx with hx | hx
    · exact h3 x hx
    · simp at hx; subst hx; exact hr
/-- all that those ahead of the n-th need was met -/
def Dn (l : List It) (rs ts : List Hs) (n : Nat) : Prop := ∀ k t, k < n → ts[k]? = some t → ∀ it ∈ l, it.name = t → ∀ d ∈ it.deps, d ∈ rs
def Di (l : List It) (rs : List Hs) (t : Hs) (i : Nat) : Prop := ∀ it ∈ l.take i, it.name = t → ∀ d ∈ it.deps, d ∈ rs
def Dk (ds rs : List Hs) (k : Nat) : Prop := ∀ d ∈ ds.take k, d ∈ rs
theorem Dn.add {l : List It} {rs rs' ts : List Hs} {n : Nat} {d : Hs} (h : Dn l rs ts n) (hn : n < ts.length) (he : ∀ x, x ∈ rs' ↔ x ∈ rs ∨ x = d) : Dn l rs' (ts ++ [d]) n := by
  intro k t hk ht it hi hin e he'
  rw [List.getElem?_append_left (by omega)] at ht
  exact (he _).2 (.inl (h k t hk ht it hi hin e he'))
theorem Di.add {l : List It} {rs rs' : List Hs} {t d : Hs} {i : Nat} (h : Di l rs t i) (he : ∀ x, x ∈ rs' ↔ x ∈ rs ∨ x = d) : Di l rs' t i :=
  fun it hi hin e he' => (he _).2 (.inl (h it hi hin e he'))
theorem Dk.succ {ds rs : List Hs} {k : Nat} {d : Hs} (h : Dk ds rs k) (hd : ds[k]? = some d) (hm : d ∈ rs) : Dk ds rs (k + 1) := by
  intro e he
  rcases (dep_take_succ hd e).1 he with h1 | rfl
  · exact h e h1
  · exact hm
theorem Dk.add {ds rs rs' : List Hs} {k : Nat} {d : Hs} (h : Dk ds rs k) (he : ∀ x, x ∈ rs' ↔ x ∈ rs ∨ x = d) : Dk ds rs' k := fun e h1 => (he _).2 (.inl (h e h1))
theorem Di.succ {l : List It} {rs : List Hs} {t : Hs} {i : Nat} {x : It} (h : Di l rs t i) (hx : l[i]? = some x) (hd : x.name = t → ∀ d ∈ x.deps, d ∈ rs) : Di l rs t (i + 1) := by
  intro it hi hn d hdd
  rw [List.take_add_one, hx] at hi
  simp only [Option.toList, List.mem_append, List.mem_singleton] at hi
  rcases hi with hi | rfl
  · exact h it hi hn d hdd
  · exact hd hn d hdd
theorem Dn.succ {l : List It} {rs ts : List Hs} {n : Nat} {t : Hs} (h : Dn l rs ts n) (ht : ts[n]? = some t) (hd : Di l rs t l.length) : Dn l rs ts (n + 1) := by
  intro k t' hk ht' it hi hn d hdd
  by_cases e : k = n
  · subst e
    rw [ht] at ht'
    cases ht'
    exact hd it (by rw [List.take_length]; exact hi) hn d hdd
  · exact h k t' (by omega) ht' it hi hn d hdd
theorem NS.finish {l : List It} {h : Hs} {rs ts : List Hs} {n : Nat} (hs : NS l h rs ts) (hd : Dn l rs ts n) (hn : ts.length ≤ n) (x : Hs) : x ∈ rs ↔ Reach (getS (downS l)) h x := by
  obtain ⟨ms, rfl, _, h2, h3⟩ := hs
  refine ⟨fun hx => h3 x ((h2 x).1 hx), fun hr => ?_⟩
  induction hr with
  | one h4 =>
    obtain ⟨it, m1, m2, m3⟩ := (mem_down l _ _).1 h4
    exact hd 0 h (by simp at hn; omega) rfl it m1 m2 _ m3
  | step _ h4 ih =>
    obtain ⟨it, m1, m2, m3⟩ := (mem_down l _ _).1 h4
    obtain ⟨k, hk⟩ := List.getElem?_of_mem ((h2 _).1 ih)
    have hlt := (List.getElem?_eq_some_iff.1 hk).1
    exact hd (k + 1) _ (by simp at hn; omega) (by simpa using hk) it m1 m2 _ m3
end Go.Proofs.Ytijkpkcopjkhkaa.Oct

/- Layer 12 (deps): the reference: Needs. -/
namespace Go.Proofs.Ytijkpkcopjkhkaa.Oct
open Go.RowKit

/-- what lies in memory: what was met, and what is to be looked at, apart -/
structure NI (w wr : World) (p : Option Addr) (m c : Nat) (rs : List Hs) (v : Value) (ts : List Hs) : Prop where
  below : Below w.heap.size w wr
  ri : RiR wr p m c rs
  own : wr.ownsRow w.heap.size 34 32 v ts.length (UU ts)
  ap : ∀ g off, p = some ⟨g, off, none⟩ → some g ≠ v.ownBlock
  tl : ∀ t ∈ ts, t.length = 32
theorem NI.step {w wr wr' : World} {p : Option Addr} {m c : Nat} {rs : List Hs} {v : Value} {ts : List Hs} (h : NI w wr p m c rs v ts) (hb : Below wr.heap.size wr wr') : NI w wr' p m c rs v ts :=
  ⟨bt h.below hb, h.ri.below hb, own_below h.own hb, h.ap, h.tl⟩
theorem own_one (w : World) (h : Hs) (hl : h.length = 32) (B : Nat) (hB : B ≤ w.heap.size) : (w.alloc (.cells (U h).toArray 34)).ownsRow B 34 32 (.slice (some ⟨w.heap.size, 0, none⟩) 1 1) 1 (UU [h]) := by
  have e : UU [h] = U h := by simp [UU]
  refine ⟨by rw [e, U_length, hl], .inr ⟨w.heap.size, 1, _, rfl, hB, heap_alloc_new w _, Nat.le_refl _, by unfold maxLen; omega, by simp [U_length, hl], ?_⟩⟩
  rw [e]
  simp [List.take_of_length_le, U_length, hl]
/-- out with one more, and todo with one more behind it -/
theorem NI.add {w w1 w2 w3 w4 : World} {p p' : Option Addr} {m c m' c' : Nat} {rs rs' : List Hs} {v v' : Value} {ts : List Hs} {d : Hs} (h : NI w w1 p m c rs v ts) (hd : d.length = 32)
    (hb2 : Below w1.heap.size w1 w2) (hr : RiR w2 p' m' c' rs') (hp : p' = p ∨ ∃ g, p' = some ⟨g, 0, none⟩ ∧ w1.heap.size ≤ g) (hpz' : ∀ g off, p' = some ⟨g, off, none⟩ → g < w2.heap.size)
    (hb3 : Below w2.heap.size w2 w3) (ho : w4.ownsRow w.heap.size 34 32 v' (ts.length + 1) (UU (ts ++ [d]))) (hg : w3.grownBy w4 v.ownBlock) (hv : v'.ownBlock = v.ownBlock ∨ v'.ownBlock = some w3.heap.size) : NI w w4 p' m' c' rs' v' (ts ++ [d]) := by
  have hv1 : ∀ g, v.ownBlock = some g → g < w1.heap.size := fun g e => (h.own.lt g e).2
  have hne : ∀ g off, p' = some ⟨g, off, none⟩ → some g ≠ v.ownBlock := by
    intro g off e
    rcases hp with rfl | ⟨g', e', hl⟩
    · exact h.ap g off e
    · rw [e'] at e
      cases e
      intro e2
      have := hv1 _ e2.symm
      omega
  refine ⟨?_, ?_, by simpa using ho, fun g off e => ?_, fun t ht => ?_⟩
  · exact below_row (bt (bt h.below hb2) hb3) hg (own_below (own_below h.own hb2) hb3)
  · have h3 := hr.below hb3
    refine ⟨h3.1.same hg.size (fun g off e => hg.block g ?_ (hne g off e)), h3.2⟩
    have := hpz' g off e
    have := hb3.size
    omega
  · rcases hv with e2 | e2
    · rw [e2]; exact hne g off e
    · rw [e2]
      intro e3
      have := Option.some.inj e3
      have := hpz' g off e
      have := hb3.size
      omega
  · rcases List.mem_append.1 ht with ht | ht
    · exact h.tl t ht
    · simp at ht; subst ht; exact hd
theorem NI.todo {w wr : World} {p : Option Addr} {m c : Nat} {rs : List Hs} {a6 : Option Addr} {c6 : Nat} {ts : List Hs} (h : NI w wr p m c rs (.slice a6 ts.length c6) ts) : HsR wr a6 ts.length ts := by
  obtain ⟨a, c, e, h1, _⟩ := own_read h.own h.tl
  cases e
  exact h1

set_option maxRecDepth 100000 in
set_option maxHeartbeats 4000000 in
theorem rneeds_is (w : World) (a : Option Addr) (len cap : Nat) (l : List It) (h : Hs) (hi : Its w a len l) (hl : h.length = 32) (hn : len ≤ 100000) (hm : many l ≤ 90000) :
    Calls Try.prog 15 #[.slice a len cap, .agg (U h).toArray] w (SetP w fun x => len ≤ 256 ∧ Reach (getS (downS l)) h x) := by
  have HA : Hid (Its w a len l ∧ len ≤ 100000 ∧ many l ≤ 90000 ∧ l.length = len ∧ h.length = 32) := ⟨hi, hn, hm, hi.1, hl⟩
  have q5 : (len : Int) ≤ 100000 := by omega
  obtain ⟨W, hW⟩ : ∃ W, w.alloc (.cells (U h).toArray 34) = W := ⟨_, rfl⟩
  have HB : Hid (Below w.heap.size w W ∧ W.rangeAt w.heap.size 0 (U h) ∧ w.heap.size < W.heap.size) := ⟨by rw [← hW]; exact (Below.refl _ w).alloc (Nat.le_refl _) _, by rw [← hW]; exact new34 w h, by rw [← hW]; simp⟩
  have hu := Try.underlying34
  have hi34 := info34 h hl
  have h1 := U_one h
  have hul : (U h).length = 32 := by rw [U_length, hl]
  have HW : Hid (w.alloc (.cells (U h).toArray 34) = W) := hW
  clear hW hi hl hn hm
  by_cases h256 : 256 < len
  · have q1 : (256 : Int) < (len : Int) := by omega
    have HN : Hid (¬ len ≤ 256) := by show ¬ _; omega
    clear h256
    go_enter Try.func15, Try.ntmps15
    go_wp2
    rw [HW.out]
    go_ret
    exact SetP.nil w (fun x hx => HN.out hx.1) HB.out.1
  · have q1 : ¬ (256 : Int) < (len : Int) := by omega
    have HN : Hid (len ≤ 256) := by show _ ≤ _; omega
    obtain ⟨Y, hYl, hY⟩ := zero34
    have HZ : Hid (Y.length = 32) := hYl
    clear h256 hYl
    go_enter Try.func15, Try.ntmps15
    go_wp2_with (first
      | (with_reducible change wpList _ _ _ ({ dst := some 14, op := _, type := _, pos := _, after := _, guard := _ } :: _) _ _
         refine Hid.out ?_)
      | fail)
    show wpList _ _ _ _ _ _
    rw [HW.out]
    refine wpList_load_mid rfl 34 (.tmp 3) rfl w.heap.size 0 rfl (U h) _ HB.out.2.1 Try.underlying34 rfl (info34 h HA.out.2.2.2.2) ?_
    simp only [Act.put, List.setIfInBounds_toArray, List.set_cons_zero, List.set_cons_succ]
    refine wpList_bslice1 rfl (.tmp 14) rfl h HA.out.2.2.2.2 rfl ?_
    simp only [Act.put, List.setIfInBounds_toArray, List.set_cons_zero, List.set_cons_succ]
    have H0 : Hid (NI w (W.alloc (.cells (U h).toArray 34)) none 0 0 [] (.slice (some ⟨W.heap.size, 0, none⟩) 1 1) [h]) := by
      refine ⟨HB.out.1.alloc HB.out.1.size _, RiR.nil _, own_one W h HA.out.2.2.2.2 _ HB.out.1.size, (fun g off e => by cases e), (fun t ht => by simp at ht; subst ht; exact HA.out.2.2.2.2)⟩
    generalize hA1 : W.alloc (.cells (U h).toArray 34) = A1 at H0 ⊢
    generalize hg1 : (⟨W.heap.size, 0, none⟩ : Addr) = g1 at H0 ⊢
    clear hA1 hg1 hi34 h1 hul hu HW
    go_wp2
    go_loopw [7, 5, 6] (fun u v t wr => ∃ (n : Nat) (p : Option Addr) (m c : Nat) (rs : List Hs) (a6 : Option Addr) (c6 : Nat) (ts : List Hs), u = .int .i64 (n : Int) ∧ v = .slice p m c ∧ t = .slice a6 ts.length c6 ∧ Hid (NI w wr p m c rs (.slice a6 ts.length c6) ts ∧ NS l h rs ts ∧ Dn l rs ts n ∧ n ≤ ts.length)) (fun u _ _ _ => many l + 2 - (intOf u).toNat)
    case atStart => exact ⟨0, none, 0, 0, [], some g1, 1, [h], rfl, rfl, rfl, ⟨H0.out, NS.start l h, fun k t hk => absurd hk (by omega), by simp⟩⟩
    case round =>
      obtain ⟨n, p0, m0, c0, rs0, a60, c60, ts0, rfl, rfl, rfl, HJ⟩ := hrel
      have HTL : Hid (ts0.length ≤ many l + 1) := HJ.out.2.1.len
      have q6 : (ts0.length : Int) ≤ 90001 := by have := HTL.out; have := HA.out.2.2.1; omega
      by_cases hin : n < ts0.length
      · obtain ⟨t0, ht0⟩ : ∃ t0, ts0[n]? = some t0 := ⟨_, List.getElem?_eq_getElem hin⟩
        have HT0 : Hid (ts0[n]? = some t0 ∧ n < ts0.length ∧ t0.length = 32) := ⟨ht0, hin, HJ.out.1.tl t0 (List.mem_of_getElem? ht0)⟩
        have q2 : (n : Int) < (ts0.length : Int) := by omega
        clear hin ht0
        go_wp2
        obtain ⟨W1, hW1⟩ : ∃ W1, W1 = wr := ⟨_, rfl⟩
        subst hW1
        go_loopw [8, 5, 6] (fun u v t wr => ∃ (i : Nat) (p : Option Addr) (m c : Nat) (rs : List Hs) (a6 : Option Addr) (c6 : Nat) (ts : List Hs), u = .int .i64 (i : Int) ∧ v = .slice p m c ∧ t = .slice a6 ts.length c6 ∧ Hid (i ≤ len ∧ NI w wr p m c rs (.slice a6 ts.length c6) ts ∧ NS l h rs ts ∧ Dn l rs ts n ∧ (ts[n]? = some t0 ∧ n < ts.length) ∧ Di l rs t0 i)) (fun u _ _ _ => len - (intOf u).toNat)
        case atStart => exact ⟨0, p0, m0, c0, rs0, a60, c60, ts0, rfl, rfl, rfl, ⟨Nat.zero_le _, HJ.out.1, HJ.out.2.1, HJ.out.2.2.1, ⟨HT0.out.1, HT0.out.2.1⟩, fun it hit => by simp at hit⟩⟩
        case round =>
          obtain ⟨i, p1, m1, c1', rs1, a61, c61, ts1, rfl, rfl, rfl, HK⟩ := hrel
          have q3 : (ts1.length : Int) ≤ 90001 := by have := HK.out.2.2.1.len; have := HA.out.2.2.1; omega
          have q4 : (n : Int) < (ts1.length : Int) := by have := HK.out.2.2.2.2.1.2; omega
          by_cases hil : i < len
          · obtain ⟨x, hx⟩ : ∃ x, l[i]? = some x := ⟨_, List.getElem?_eq_getElem (by rw [HA.out.2.2.2.1]; exact hil)⟩
            obtain ⟨b, off, rfl, hb, hel⟩ := HA.out.1.2 (by omega)
            obtain ⟨g6, off6, h61, hg6, hel6⟩ := HK.out.2.1.todo.2.2 (by have := HK.out.2.2.2.2.1.2; omega)
            have HX : Hid (i < len ∧ l[i]? = some x ∧ b < w.heap.size ∧ w.cell? ⟨b, off + i * 33 + 32, none⟩ = some (.slice x.a x.n x.c) ∧ x.name.length = 32) := ⟨hil, hx, hb, (hel i x hx).dep, (hel i x hx).1⟩
            have HDW : Hid (HsR w x.a x.n x.deps) := (hel i x hx).2.2.1
            have q7 : (i : Int) < (len : Int) := by omega
            have q8 : (x.n : Int) ≤ 90000 := by have h1 := dep_le l i x hx; have h2 := HDW.out.1; have h3 := HA.out.2.2.1; omega
            have HRA : Hid (wr.rangeAt b (off + i * 33) (U x.name) ∧ wr.rangeAt g6 (off6 + n * 32) (U t0)) := ⟨rangeAt_same (hel i x hx).nm (HK.out.2.1.below.block b hb), hel6 n t0 HK.out.2.2.2.2.1.1⟩
            have heq := eqH x.name t0 HX.out.2.2.2.2 HT0.out.2.2
            clear hel hx hil hb hel6 hg6
            subst h61
            cases hd : decide (x.name = t0) with
            | false =>
              have HD : Hid (x.name ≠ t0) := by show x.name ≠ t0; simpa using hd
              rw [hd] at heq
              clear hd
              go_wp2
              refine rneeds_region HX.out.2.2.2.2 HT0.out.2.2 (by omega) (by omega) heq HRA.out ?_
              go_wp2
              refine ⟨⟨i + 1, p1, m1, c1', rs1, some ⟨g6, off6, none⟩, c61, ts1, by simp, rfl, rfl, ⟨HX.out.1, HK.out.2.1.step (below_drew' _), HK.out.2.2.1, HK.out.2.2.2.1, HK.out.2.2.2.2.1, HK.out.2.2.2.2.2.succ HX.out.2.1 (fun e => absurd e HD.out)⟩⟩, ?_⟩
              have := HX.out.1; simp [intOf]; omega
            | true =>
              have HD : Hid (x.name = t0) := by show x.name = t0; simpa using hd
              rw [hd] at heq
              clear hd
              go_wp2
              refine rneeds_region HX.out.2.2.2.2 HT0.out.2.2 (by omega) (by omega) heq HRA.out ?_
              simp only [Bool.not_true]
              go_wp2
              have HK0 : Hid (NI w wr.drew p1 m1 c1' rs1 (.slice (some ⟨g6, off6, none⟩) ts1.length c61) ts1) := HK.out.2.1.step (below_drew' _)
              obtain ⟨W2, hW2⟩ : ∃ W2, W2 = wr := ⟨_, rfl⟩
              subst hW2
              clear heq HRA
              go_loopw [9, 5, 6] (fun u v t wr => ∃ (k : Nat) (p : Option Addr) (m c : Nat) (rs : List Hs) (a6 : Option Addr) (c6 : Nat) (ts : List Hs), u = .int .i64 (k : Int) ∧ v = .slice p m c ∧ t = .slice a6 ts.length c6 ∧ Hid (k ≤ x.n ∧ NI w wr p m c rs (.slice a6 ts.length c6) ts ∧ NS l h rs ts ∧ Dn l rs ts n ∧ (ts[n]? = some t0 ∧ n < ts.length) ∧ Di l rs t0 i ∧ Dk x.deps rs k)) (fun u _ _ _ => x.n - (intOf u).toNat)
              case atStart => exact ⟨0, p1, m1, c1', rs1, some ⟨g6, off6, none⟩, c61, ts1, rfl, rfl, rfl, ⟨Nat.zero_le _, HK0.out, HK.out.2.2.1, HK.out.2.2.2.1, HK.out.2.2.2.2.1, HK.out.2.2.2.2.2, fun d hd => by simp at hd⟩⟩
              case round =>
                obtain ⟨k, p, m, c, rs, a6, c6, ts, rfl, rfl, rfl, HM⟩ := hrel
                have cd : wr.cell? ⟨b, off + i * 33 + 32, none⟩ = some (.slice x.a x.n x.c) := (HM.out.2.1.below.cell (p := ⟨b, _, none⟩) HX.out.2.2.1).trans HX.out.2.2.2.1
                by_cases hk : k < x.n
                · obtain ⟨d, hd⟩ : ∃ d, x.deps[k]? = some d := ⟨_, List.getElem?_eq_getElem (by rw [HDW.out.1]; exact hk)⟩
                  obtain ⟨g2, off2, hxa, hg2, hel2⟩ := HDW.out.2.2 (by omega)
                  have HDD : Hid (k < x.n ∧ d.length = 32 ∧ wr.rangeAt g2 (off2 + k * 32) (U d) ∧ x.deps[k]? = some d) := ⟨hk, HDW.out.2.1 d (List.mem_of_getElem? hd), rangeAt_same (hel2 k d hd) (HM.out.2.1.below.block g2 hg2), hd⟩
                  have q9 : (k : Int) < (x.n : Int) := by omega
                  rw [hxa] at cd
                  clear hk hd hel2 hxa hg2
                  have HML : Hid (m ≤ 90000) := by
                    have h1 := HM.out.2.2.1.rlen HM.out.2.1.ri.2.2.2
                    rw [HM.out.2.1.ri.1.1] at h1
                    have := HA.out.2.2.1
                    show _ ≤ _
                    omega
                  have HTS : Hid (ts.length ≤ 90001) := by have := HM.out.2.2.1.len; have := HA.out.2.2.1; show _ ≤ _; omega
                  go_wp2_with (first
                    | (with_reducible change wpList _ _ _ ({ dst := some 55, op := _, type := _, pos := _, after := _, guard := _ } :: _) _ _
                       refine wpList_load_mid rfl 34 (.tmp 54) rfl g2 (off2 + k * 32) rfl (U d) _ HDD.out.2.2.1 Try.underlying34 rfl (info34 d HDD.out.2.1) ?_)
                    | (with_reducible change wpList _ _ _ ({ dst := none, op := Op.store 34 _ _, type := _, pos := _, after := _, guard := _ } :: _) _ _
                       refine wpList_store_fresh rfl 34 (.tmp 10) (.tmp 55) rfl Y (U d) 34 rfl rfl (by rw [U_length, HDD.out.2.1, HZ.out]) (info34 d HDD.out.2.1) (U_one d) ?_)
                    | (with_reducible change wpList _ _ _ ({ dst := some 57, op := _, type := _, pos := _, after := _, guard := _ } :: _) _ _
                       refine wpList_load_mid rfl 34 (.tmp 10) rfl wr.heap.size 0 rfl (U d) _ (new34 wr d) Try.underlying34 rfl (info34 d HDD.out.2.1) ?_)
                    | fail)
                  obtain ⟨V, hV⟩ : ∃ V, wr.alloc (.cells (U d).toArray 34) = V := ⟨_, rfl⟩
                  obtain ⟨db, hdb⟩ : ∃ db, wr.heap.size = db := ⟨_, rfl⟩
                  have HV : Hid (NI w V p m c rs (.slice a6 ts.length c6) ts ∧ V.rangeAt db 0 (U d) ∧ db < V.heap.size) := by
                    rw [← hV, ← hdb]
                    exact ⟨HM.out.2.1.step ((Below.refl _ wr).alloc (Nat.le_refl _) _), new34 wr d, by simp⟩
                  rw [hV, hdb]
                  clear hV hdb cd
                  cases hB : decide (d ∈ rs) with
                  | true =>
                    have HBB : Hid (d ∈ rs) := by show d ∈ rs; simpa using hB
                    refine (place_tell V p m c rs d true HV.out.1.ri.1 HDD.out.2.1 (by have := HML.out; omega) hB).mono ?_
                    rintro e V1 ⟨z, rfl, HZ1, HB1⟩
                    have q10 : ¬ z < 0 := by have := HZ1.out; simp at this; omega
                    clear hB
                    go_wp2
                    refine ⟨⟨k + 1, p, m, c, rs, a6, c6, ts, by simp, rfl, rfl, ⟨HDD.out.1, HV.out.1.step HB1.out, HM.out.2.2.1, HM.out.2.2.2.1, HM.out.2.2.2.2.1, HM.out.2.2.2.2.2.1, HM.out.2.2.2.2.2.2.succ HDD.out.2.2.2 HBB.out⟩⟩, ?_⟩
                    have := HDD.out.1; simp [intOf]; omega
                  | false =>
                    have HBB : Hid (d ∉ rs) := by show d ∉ rs; simpa using hB
                    refine (place_tell V p m c rs d false HV.out.1.ri.1 HDD.out.2.1 (by have := HML.out; omega) hB).mono ?_
                    rintro e V1 ⟨z, rfl, HZ1, HB1⟩
                    have q10 : z < 0 := by have := HZ1.out; simp at this; omega
                    have HV1 : Hid (NI w V1 p m c rs (.slice a6 ts.length c6) ts ∧ V1.rangeAt db 0 (U d) ∧ db < V1.heap.size) := ⟨HV.out.1.step HB1.out, rangeAt_same HV.out.2.1 (HB1.out.block _ HV.out.2.2), Nat.lt_of_lt_of_le HV.out.2.2 HB1.out.size⟩
                    clear hB
                    go_wp2_with (first
                      | (with_reducible change wpList _ _ _ ({ dst := some 61, op := _, type := _, pos := _, after := _, guard := _ } :: _) _ _
                         refine wpList_load_mid rfl 34 (.tmp 10) rfl db 0 rfl (U d) _ HV1.out.2.1 Try.underlying34 rfl (info34 d HDD.out.2.1) ?_)
                      | fail)
                    refine (with_is V1 p m c rs d HV1.out.1.ri HDD.out.2.1 (by have := HML.out; omega)).mono ?_
                    rintro e V2 ⟨p', m', c', rs', rfl, H2, HB2, HP2⟩
                    have HV2 : Hid (V2.rangeAt db 0 (U d)) := rangeAt_same HV1.out.2.1 (HB2.out.block _ HV1.out.2.2)
                    go_wp2_with (first
                      | (with_reducible change wpList _ _ _ ({ dst := some 64, op := _, type := _, pos := _, after := _, guard := _ } :: _) _ _
                         refine wpList_load_mid rfl 34 (.tmp 10) rfl db 0 rfl (U d) _ HV2.out Try.underlying34 rfl (info34 d HDD.out.2.1) ?_)
                      | (with_reducible change wpList _ _ _ ({ dst := some 65, op := _, type := _, pos := _, after := _, guard := _ } :: _) _ _
                         refine wpList_bslice1 rfl (.tmp 64) rfl d HDD.out.2.1 rfl ?_)
                      | (with_reducible change wpList _ _ _ ({ dst := some 66, op := _, type := _, pos := _, after := _, guard := _ } :: _) _ _
                         refine Hid.out ?_)
                      | fail)
                    show wpList _ _ _ _ _ _
                    have HO : Hid ((V2.alloc (.cells (U d).toArray 34)).ownsRow w.heap.size 34 32 (.slice a6 ts.length c6) ts.length (UU ts) ∧ w.heap.size ≤ (V2.alloc (.cells (U d).toArray 34)).heap.size) := ⟨(own_below HV1.out.1.own HB2.out).alloc _, by have := HV1.out.1.below.size; have := HB2.out.size; simp; omega⟩
                    refine wpList_app rfl (.tmp 63) (.tmp 65) rfl w.heap.size (.slice a6 ts.length c6) ts.length ts (some ⟨V2.heap.size, 0, none⟩) 1 1 [d] rfl rfl HO.out.1 (HsR.one V2 d HDD.out.2.1) (by have := HTS.out; omega) HO.out.2 ?_
                    intro v' w' r1 r2 r3
                    have HADD : Hid (NI w w' p' m' c' rs' v' (ts ++ [d])) := by
                      refine HV1.out.1.add HDD.out.2.1 HB2.out H2.out.1 HP2.out ?_ ((Below.refl _ V2).alloc (Nat.le_refl _) _) r1 r2 r3
                      intro g off e
                      have hd' : d ∈ rs' := (H2.out.2.2 d).2 (.inr rfl)
                      have hlen := List.length_pos_of_mem hd'
                      rw [H2.out.1.1.1] at hlen
                      obtain ⟨g', off', e', h1, _⟩ := H2.out.1.1.2.2 hlen
                      rw [e] at e'
                      cases e'
                      exact h1
                    obtain ⟨a6', c6', rfl, _, _, _⟩ := own_read r1 HADD.out.tl
                    clear r1 r2 r3
                    have HADD2 : Hid (NI w w' p' m' c' rs' (.slice a6' (ts ++ [d]).length c6') (ts ++ [d])) := by
                      have := HADD.out
                      show NI _ _ _ _ _ _ _ _
                      simpa using this
                    have hll : ts.length + 1 = (ts ++ [d]).length := by simp
                    rw [hll]
                    clear hll
                    simp only [Act.put, List.setIfInBounds_toArray, List.set_cons_zero, List.set_cons_succ]
                    go_wp2
                    refine ⟨⟨k + 1, p', m', c', rs', a6', c6', ts ++ [d], by simp, rfl, rfl, ⟨HDD.out.1, HADD2.out, ?_, HM.out.2.2.2.1.add HM.out.2.2.2.2.1.2 H2.out.2.2, ?_, HM.out.2.2.2.2.2.1.add H2.out.2.2, (HM.out.2.2.2.2.2.2.add H2.out.2.2).succ HDD.out.2.2.2 ((H2.out.2.2 d).2 (.inr rfl))⟩⟩, ?_⟩
                    · exact HM.out.2.2.1.add HBB.out (HM.out.2.2.1.reach (List.mem_of_getElem? HM.out.2.2.2.2.1.1) (List.mem_of_getElem? HX.out.2.1) HD.out (List.mem_of_getElem? HDD.out.2.2.2)) H2.out.2.2
                    · have := HM.out.2.2.2.2.1
                      exact ⟨by rw [List.getElem?_append_left this.2]; exact this.1, by simp; omega⟩
                    · have := HDD.out.1; simp [intOf]; omega
                · have q9 : ¬ (k : Int) < (x.n : Int) := by omega
                  have HKN : Hid (k = x.n) := by have := HM.out.1; show _ = _; omega
                  clear hk
                  go_wp2
                  refine ⟨⟨i + 1, p, m, c, rs, a6, c6, ts, by simp, rfl, rfl, ⟨HX.out.1, HM.out.2.1, HM.out.2.2.1, HM.out.2.2.2.1, HM.out.2.2.2.2.1, HM.out.2.2.2.2.2.1.succ HX.out.2.1 (fun _ d hd => HM.out.2.2.2.2.2.2 d (by rw [List.take_of_length_le (by rw [HDW.out.1, HKN.out]; exact Nat.le_refl _)]; exact hd))⟩⟩, ?_⟩
                  have := HX.out.1; simp [intOf]; omega
          · have q7 : ¬ (i : Int) < (len : Int) := by omega
            have HIL : Hid (i = l.length) := by show _ = _; have := HK.out.1; have := HA.out.2.2.2.1; omega
            clear hil
            go_wp2
            refine ⟨⟨n + 1, p1, m1, c1', rs1, a61, c61, ts1, by simp, rfl, rfl, ⟨HK.out.2.1, HK.out.2.2.1, HK.out.2.2.2.1.succ HK.out.2.2.2.2.1.1 (by have := HK.out.2.2.2.2.2; rw [HIL.out] at this; exact this), HK.out.2.2.2.2.1.2⟩⟩, ?_⟩
            have := HK.out.2.2.2.2.1.2; have := HK.out.2.2.1.len; simp [intOf]; omega
      · have q2 : ¬ (n : Int) < (ts0.length : Int) := by omega
        have HNL : Hid (ts0.length ≤ n) := by show _ ≤ _; omega
        clear hin
        go_wp2
        go_ret
        refine ⟨p0, m0, c0, rs0, rfl, ⟨HJ.out.1.ri.1, ?_, HJ.out.1.ri.2.2.2, fun y => ?_⟩, HJ.out.1.below⟩
        · have := HJ.out.2.1.rlen HJ.out.1.ri.2.2.2
          rw [HJ.out.1.ri.1.1] at this
          have := HA.out.2.2.1
          omega
        · rw [HJ.out.2.1.finish HJ.out.2.2.1 HNL.out]
          exact ⟨fun h => ⟨HN.out, h⟩, fun h => h.2⟩
end Go.Proofs.Ytijkpkcopjkhkaa.Oct
