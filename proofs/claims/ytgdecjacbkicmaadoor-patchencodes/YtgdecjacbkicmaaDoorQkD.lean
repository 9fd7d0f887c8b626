/-
  Layer 10 (patch): the reference's vertex.
  Layer 10 (patch): the reference's Bytes: its drawn regions.
  Layer 10 (patch): the reference's Bytes.
-/
import Derived.Test.YtgdecjacbkicmaaDoorORef
import Derived.Test.YtgdecjacbkicmaaDoorQkRck
import Derived.Test.YtgdecjacbkicmaaDoorQkLiv
import Derived.Test.YtgdecjacbkicmaaDoorQkA
import Derived.Deep.MidRow
import Derived.Deep.RegionHeld
/- Layer 10 (patch): the reference's vertex. -/
namespace Go.Proofs.YtgdecjacbkicmaaDoor.Oct
open Go.RowKit
set_option maxRecDepth 100000
set_option linter.unusedSimpArgs false
set_option linter.unusedVariables false

theorem step_bs {ops : Array Oper} {op : Oper} {a : Act} {w : World} {K : Act → World → Prop} {Q : Exit → Act → World → Prop} {E : Prop} (hw : Region.wanted op (yielded ops a.tmps) = true) (t n : Nat) (parts : Array (Nat × Operand)) (hop : op.op = .buildSlice t n parts) (r : Value) (W' : World)
    (hr : (Instr.buildSlice t n (parts.map fun (i, x) => (i, a.eval x))).run Tryd.prog w = .ok r W') (hk : K (a.put op.dst r) W') : if Region.wanted op (yielded ops a.tmps) = true then Oper.wp Tryd.prog op a w K Q else E := by
  rw [if_pos hw]
  unfold Oper.wp execOp
  simp only [hop, Sem.run_bind, Sem.run_pure, Result.andThen_ok, hr]
  exact hk
theorem bs28 (c : UInt8) (W : World) : (Instr.buildSlice 28 1 #[(0, .int .u8 (c.toNat : Int))]).run Tryd.prog W = .ok (.slice (some ⟨W.heap.size, 0, none⟩) 1 1) (W.alloc (.cells (U [c]).toArray 5)) := by kernel_rfl
theorem own_row {w : World} {B : Nat} {v : Value} {M : List UInt8} (h : Own 5 B w v M) (hM : M.length ≤ 140737488355328) : ∃ a n c, v = .slice a n c ∧ In w a n c M ∧ Own 5 B w (.slice a n c) M := by
  obtain ⟨a, c, rfl, hin, -⟩ := own_in h hM
  exact ⟨a, _, c, rfl, hin, h⟩
theorem own_inn {w : World} {B : Nat} {a : Option Addr} {n c : Nat} {M : List UInt8} (h : Own 5 B w (.slice a n c) M) (hM : M.length ≤ 140737488355328) : In w a n c M := by
  obtain ⟨a', c', e, hin, -⟩ := own_in h hM
  cases e
  exact hin
/-- Put of the reference, of a row that is owned -/
theorem put_own {B : Nat} {w : World} {a : Option Addr} {n c : Nat} {M : List UInt8} (hin : In w a n c M) (hB : B ≤ w.heap.size) (k : Nat) (hk : k ≤ 4611686018427387904) (hM : M.length ≤ 1000000) :
    Calls Tryd.prog 28 #[.slice a n c, .int .u64 (k : Int)] w fun e w' => ∃ a' n' c', e = .returned (.slice a' n' c') ∧ Own 5 B w' (.slice a' n' c') (M ++ enc k) ∧ In w' a' n' c' (M ++ enc k) ∧ Below w.heap.size w w' := by
  have hl : M.length = n := hin.1
  refine (refPut a n c M k w hin (by omega) (by omega) (by omega)).mono ?_
  rintro e w' ⟨v, rfl, ho, hb⟩
  rw [Int.toNat_natCast] at ho
  obtain ⟨a', n', c', rfl, h1, h2⟩ := own_row ho (by rw [List.length_append]; have := enc_ten k (by omega); omega)
  exact ⟨a', n', c', rfl, h2.mono hB, h1, hb⟩
theorem put_txt {B : Nat} {w : World} {a : Option Addr} {n c : Nat} {M : List UInt8} (hin : In w a n c M) (hB : B ≤ w.heap.size) (s : BA) (hM : M.length + s.size ≤ 1000000) :
    Calls Tryd.prog 27 #[.slice a n c, .string s] w fun e w' => ∃ a' n' c', e = .returned (.slice a' n' c') ∧ Own 5 B w' (.slice a' n' c') (M ++ encT s) ∧ In w' a' n' c' (M ++ encT s) ∧ Below w.heap.size w w' := by
  have hl : M.length = n := hin.1
  refine (refPutText a n c M s w hin (by omega)).mono ?_
  rintro e w' ⟨v, rfl, ho, hb⟩
  rw [List.append_assoc] at ho
  have ho : Own 5 w.heap.size w' v (M ++ encT s) := ho
  obtain ⟨a', n', c', rfl, h1, h2⟩ := own_row ho (by rw [List.length_append]; have := encT_len s (by omega); omega)
  exact ⟨a', n', c', rfl, h2.mono hB, h1, hb⟩
/-- what a row of bytes that is written to leaves -/
def RvP (B : Nat) (M : List UInt8) (w : World) (e : Ending) (w' : World) : Prop := ∃ a n c, e = .returned (.slice a n c) ∧ Own 5 B w' (.slice a n c) M ∧ Fr B w w'
set_option maxRecDepth 100000 in
set_option maxHeartbeats 4000000 in
theorem vt1 {Q : Exit → Act → World → Prop} {x0 x1 x2 x3 x4 x6 x7 x8 x9 x10 x11 x12 x13 x14 x15 x16 x17 x18 x19 x20 x21 x22 x23 x24 x25 x26 x27 x28 x29 x30 x31 x32 x33 : Value} {ds : List Deferred} {A : World} {d5 : Nat} {v : Vx} {T1 : Bool}
    (HB : Hid (Blk A d5 42 v.cells)) (HV : Hid v.ok) (HT : Hid (eqVx v vTop = T1))
    (hQ : ∀ V1, Below A.heap.size A V1 → Q .normal { tmps := #[x0, x1, x2, x3, x4, .pointer (some ⟨d5, 0, none⟩), x6, .agg v.cells.toArray, .agg vTop.cells.toArray, .bool T1, x10, x11, x12, x13, x14, x15, x16, x17, x18, x19, x20, x21, x22, x23, x24, x25, x26, x27, x28, x29, x30, x31, x32, x33], defers := ds } V1) :
    (Code.region 1 #[{ dst := some 7, op := Op.load 42 (Operand.tmp 5), type := 42, pos := "ref.go:108", after := #[], guard := none }, { dst := some 8, op := Op.call { callee := Callee.value (Operand.func 48), args := #[], argTypes := #[] }, type := 42, pos := "ref.go:108", after := #[], guard := none }, { dst := some 9, op := Op.binOp BinOp.eql 42 (Operand.tmp 7) (Operand.tmp 8) 42, type := 4, pos := "ref.go:108", after := #[{ on := 0, ground := Ground.data }, { on := 1, ground := Ground.data }], guard := none }] true).wp Tryd.prog Q { tmps := #[x0, x1, x2, x3, x4, .pointer (some ⟨d5, 0, none⟩), x6, x7, x8, x9, x10, x11, x12, x13, x14, x15, x16, x17, x18, x19, x20, x21, x22, x23, x24, x25, x26, x27, x28, x29, x30, x31, x32, x33], defers := ds } A := by
  refine Code.wp_mono (Q := fun x a' w' => match x with | .normal => Q .normal a' w' | _ => False) (by intro x a' w' h; cases x <;> first | exact h | exact h.elim) ?_
  refine wp_region_held (S := fun V => Below A.heap.size A V) (by kernel_rfl) ?_
  have hS0 : Hid (Below A.heap.size A A.drew) := below_drew0 A
  change wpAnyH Tryd.prog .any _ _ (fun V => Below A.heap.size A V) 3 (Array.replicate 3 false) _ A.drew
  obtain ⟨V0, hV0⟩ : ∃ V0, A.drew = V0 := ⟨_, rfl⟩
  rw [hV0]
  rw [hV0] at hS0
  clear hV0
  refine wpAnyH_take (i := 0) (oi := { dst := some 7, op := Op.load 42 (Operand.tmp 5), type := 42, pos := "ref.go:108", after := #[], guard := none }) (v := .agg v.cells.toArray) rfl (by kernel_rfl) (by kernel_rfl) (by kernel_rfl) (fun _ _ _ h => h.elim) (Or.inl ⟨by rfl, ?y1⟩) hS0.out ?_
  case y1 =>
    intro V hV
    have hr : V.rangeAt d5 0 v.cells := (HB.out.below hV HB.out.lt).range0
    exact yl_ld V 42 (.tmp 5) rfl d5 0 rfl v.cells _ hr Tryd.underlying42 rfl (info49 HV.out)
  simp only [Act.put, List.setIfInBounds_toArray, List.set_cons_zero, List.set_cons_succ]
  refine wpAnyH_ready (rs := [1]) (by kernel_rfl) (by simp) (AllReadyH.cons (i := 1) (o := { dst := some 8, op := Op.call { callee := Callee.value (Operand.func 48), args := #[], argTypes := #[] }, type := 42, pos := "ref.go:108", after := #[], guard := none }) rfl ?_ AllReadyH.nil)
  · intro K1 hK1
    rw [if_pos (by rfl)]
    have HC1 := rtop_is V0 _ rfl
    go_wp2_with fail
    refine HC1.mono ?_
    rintro e V1 ⟨rfl, hb1⟩
    dsimp only
    clear HC1
    have hS1 : Hid (Below A.heap.size A V1) := hS0.out.trans (hb1.mono hS0.out.size)
    clear hb1
    refine hK1.out _ _ hS1.out ?_
    clear hK1
    intro _
    try simp only [Act.put, List.setIfInBounds_toArray, List.set_cons_zero, List.set_cons_succ]
    refine wpAnyH_take (i := 2) (oi := { dst := some 9, op := Op.binOp BinOp.eql 42 (Operand.tmp 7) (Operand.tmp 8) 42, type := 4, pos := "ref.go:108", after := #[{ on := 0, ground := Ground.data }, { on := 1, ground := Ground.data }], guard := none }) (v := .bool T1) rfl (by kernel_rfl) (by kernel_rfl) (by kernel_rfl) (fun _ _ _ h => h.elim) (Or.inl ⟨by rfl, ?y2⟩) hS1.out ?_
    case y2 =>
      intro V hV
      exact yl_eqV V _ _ v vTop HV.out vTop_ok T1 HT.out rfl rfl rfl
    simp only [Act.put, List.setIfInBounds_toArray, List.set_cons_zero, List.set_cons_succ]
    refine wpAnyH_done (by kernel_rfl) ?_ _
    exact hQ V1 hS1.out
set_option maxRecDepth 100000 in
set_option maxHeartbeats 4000000 in
theorem vt3 {Q : Exit → Act → World → Prop} {x0 x1 x2 x3 x4 x6 x7 x8 x9 x10 x11 x12 x13 x14 x15 x16 x17 x18 x19 x20 x21 x22 x23 x24 x25 x26 x27 x28 x29 x30 x31 x32 x33 : Value} {ds : List Deferred} {A : World} {d5 : Nat} {v : Vx} {T2 : Bool}
    (HB : Hid (Blk A d5 42 v.cells)) (HV : Hid v.ok) (HT : Hid (eqVx v vBot = T2))
    (hQ : ∀ V1, Below A.heap.size A V1 → Q .normal { tmps := #[x0, x1, x2, x3, x4, .pointer (some ⟨d5, 0, none⟩), x6, x7, x8, x9, x10, x11, x12, .agg v.cells.toArray, .agg vBot.cells.toArray, .bool T2, x16, x17, x18, x19, x20, x21, x22, x23, x24, x25, x26, x27, x28, x29, x30, x31, x32, x33], defers := ds } V1) :
    (Code.region 3 #[{ dst := some 13, op := Op.load 42 (Operand.tmp 5), type := 42, pos := "ref.go:111", after := #[], guard := none }, { dst := some 14, op := Op.call { callee := Callee.value (Operand.func 49), args := #[], argTypes := #[] }, type := 42, pos := "ref.go:111", after := #[], guard := none }, { dst := some 15, op := Op.binOp BinOp.eql 42 (Operand.tmp 13) (Operand.tmp 14) 42, type := 4, pos := "ref.go:111", after := #[{ on := 0, ground := Ground.data }, { on := 1, ground := Ground.data }], guard := none }] true).wp Tryd.prog Q { tmps := #[x0, x1, x2, x3, x4, .pointer (some ⟨d5, 0, none⟩), x6, x7, x8, x9, x10, x11, x12, x13, x14, x15, x16, x17, x18, x19, x20, x21, x22, x23, x24, x25, x26, x27, x28, x29, x30, x31, x32, x33], defers := ds } A := by
  refine Code.wp_mono (Q := fun x a' w' => match x with | .normal => Q .normal a' w' | _ => False) (by intro x a' w' h; cases x <;> first | exact h | exact h.elim) ?_
  refine wp_region_held (S := fun V => Below A.heap.size A V) (by kernel_rfl) ?_
  have hS0 : Hid (Below A.heap.size A A.drew) := below_drew0 A
  change wpAnyH Tryd.prog .any _ _ (fun V => Below A.heap.size A V) 3 (Array.replicate 3 false) _ A.drew
  obtain ⟨V0, hV0⟩ : ∃ V0, A.drew = V0 := ⟨_, rfl⟩
  rw [hV0]
  rw [hV0] at hS0
  clear hV0
  refine wpAnyH_take (i := 0) (oi := { dst := some 13, op := Op.load 42 (Operand.tmp 5), type := 42, pos := "ref.go:111", after := #[], guard := none }) (v := .agg v.cells.toArray) rfl (by kernel_rfl) (by kernel_rfl) (by kernel_rfl) (fun _ _ _ h => h.elim) (Or.inl ⟨by rfl, ?y1⟩) hS0.out ?_
  case y1 =>
    intro V hV
    have hr : V.rangeAt d5 0 v.cells := (HB.out.below hV HB.out.lt).range0
    exact yl_ld V 42 (.tmp 5) rfl d5 0 rfl v.cells _ hr Tryd.underlying42 rfl (info49 HV.out)
  simp only [Act.put, List.setIfInBounds_toArray, List.set_cons_zero, List.set_cons_succ]
  refine wpAnyH_ready (rs := [1]) (by kernel_rfl) (by simp) (AllReadyH.cons (i := 1) (o := { dst := some 14, op := Op.call { callee := Callee.value (Operand.func 49), args := #[], argTypes := #[] }, type := 42, pos := "ref.go:111", after := #[], guard := none }) rfl ?_ AllReadyH.nil)
  · intro K1 hK1
    rw [if_pos (by rfl)]
    have HC1 := rbot_is V0 _ rfl
    go_wp2_with fail
    refine HC1.mono ?_
    rintro e V1 ⟨rfl, hb1⟩
    dsimp only
    clear HC1
    have hS1 : Hid (Below A.heap.size A V1) := hS0.out.trans (hb1.mono hS0.out.size)
    clear hb1
    refine hK1.out _ _ hS1.out ?_
    clear hK1
    intro _
    try simp only [Act.put, List.setIfInBounds_toArray, List.set_cons_zero, List.set_cons_succ]
    refine wpAnyH_take (i := 2) (oi := { dst := some 15, op := Op.binOp BinOp.eql 42 (Operand.tmp 13) (Operand.tmp 14) 42, type := 4, pos := "ref.go:111", after := #[{ on := 0, ground := Ground.data }, { on := 1, ground := Ground.data }], guard := none }) (v := .bool T2) rfl (by kernel_rfl) (by kernel_rfl) (by kernel_rfl) (fun _ _ _ h => h.elim) (Or.inl ⟨by rfl, ?y2⟩) hS1.out ?_
    case y2 =>
      intro V hV
      exact yl_eqV V _ _ v vBot HV.out vBot_ok T2 HT.out rfl rfl rfl
    simp only [Act.put, List.setIfInBounds_toArray, List.set_cons_zero, List.set_cons_succ]
    refine wpAnyH_done (by kernel_rfl) ?_ _
    exact hQ V1 hS1.out
set_option maxRecDepth 100000 in
set_option maxHeartbeats 4000000 in
theorem vr5 {Q : Exit → Act → World → Prop} {x1 x2 x3 x6 x7 x8 x9 x10 x11 x12 x13 x14 x15 x16 x17 x18 x19 x20 x21 x22 x23 x24 x25 x26 x27 x28 x29 x30 x31 x32 x33 : Value} {ds : List Deferred} {A : World} {B n c d4 d5 dn dc k : Nat} {va da : Option Addr} {M : List UInt8} {v : Vx} {L4 : List Value} {i0 : TypeInfo}
    (HI5 : Hid (Tryd.prog.info? 5 = some i0 ∧ i0.zero = some (.int .u8 0) ∧ i0.size = 1 ∧ i0.bytes = 1)) (HX : Hid (B ≤ A.heap.size ∧ M.length ≤ 900000)) (HV : Hid v.ok) (HK : Hid (k ≤ 4611686018427387904 ∧ IntKind.u64.wrap (k : Int) = (k : Int))) (HO : Hid (Own 5 B A (.slice va n c) M)) (HB4 : Hid (Blk A d4 25 L4)) (HL4 : Hid (L4[3]? = some (.slice da dn dc))) (HB : Hid (Blk A d5 42 v.cells)) (HC : Hid (∀ V, Fr B A V → Calls Tryd.prog 50 #[.slice da dn dc, .agg (U v.h).toArray] V fun e V2 => e = .returned (iv (k : Int)) ∧ Below V.heap.size V V2))
    (hQ : ∀ V1 z va2 n5 c2 va3 n3 c3, Own 5 B V1 (.slice va3 n3 c3) (M ++ [2] ++ enc k) → Fr B A V1 → Q .normal { tmps := #[.slice va3 n3 c3, x1, x2, x3, .pointer (some ⟨d4, 0, none⟩), .pointer (some ⟨d5, 0, none⟩), x6, x7, x8, x9, x10, x11, x12, x13, x14, x15, x16, x17, x18, .slice va n c, .slice (some ⟨z, 0, none⟩) 1 1, .slice va2 n5 c2, .pointer (some ⟨d4, 3, none⟩), .slice da dn dc, .pointer (some ⟨d5, 0, none⟩), .agg (U v.h).toArray, iv (k : Int), .int .u64 (k : Int), .slice va3 n3 c3, x29, x30, x31, x32, x33], defers := ds } V1) :
    (Code.region 5 #[{ dst := some 19, op := Op.move (Operand.tmp 0), type := 28, pos := "ref.go:114", after := #[], guard := none }, { dst := some 20, op := Op.buildSlice 28 1 #[(0, Operand.const (Value.int IntKind.u8 2))], type := 28, pos := "ref.go:114", after := #[], guard := none }, { dst := some 21, op := Op.call { callee := Callee.builtin Builtin.append, args := #[Operand.tmp 19, Operand.tmp 20], argTypes := #[28, 28] }, type := 28, pos := "ref.go:114", after := #[{ on := 0, ground := Ground.data }, { on := 1, ground := Ground.data }], guard := none }, { dst := some 22, op := Op.fieldAddr 25 (Operand.tmp 4) 3, type := 0, pos := "ref.go:114", after := #[], guard := none }, { dst := some 23, op := Op.load 22 (Operand.tmp 22), type := 22, pos := "ref.go:114", after := #[{ on := 3, ground := Ground.data }], guard := none }, { dst := some 24, op := Op.fieldAddr 42 (Operand.tmp 5) 0, type := 0, pos := "ref.go:114", after := #[], guard := none }, { dst := some 25, op := Op.load 36 (Operand.tmp 24), type := 36, pos := "ref.go:114", after := #[{ on := 5, ground := Ground.data }], guard := none }, { dst := some 26, op := Op.call { callee := Callee.value (Operand.func 50), args := #[Operand.tmp 23, Operand.tmp 25], argTypes := #[22, 36] }, type := 3, pos := "ref.go:114", after := #[{ on := 4, ground := Ground.data }, { on := 6, ground := Ground.data }, { on := 2, ground := Ground.chain }], guard := none }, { dst := some 27, op := Op.convert 3 65 (Operand.tmp 26), type := 65, pos := "ref.go:114", after := #[{ on := 7, ground := Ground.data }], guard := none }, { dst := some 28, op := Op.call { callee := Callee.value (Operand.func 28), args := #[Operand.tmp 21, Operand.tmp 27], argTypes := #[28, 65] }, type := 28, pos := "ref.go:114", after := #[{ on := 2, ground := Ground.data }, { on := 8, ground := Ground.data }, { on := 7, ground := Ground.chain }], guard := none }, { dst := some 0, op := Op.assign (Operand.tmp 28), type := 28, pos := "ref.go:114", after := #[{ on := 9, ground := Ground.data }, { on := 9, ground := Ground.chain }, { on := 0, ground := Ground.phase }, { on := 1, ground := Ground.phase }, { on := 2, ground := Ground.phase }, { on := 3, ground := Ground.phase }, { on := 4, ground := Ground.phase }, { on := 5, ground := Ground.phase }, { on := 6, ground := Ground.phase }, { on := 7, ground := Ground.phase }, { on := 8, ground := Ground.phase }, { on := 9, ground := Ground.phase }], guard := none }] true).wp Tryd.prog Q { tmps := #[.slice va n c, x1, x2, x3, .pointer (some ⟨d4, 0, none⟩), .pointer (some ⟨d5, 0, none⟩), x6, x7, x8, x9, x10, x11, x12, x13, x14, x15, x16, x17, x18, x19, x20, x21, x22, x23, x24, x25, x26, x27, x28, x29, x30, x31, x32, x33], defers := ds } A := by
  refine Code.wp_mono (Q := fun x a' w' => match x with | .normal => Q .normal a' w' | _ => False) (by intro x a' w' h; cases x <;> first | exact h | exact h.elim) ?_
  refine wp_region_held (S := fun V => Fr B A V) (by kernel_rfl) ?_
  have hS0 : Hid (Fr B A A.drew) := Fr.of_below (below_drew0 A) HX.out.1
  change wpAnyH Tryd.prog .any _ _ (fun V => Fr B A V) 11 (Array.replicate 11 false) _ A.drew
  obtain ⟨V0, hV0⟩ : ∃ V0, A.drew = V0 := ⟨_, rfl⟩
  rw [hV0]
  rw [hV0] at hS0
  have hO0 : Hid (Own 5 B V0 (.slice va n c) M) := by rw [← hV0]; exact HO.out
  clear hV0
  refine wpAnyH_take (i := 0) (oi := { dst := some 19, op := Op.move (Operand.tmp 0), type := 28, pos := "ref.go:114", after := #[], guard := none }) (v := .slice va n c) rfl (by kernel_rfl) (by kernel_rfl) (by kernel_rfl) (fun _ _ _ h => h.elim) (Or.inl ⟨by rfl, ?y1⟩) hS0.out ?_
  case y1 =>
    intro V hV
    go_simp
  simp only [Act.put, List.setIfInBounds_toArray, List.set_cons_zero, List.set_cons_succ]
  refine wpAnyH_take (i := 3) (oi := { dst := some 22, op := Op.fieldAddr 25 (Operand.tmp 4) 3, type := 0, pos := "ref.go:114", after := #[], guard := none }) (v := .pointer (some ⟨d4, 3, none⟩)) rfl (by kernel_rfl) (by kernel_rfl) (by kernel_rfl) (fun _ _ _ h => h.elim) (Or.inl ⟨by rfl, ?y2⟩) hS0.out ?_
  case y2 =>
    intro V hV
    go_simp
  simp only [Act.put, List.setIfInBounds_toArray, List.set_cons_zero, List.set_cons_succ]
  refine wpAnyH_take (i := 4) (oi := { dst := some 23, op := Op.load 22 (Operand.tmp 22), type := 22, pos := "ref.go:114", after := #[{ on := 3, ground := Ground.data }], guard := none }) (v := .slice da dn dc) rfl (by kernel_rfl) (by kernel_rfl) (by kernel_rfl) (fun _ _ _ h => h.elim) (Or.inl ⟨by rfl, ?y3⟩) hS0.out ?_
  case y3 =>
    intro V hV
    have hc : V.cell? ⟨d4, 3, none⟩ = some (.slice da dn dc) := (HB4.out.fr hV (by decide) (by decide)).cell HL4.out
    go_simp
  simp only [Act.put, List.setIfInBounds_toArray, List.set_cons_zero, List.set_cons_succ]
  refine wpAnyH_take (i := 5) (oi := { dst := some 24, op := Op.fieldAddr 42 (Operand.tmp 5) 0, type := 0, pos := "ref.go:114", after := #[], guard := none }) (v := .pointer (some ⟨d5, 0, none⟩)) rfl (by kernel_rfl) (by kernel_rfl) (by kernel_rfl) (fun _ _ _ h => h.elim) (Or.inl ⟨by rfl, ?y4⟩) hS0.out ?_
  case y4 =>
    intro V hV
    go_simp
  simp only [Act.put, List.setIfInBounds_toArray, List.set_cons_zero, List.set_cons_succ]
  refine wpAnyH_take (i := 6) (oi := { dst := some 25, op := Op.load 36 (Operand.tmp 24), type := 36, pos := "ref.go:114", after := #[{ on := 5, ground := Ground.data }], guard := none }) (v := .agg (U v.h).toArray) rfl (by kernel_rfl) (by kernel_rfl) (by kernel_rfl) (fun _ _ _ h => h.elim) (Or.inl ⟨by rfl, ?y5⟩) hS0.out ?_
  case y5 =>
    intro V hV
    have hr : V.rangeAt d5 0 (U v.h) := by have h := (HB.out.fr hV (by decide) (by decide)).range 0 32; rw [List.drop_zero, Vx.hash HV.out] at h; exact h
    exact yl_ld V 36 (.tmp 24) rfl d5 0 rfl (U v.h) _ hr Tryd.underlying36 rfl (info47 _ HV.out)
  simp only [Act.put, List.setIfInBounds_toArray, List.set_cons_zero, List.set_cons_succ]
  refine wpAnyH_ready (rs := [1]) (by kernel_rfl) (by simp) (AllReadyH.cons (i := 1) (o := { dst := some 20, op := Op.buildSlice 28 1 #[(0, Operand.const (Value.int IntKind.u8 2))], type := 28, pos := "ref.go:114", after := #[], guard := none }) rfl ?_ AllReadyH.nil)
  · intro K1 hK1
    obtain ⟨z1, hz1⟩ : ∃ z, V0.heap.size = z := ⟨_, rfl⟩
    obtain ⟨V1, hv1⟩ : ∃ V, V0.alloc (.cells (U [2]).toArray 5) = V := ⟨_, rfl⟩
    refine step_bs (by rfl) 28 1 _ rfl (.slice (some ⟨z1, 0, none⟩) 1 1) V1 (by rw [← hv1, ← hz1]; simp only [List.map_toArray, List.map_cons, List.map_nil]; exact bs28 2 V0) ?_
    have hI1 : Hid (In V1 (some ⟨z1, 0, none⟩) 1 1 [2]) := by rw [← hv1, ← hz1]; exact in_new V0 5 [2] (by simp)
    have hO1 : Hid (Own 5 B V1 (.slice va n c) M) := by rw [← hv1]; exact hO0.out.below (below_al _ _) (Nat.le_refl _)
    have hS1 : Hid (Fr B A V1) := by rw [← hv1]; exact hS0.out.trans (Fr.of_below (below_al _ _) (Nat.le_trans HX.out.1 hS0.out.size))
    clear hv1 hz1
    refine hK1.out _ _ hS1.out ?_
    clear hK1
    intro _
    try simp only [Act.put, List.setIfInBounds_toArray, List.set_cons_zero, List.set_cons_succ]
    refine wpAnyH_ready (rs := [2]) (by kernel_rfl) (by simp) (AllReadyH.cons (i := 2) (o := { dst := some 21, op := Op.call { callee := Callee.builtin Builtin.append, args := #[Operand.tmp 19, Operand.tmp 20], argTypes := #[28, 28] }, type := 28, pos := "ref.go:114", after := #[{ on := 0, ground := Ground.data }, { on := 1, ground := Ground.data }], guard := none }) rfl ?_ AllReadyH.nil)
    · intro K1 hK1
      refine step_append_in V1 (by rfl) (.tmp 19) (.tmp 20) 28 rfl B 5 i0 Tryd.underlying28 HI5.out.1 HI5.out.2.1 HI5.out.2.2.1 HI5.out.2.2.2 ((.slice va n c)) M M.length rfl rfl hO1.out (some ⟨z1, 0, none⟩) 1 1 [2] rfl hI1.out (by have := HX.out.2; omega) (Nat.le_trans HX.out.1 hS1.out.size) ?_
      intro v5 V2 ho5 hg5
      obtain ⟨va2, n5, c2, rfl, hin5, ho5⟩ := own_row ho5 (by rw [List.length_append, List.length_singleton]; have := HX.out.2; omega)
      have hS2 : Hid (Fr B A V2) := hS1.out.trans (fr_own hO1.out hg5 (Nat.le_trans HX.out.1 hS1.out.size))
      have hO2 : Hid (Own 5 B V2 (.slice va2 n5 c2) (M ++ [2])) := ho5
      have hJ2 : Hid (In V2 va2 n5 c2 (M ++ [2])) := hin5
      clear ho5 hg5 hin5
      refine hK1.out _ _ hS2.out ?_
      clear hK1
      intro _
      try simp only [Act.put, List.setIfInBounds_toArray, List.set_cons_zero, List.set_cons_succ]
      refine wpAnyH_ready (rs := [7]) (by kernel_rfl) (by simp) (AllReadyH.cons (i := 7) (o := { dst := some 26, op := Op.call { callee := Callee.value (Operand.func 50), args := #[Operand.tmp 23, Operand.tmp 25], argTypes := #[22, 36] }, type := 3, pos := "ref.go:114", after := #[{ on := 4, ground := Ground.data }, { on := 6, ground := Ground.data }, { on := 2, ground := Ground.chain }], guard := none }) rfl ?_ AllReadyH.nil)
      · intro K1 hK1
        rw [if_pos (by rfl)]
        have HC3 := HC.out V2 hS2.out
        go_wp2_with fail
        refine HC3.mono ?_
        rintro e V3 ⟨rfl, hb3⟩
        dsimp only
        clear HC3
        have hS3 : Hid (Fr B A V3) := hS2.out.trans (Fr.of_below hb3 (Nat.le_trans HX.out.1 hS2.out.size))
        have hJ3 : Hid (In V3 va2 n5 c2 (M ++ [2])) := hJ2.out.below hb3
        clear hb3
        refine hK1.out _ _ hS3.out ?_
        clear hK1
        intro _
        try simp only [Act.put, List.setIfInBounds_toArray, List.set_cons_zero, List.set_cons_succ]
        refine wpAnyH_take (i := 8) (oi := { dst := some 27, op := Op.convert 3 65 (Operand.tmp 26), type := 65, pos := "ref.go:114", after := #[{ on := 7, ground := Ground.data }], guard := none }) (v := .int .u64 (k : Int)) rfl (by kernel_rfl) (by kernel_rfl) (by kernel_rfl) (fun _ _ _ h => h.elim) (Or.inl ⟨by rfl, ?y6⟩) hS3.out ?_
        case y6 =>
          intro V hV
          have hw := HK.out.2
          go_simp
        simp only [Act.put, List.setIfInBounds_toArray, List.set_cons_zero, List.set_cons_succ]
        refine wpAnyH_ready (rs := [9]) (by kernel_rfl) (by simp) (AllReadyH.cons (i := 9) (o := { dst := some 28, op := Op.call { callee := Callee.value (Operand.func 28), args := #[Operand.tmp 21, Operand.tmp 27], argTypes := #[28, 65] }, type := 28, pos := "ref.go:114", after := #[{ on := 2, ground := Ground.data }, { on := 8, ground := Ground.data }, { on := 7, ground := Ground.chain }], guard := none }) rfl ?_ AllReadyH.nil)
        · intro K1 hK1
          rw [if_pos (by rfl)]
          have HC4 := put_own (B := B) hJ3.out (Nat.le_trans HX.out.1 hS3.out.size) k HK.out.1 (by rw [List.length_append, List.length_singleton]; have := HX.out.2; omega)
          go_wp2_with fail
          refine HC4.mono ?_
          rintro e V4 ⟨va3, n3, c3, rfl, ho4, hi4, hb4⟩
          dsimp only
          clear HC4
          have hS4 : Hid (Fr B A V4) := hS3.out.trans (Fr.of_below hb4 (Nat.le_trans HX.out.1 hS3.out.size))
          have hO4 : Hid (Own 5 B V4 (.slice va3 n3 c3) (M ++ [2] ++ enc k)) := ho4
          clear ho4 hi4 hb4
          refine hK1.out _ _ hS4.out ?_
          clear hK1
          intro _
          try simp only [Act.put, List.setIfInBounds_toArray, List.set_cons_zero, List.set_cons_succ]
          refine wpAnyH_take (i := 10) (oi := { dst := some 0, op := Op.assign (Operand.tmp 28), type := 28, pos := "ref.go:114", after := #[{ on := 9, ground := Ground.data }, { on := 9, ground := Ground.chain }, { on := 0, ground := Ground.phase }, { on := 1, ground := Ground.phase }, { on := 2, ground := Ground.phase }, { on := 3, ground := Ground.phase }, { on := 4, ground := Ground.phase }, { on := 5, ground := Ground.phase }, { on := 6, ground := Ground.phase }, { on := 7, ground := Ground.phase }, { on := 8, ground := Ground.phase }, { on := 9, ground := Ground.phase }], guard := none }) (v := .slice va3 n3 c3) rfl (by kernel_rfl) (by kernel_rfl) (by kernel_rfl) (fun _ _ _ h => h.elim) (Or.inl ⟨by rfl, ?y7⟩) hS4.out ?_
          case y7 =>
            intro V hV
            go_simp
          simp only [Act.put, List.setIfInBounds_toArray, List.set_cons_zero, List.set_cons_succ]
          refine wpAnyH_done (by kernel_rfl) ?_ _
          exact hQ V4 z1 va2 n5 c2 va3 n3 c3 hO4.out hS4.out
set_option maxHeartbeats 4000000 in
theorem rvx_is {B : Nat} {w : World} {va : Option Addr} {n c : Nat} {M : List UInt8} (ho : Own 5 B w (.slice va n c) M) (hB : B ≤ w.heap.size) (p : PV) (hp : ∀ V, Below B w V → PR V p) (hdn : p.dn ≤ 1000) (v : Vx) (hv : v.ok) (hL : eqVx v vTop = true ∨ eqVx v vBot = true ∨ lineOf p.D v = true) (hM : M.length ≤ 900000) (R : List UInt8) (hR : encV p.D v = R) :
    Calls Tryd.prog 29 #[.slice va n c, .agg p.cells.toArray, .agg v.cells.toArray] w (RvP B (M ++ R) w) := by
  have HP : Hid ((∀ V, Below B w V → PR V p) ∧ p.dn ≤ 1000 ∧ (eqVx v vTop = true ∨ eqVx v vBot = true ∨ lineOf p.D v = true) ∧ M.length ≤ 900000 ∧ B ≤ w.heap.size) := ⟨hp, hdn, hL, hM, hB⟩
  have HV : Hid v.ok := hv
  obtain ⟨i0, hi0⟩ := i5
  have HI5 : Hid (Tryd.prog.info? 5 = some i0 ∧ i0.zero = some (.int .u8 0) ∧ i0.size = 1 ∧ i0.bytes = 1) := hi0
  obtain ⟨d4, hd4⟩ : ∃ d, w.heap.size = d := ⟨_, rfl⟩
  obtain ⟨Wa, hWa⟩ : ∃ W, w.alloc (.cells p.cells.toArray 25) = W := ⟨_, rfl⟩
  obtain ⟨d5, hd5⟩ : ∃ d, Wa.heap.size = d := ⟨_, rfl⟩
  obtain ⟨W, hW⟩ : ∃ W, Wa.alloc (.cells v.cells.toArray 42) = W := ⟨_, rfl⟩
  have b1 : Below w.heap.size w Wa := by rw [← hWa]; exact below_al _ _
  have b2 : Below Wa.heap.size Wa W := by rw [← hW]; exact below_al _ _
  have k1 : Blk Wa d4 25 p.cells := by rw [← hWa, ← hd4]; exact Blk.new w _ _
  have k2 : Blk W d5 42 v.cells := by rw [← hW, ← hd5]; exact Blk.new Wa _ _
  have bw := below_tr b1 b2
  have H0 : Hid (Fr B w W ∧ Blk W d4 25 p.cells ∧ Blk W d5 42 v.cells ∧ Own 5 B W (.slice va n c) M) := ⟨Fr.of_below bw hB, k1.below b2 k1.lt, k2, ho.below bw (Nat.le_refl _)⟩
  have HB : Hid (Blk W d5 42 v.cells) := k2
  obtain ⟨T1, hT1⟩ : ∃ b, eqVx v vTop = b := ⟨_, rfl⟩
  obtain ⟨T2, hT2⟩ : ∃ b, eqVx v vBot = b := ⟨_, rfl⟩
  have HT1 : Hid (eqVx v vTop = T1) := hT1
  have HT2 : Hid (eqVx v vBot = T2) := hT2
  unfold encV at hR
  rw [hT1, hT2] at hR
  clear hT1 hT2 hp hdn hL hv hB hM ho b1 b2 k1 k2 bw hi0
  go_enter Tryd.func29, Tryd.ntmps29
  go_wp2_with fail
  refine vt1 HB HV HT1 ?_
  intro W1 hb1
  have H1 : Hid (Fr B w W1 ∧ Blk W1 d4 25 p.cells ∧ Blk W1 d5 42 v.cells ∧ Own 5 B W1 (.slice va n c) M) := ⟨H0.out.1.trans (Fr.of_below hb1 (Nat.le_trans HP.out.2.2.2.2 H0.out.1.size)), H0.out.2.1.below hb1 H0.out.2.1.lt, H0.out.2.2.1.below hb1 H0.out.2.2.1.lt, H0.out.2.2.2.below hb1 (Nat.le_refl _)⟩
  clear hb1 hW hd5 hWa hd4 H0 HB
  cases T1 with
  | true =>
    rw [if_pos rfl] at hR
    subst hR
    obtain ⟨W2, hW2⟩ : ∃ W, W1.alloc (.cells #[.int .u8 0] 5) = W := ⟨_, rfl⟩
    obtain ⟨r, hr⟩ : ∃ r, W1.heap.size = r := ⟨_, rfl⟩
    have HJ : Hid (In W2 (some ⟨r, 0, none⟩) 1 1 [0] ∧ Below W1.heap.size W1 W2) := by
      refine ⟨?_, by rw [← hW2]; exact below_al _ _⟩
      rw [← hW2, ← hr]
      exact in_new W1 5 [0] (by simp)
    go_wp2_with (with_reducible change wpList _ _ _ ({ dst := some 12, op := _, type := _, pos := _, after := _, guard := _ } :: _) _ _; refine Hid.out ?_)
    show wpList _ _ _ _ _ _
    refine wpList_append_in W2 rfl (.tmp 10) (.tmp 11) 28 rfl B 5 i0 Tryd.underlying28 HI5.out.1 HI5.out.2.1 HI5.out.2.2.1 HI5.out.2.2.2 (.slice va n c) M M.length rfl rfl (H1.out.2.2.2.below HJ.out.2 (Nat.le_refl _)) (some ⟨r, 0, none⟩) 1 1 [0] rfl HJ.out.1 (by have := HP.out.2.2.2.1; omega) (by have := HP.out.2.2.2.2; have := H1.out.1.size; have := HJ.out.2.size; omega) ?_
    intro v3 W3 ho3 hg3
    obtain ⟨va3, n3, c3, rfl, -, ho3⟩ := own_row ho3 (by rw [List.length_append, List.length_singleton]; have := HP.out.2.2.2.1; omega)
    have HF : Hid (Own 5 B W3 (.slice va3 n3 c3) (M ++ [0]) ∧ Fr B w W3) := ⟨ho3, (H1.out.1.trans (Fr.of_below HJ.out.2 (Nat.le_trans HP.out.2.2.2.2 H1.out.1.size))).trans (fr_own (H1.out.2.2.2.below HJ.out.2 (Nat.le_refl _)) hg3 (by have := HP.out.2.2.2.2; have := H1.out.1.size; have := HJ.out.2.size; omega))⟩
    clear ho3 hg3 hW2 hr HJ
    go_wp2
    go_ret
    exact ⟨_, _, _, rfl, HF.out.1, HF.out.2⟩
  | false =>
  rw [if_neg (by decide)] at hR
  have HB : Hid (Blk W1 d5 42 v.cells) := H1.out.2.2.1
  go_wp2_with fail
  refine vt3 HB HV HT2 ?_
  intro W2 hb2
  have H2 : Hid (Fr B w W2 ∧ Blk W2 d4 25 p.cells ∧ Blk W2 d5 42 v.cells ∧ Own 5 B W2 (.slice va n c) M) := ⟨H1.out.1.trans (Fr.of_below hb2 (Nat.le_trans HP.out.2.2.2.2 H1.out.1.size)), H1.out.2.1.below hb2 H1.out.2.1.lt, H1.out.2.2.1.below hb2 H1.out.2.2.1.lt, H1.out.2.2.2.below hb2 (Nat.le_refl _)⟩
  clear hb2 H1 HB
  cases T2 with
  | true =>
    rw [if_pos rfl] at hR
    subst hR
    obtain ⟨W4, hW4⟩ : ∃ W, W2.alloc (.cells #[.int .u8 1] 5) = W := ⟨_, rfl⟩
    obtain ⟨r, hr⟩ : ∃ r, W2.heap.size = r := ⟨_, rfl⟩
    have HJ : Hid (In W4 (some ⟨r, 0, none⟩) 1 1 [1] ∧ Below W2.heap.size W2 W4) := by
      refine ⟨?_, by rw [← hW4]; exact below_al _ _⟩
      rw [← hW4, ← hr]
      exact in_new W2 5 [1] (by simp)
    go_wp2_with (with_reducible change wpList _ _ _ ({ dst := some 18, op := _, type := _, pos := _, after := _, guard := _ } :: _) _ _; refine Hid.out ?_)
    show wpList _ _ _ _ _ _
    refine wpList_append_in W4 rfl (.tmp 16) (.tmp 17) 28 rfl B 5 i0 Tryd.underlying28 HI5.out.1 HI5.out.2.1 HI5.out.2.2.1 HI5.out.2.2.2 (.slice va n c) M M.length rfl rfl (H2.out.2.2.2.below HJ.out.2 (Nat.le_refl _)) (some ⟨r, 0, none⟩) 1 1 [1] rfl HJ.out.1 (by have := HP.out.2.2.2.1; omega) (by have := HP.out.2.2.2.2; have := H2.out.1.size; have := HJ.out.2.size; omega) ?_
    intro v3 W3 ho3 hg3
    obtain ⟨va3, n3, c3, rfl, -, ho3⟩ := own_row ho3 (by rw [List.length_append, List.length_singleton]; have := HP.out.2.2.2.1; omega)
    have HF : Hid (Own 5 B W3 (.slice va3 n3 c3) (M ++ [1]) ∧ Fr B w W3) := ⟨ho3, (H2.out.1.trans (Fr.of_below HJ.out.2 (Nat.le_trans HP.out.2.2.2.2 H2.out.1.size))).trans (fr_own (H2.out.2.2.2.below HJ.out.2 (Nat.le_refl _)) hg3 (by have := HP.out.2.2.2.2; have := H2.out.1.size; have := HJ.out.2.size; omega))⟩
    clear ho3 hg3 hW4 hr HJ
    go_wp2
    go_ret
    exact ⟨_, _, _, rfl, HF.out.1, HF.out.2⟩
  | false =>
  rw [if_neg (by decide)] at hR
  have hl : lineOf p.D v = true := by
    rcases HP.out.2.2.1 with h | h | h
    · rw [HT1.out] at h; cases h
    · rw [HT2.out] at h; cases h
    · exact h
  obtain ⟨a1, a2, a3⟩ := line_of hl
  obtain ⟨k, hk, hk2, _⟩ := place_nat a3
  obtain ⟨j, hj⟩ : ∃ j : Nat, v.n = (j : Int) := ⟨v.n.toNat, by omega⟩
  rw [hk, hj, Int.toNat_natCast, Int.toNat_natCast] at hR
  have hDl : p.D.length = p.dn := (HP.out.1 w (Below.refl _ _)).1.1
  have HK : Hid (k ≤ 4611686018427387904 ∧ IntKind.u64.wrap (k : Int) = (k : Int)) := ⟨by have := HP.out.2.1; omega, by rw [IntKind.wrap_u64]; have := HP.out.2.1; omega⟩
  have HJ : Hid (v.n = (j : Int) ∧ j < 64 ∧ 2 :: (enc k ++ enc j) = R) := ⟨hj, by omega, hR⟩
  have wn : IntKind.u64.wrap (j : Int) = (j : Int) := by rw [IntKind.wrap_u64]; omega
  have HX : Hid (B ≤ W2.heap.size ∧ M.length ≤ 900000) := ⟨Nat.le_trans HP.out.2.2.2.2 H2.out.1.size, HP.out.2.2.2.1⟩
  have HO : Hid (Own 5 B W2 (.slice va n c) M) := H2.out.2.2.2
  have HB4 : Hid (Blk W2 d4 25 p.cells) := H2.out.2.1
  have HL4 : Hid (p.cells[3]? = some (.slice p.da p.dn p.dc)) := rfl
  have HB : Hid (Blk W2 d5 42 v.cells) := H2.out.2.2.1
  have HC : Hid (∀ V, Fr B W2 V → Calls Tryd.prog 50 #[.slice p.da p.dn p.dc, .agg (U v.h).toArray] V fun e V2 => e = .returned (iv (k : Int)) ∧ Below V.heap.size V V2) := fun V hV => (place_is V p.da p.dn p.dc p.D v.h (HP.out.1 V (H2.out.1.trans hV).below).1 HV.out (by have := HP.out.2.1; omega)).mono fun e V2 h => ⟨by rw [h.1, hk], h.2.out⟩
  clear hl a1 a2 a3 hk2 hj hR hDl
  go_wp2_with fail
  refine vr5 HI5 HX HV HK HO HB4 HL4 HB HC ?_
  intro W3 z va2 n5 c2 va3 n3 c3 ho3 hf3
  clear hk
  have hin4 := own_inn ho3 (by simp only [List.length_append]; have := HX.out.2; have := enc_ten k (by have := HK.out.1; omega); simp; omega)
  have H3 : Hid (Fr B w W3 ∧ In W3 va3 n3 c3 (M ++ [2] ++ enc k)) := ⟨H2.out.1.trans hf3, hin4⟩
  have c32 : W3.cell? ⟨d5, 32, none⟩ = some (iv (j : Int)) := by rw [← HJ.out.1]; exact (HB.out.fr hf3 (by decide) (by decide)).cell (Vx.line HV.out)
  clear ho3 hf3 hin4
  go_wp2_with fail
  refine (put_own (B := B) H3.out.2 (Nat.le_trans HP.out.2.2.2.2 H3.out.1.size) j (by have := HJ.out.2.1; omega) (by simp only [List.length_append]; have := HX.out.2; have := enc_ten k (by have := HK.out.1; omega); simp; omega)).mono ?_
  rintro e W5 ⟨va5, n5', c5, rfl, ho5, -, hb5⟩
  have e1 : M ++ [2] ++ enc k ++ enc j = M ++ R := by rw [← HJ.out.2.2]; simp
  have HF : Hid (Own 5 B W5 (.slice va5 n5' c5) (M ++ R) ∧ Fr B w W5) := ⟨by rw [← e1]; exact ho5, H3.out.1.trans (Fr.of_below hb5 (Nat.le_trans HP.out.2.2.2.2 H3.out.1.size))⟩
  clear ho5 hb5 c32 e1
  go_wp2
  go_ret
  exact ⟨_, _, _, rfl, HF.out.1, HF.out.2⟩
end Go.Proofs.YtgdecjacbkicmaaDoor.Oct

/- Layer 10 (patch): the reference's Bytes: its drawn regions. -/
namespace Go.Proofs.YtgdecjacbkicmaaDoor.Oct
open Go.RowKit
set_option maxRecDepth 100000
set_option linter.unusedSimpArgs false
set_option linter.unusedVariables false

theorem in_at {w : World} {g o : Nat} {x : Hs} (h : w.rangeAt g o (U x)) (hg : g < w.heap.size) (hx : x.length = 32) : In w (some ⟨g, o, none⟩) 32 32 x := by
  refine ⟨hx, Nat.le_refl _, by omega, (fun e => by cases e), fun _ => ⟨g, o, rfl, hg, fun i c hc => ?_⟩⟩
  refine h i _ ?_
  have hlt := (List.getElem?_eq_some_iff.1 hc).1
  rw [U_get x i hlt]
  rw [List.getElem?_eq_getElem hlt] at hc
  cases hc
  rfl
set_option maxRecDepth 100000 in
set_option maxHeartbeats 4000000 in
theorem br14a {Q : Exit → Act → World → Prop} {x0 x1 x2 x4 x5 x7 x8 x9 x10 x11 x12 x13 x14 x15 x16 x17 x18 x19 x20 x21 x22 x23 x24 x25 x26 x27 x28 x29 x30 x31 x32 x33 x34 x35 x36 x37 x38 x39 x40 x41 x42 x43 x44 x45 x46 x47 x48 x49 x50 x51 x52 x53 x54 x55 x56 x57 x58 x59 x60 x61 x62 x63 x64 x65 x66 x67 x68 x69 x70 x71 x72 x73 x74 x75 x76 x77 x78 x79 x80 x81 x82 x83 x84 x85 x86 x87 x88 x89 x90 x91 x92 x93 x94 x95 x96 x97 x98 x99 x100 : Value} {ds : List Deferred} {A : World} {B n c d6 : Nat} {va : Option Addr} {M : List UInt8} {x : OpV} {s : BA} {i0 : TypeInfo}
    (HI5 : Hid (Tryd.prog.info? 5 = some i0 ∧ i0.zero = some (.int .u8 0) ∧ i0.size = 1 ∧ i0.bytes = 1)) (HX : Hid (B ≤ A.heap.size ∧ M.length ≤ 900000)) (HO : Hid (Own 5 B A (.slice va n c) M)) (HB6 : Hid (OpB A d6 x)) (HS : Hid (x.kind = 1 ∧ s.size ≤ 100 ∧ x.path = s))
    (hQ : ∀ V1 z va2 n5 c2 va3 n3 c3, Own 5 B V1 (.slice va3 n3 c3) (M ++ [1] ++ encT s) → Fr B A V1 → Q .normal { tmps := #[x0, x1, x2, .slice va3 n3 c3, x4, x5, .pointer (some ⟨d6, 0, none⟩), x7, x8, x9, x10, x11, x12, x13, x14, x15, x16, x17, x18, x19, x20, x21, x22, x23, x24, x25, x26, x27, x28, x29, x30, x31, x32, x33, x34, x35, x36, x37, x38, x39, x40, x41, x42, x43, x44, x45, x46, x47, x48, x49, x50, x51, x52, x53, x54, x55, x56, x57, x58, .slice va n c, .pointer (some ⟨d6, 0, none⟩), iv 1, .int .u8 1, .slice (some ⟨z, 0, none⟩) 1 1, .slice va2 n5 c2, .pointer (some ⟨d6, 1, none⟩), .string s, .slice va3 n3 c3, x68, x69, x70, x71, x72, x73, x74, x75, x76, x77, x78, x79, x80, x81, x82, x83, x84, x85, x86, x87, x88, x89, x90, x91, x92, x93, x94, x95, x96, x97, x98, x99, x100], defers := ds } V1) :
    (Code.region 14 #[{ dst := some 59, op := Op.move (Operand.tmp 3), type := 28, pos := "ref.go:130", after := #[], guard := none }, { dst := some 60, op := Op.fieldAddr 45 (Operand.tmp 6) 0, type := 0, pos := "ref.go:130", after := #[], guard := none }, { dst := some 61, op := Op.load 3 (Operand.tmp 60), type := 3, pos := "ref.go:130", after := #[{ on := 1, ground := Ground.data }], guard := none }, { dst := some 62, op := Op.convert 3 5 (Operand.tmp 61), type := 5, pos := "ref.go:130", after := #[{ on := 2, ground := Ground.data }], guard := none }, { dst := some 63, op := Op.buildSlice 28 1 #[(0, Operand.tmp 62)], type := 28, pos := "ref.go:130", after := #[{ on := 3, ground := Ground.data }], guard := none }, { dst := some 64, op := Op.call { callee := Callee.builtin Builtin.append, args := #[Operand.tmp 59, Operand.tmp 63], argTypes := #[28, 28] }, type := 28, pos := "ref.go:130", after := #[{ on := 0, ground := Ground.data }, { on := 4, ground := Ground.data }], guard := none }, { dst := some 65, op := Op.fieldAddr 45 (Operand.tmp 6) 1, type := 0, pos := "ref.go:130", after := #[], guard := none }, { dst := some 66, op := Op.load 9 (Operand.tmp 65), type := 9, pos := "ref.go:130", after := #[{ on := 6, ground := Ground.data }], guard := none }, { dst := some 67, op := Op.call { callee := Callee.value (Operand.func 27), args := #[Operand.tmp 64, Operand.tmp 66], argTypes := #[28, 9] }, type := 28, pos := "ref.go:130", after := #[{ on := 5, ground := Ground.data }, { on := 7, ground := Ground.data }, { on := 5, ground := Ground.chain }], guard := none }, { dst := some 3, op := Op.assign (Operand.tmp 67), type := 28, pos := "ref.go:130", after := #[{ on := 8, ground := Ground.data }, { on := 8, ground := Ground.chain }, { on := 0, ground := Ground.phase }, { on := 1, ground := Ground.phase }, { on := 2, ground := Ground.phase }, { on := 3, ground := Ground.phase }, { on := 4, ground := Ground.phase }, { on := 5, ground := Ground.phase }, { on := 6, ground := Ground.phase }, { on := 7, ground := Ground.phase }, { on := 8, ground := Ground.phase }], guard := none }] true).wp Tryd.prog Q { tmps := #[x0, x1, x2, .slice va n c, x4, x5, .pointer (some ⟨d6, 0, none⟩), x7, x8, x9, x10, x11, x12, x13, x14, x15, x16, x17, x18, x19, x20, x21, x22, x23, x24, x25, x26, x27, x28, x29, x30, x31, x32, x33, x34, x35, x36, x37, x38, x39, x40, x41, x42, x43, x44, x45, x46, x47, x48, x49, x50, x51, x52, x53, x54, x55, x56, x57, x58, x59, x60, x61, x62, x63, x64, x65, x66, x67, x68, x69, x70, x71, x72, x73, x74, x75, x76, x77, x78, x79, x80, x81, x82, x83, x84, x85, x86, x87, x88, x89, x90, x91, x92, x93, x94, x95, x96, x97, x98, x99, x100], defers := ds } A := by
  refine Code.wp_mono (Q := fun x a' w' => match x with | .normal => Q .normal a' w' | _ => False) (by intro x a' w' h; cases x <;> first | exact h | exact h.elim) ?_
  refine wp_region_held (S := fun V => Fr B A V) (by kernel_rfl) ?_
  have hS0 : Hid (Fr B A A.drew) := Fr.of_below (below_drew0 A) HX.out.1
  change wpAnyH Tryd.prog .any _ _ (fun V => Fr B A V) 10 (Array.replicate 10 false) _ A.drew
  obtain ⟨V0, hV0⟩ : ∃ V0, A.drew = V0 := ⟨_, rfl⟩
  rw [hV0]
  rw [hV0] at hS0
  have hO0 : Hid (Own 5 B V0 (.slice va n c) M) := by rw [← hV0]; exact HO.out
  clear hV0
  refine wpAnyH_take (i := 0) (oi := { dst := some 59, op := Op.move (Operand.tmp 3), type := 28, pos := "ref.go:130", after := #[], guard := none }) (v := .slice va n c) rfl (by kernel_rfl) (by kernel_rfl) (by kernel_rfl) (fun _ _ _ h => h.elim) (Or.inl ⟨by rfl, ?y1⟩) hS0.out ?_
  case y1 =>
    intro V hV
    go_simp
  simp only [Act.put, List.setIfInBounds_toArray, List.set_cons_zero, List.set_cons_succ]
  refine wpAnyH_take (i := 1) (oi := { dst := some 60, op := Op.fieldAddr 45 (Operand.tmp 6) 0, type := 0, pos := "ref.go:130", after := #[], guard := none }) (v := .pointer (some ⟨d6, 0, none⟩)) rfl (by kernel_rfl) (by kernel_rfl) (by kernel_rfl) (fun _ _ _ h => h.elim) (Or.inl ⟨by rfl, ?y2⟩) hS0.out ?_
  case y2 =>
    intro V hV
    go_simp
  simp only [Act.put, List.setIfInBounds_toArray, List.set_cons_zero, List.set_cons_succ]
  refine wpAnyH_take (i := 2) (oi := { dst := some 61, op := Op.load 3 (Operand.tmp 60), type := 3, pos := "ref.go:130", after := #[{ on := 1, ground := Ground.data }], guard := none }) (v := iv 1) rfl (by kernel_rfl) (by kernel_rfl) (by kernel_rfl) (fun _ _ _ h => h.elim) (Or.inl ⟨by rfl, ?y3⟩) hS0.out ?_
  case y3 =>
    intro V hV
    have hc : V.cell? ⟨d6, 0, none⟩ = some (iv 1) := by rw [← HS.out.1]; exact (⟨HB6.out.blk.fr (show Fr B A V from hV) (by decide) (by decide), HB6.out.ok⟩ : OpB V d6 x).kind
    go_simp
  simp only [Act.put, List.setIfInBounds_toArray, List.set_cons_zero, List.set_cons_succ]
  refine wpAnyH_take (i := 3) (oi := { dst := some 62, op := Op.convert 3 5 (Operand.tmp 61), type := 5, pos := "ref.go:130", after := #[{ on := 2, ground := Ground.data }], guard := none }) (v := .int .u8 1) rfl (by kernel_rfl) (by kernel_rfl) (by kernel_rfl) (fun _ _ _ h => h.elim) (Or.inl ⟨by rfl, ?y4⟩) hS0.out ?_
  case y4 =>
    intro V hV
    have hw : IntKind.u8.wrap 1 = 1 := by first | rfl | decide
    go_simp
  simp only [Act.put, List.setIfInBounds_toArray, List.set_cons_zero, List.set_cons_succ]
  refine wpAnyH_take (i := 6) (oi := { dst := some 65, op := Op.fieldAddr 45 (Operand.tmp 6) 1, type := 0, pos := "ref.go:130", after := #[], guard := none }) (v := .pointer (some ⟨d6, 1, none⟩)) rfl (by kernel_rfl) (by kernel_rfl) (by kernel_rfl) (fun _ _ _ h => h.elim) (Or.inl ⟨by rfl, ?y5⟩) hS0.out ?_
  case y5 =>
    intro V hV
    go_simp
  simp only [Act.put, List.setIfInBounds_toArray, List.set_cons_zero, List.set_cons_succ]
  refine wpAnyH_take (i := 7) (oi := { dst := some 66, op := Op.load 9 (Operand.tmp 65), type := 9, pos := "ref.go:130", after := #[{ on := 6, ground := Ground.data }], guard := none }) (v := .string s) rfl (by kernel_rfl) (by kernel_rfl) (by kernel_rfl) (fun _ _ _ h => h.elim) (Or.inl ⟨by rfl, ?y6⟩) hS0.out ?_
  case y6 =>
    intro V hV
    have hc : V.cell? ⟨d6, 1, none⟩ = some (.string s) := by rw [← HS.out.2.2]; exact (⟨HB6.out.blk.fr (show Fr B A V from hV) (by decide) (by decide), HB6.out.ok⟩ : OpB V d6 x).path
    go_simp
  simp only [Act.put, List.setIfInBounds_toArray, List.set_cons_zero, List.set_cons_succ]
  refine wpAnyH_ready (rs := [4]) (by kernel_rfl) (by simp) (AllReadyH.cons (i := 4) (o := { dst := some 63, op := Op.buildSlice 28 1 #[(0, Operand.tmp 62)], type := 28, pos := "ref.go:130", after := #[{ on := 3, ground := Ground.data }], guard := none }) rfl ?_ AllReadyH.nil)
  · intro K1 hK1
    obtain ⟨z1, hz1⟩ : ∃ z, V0.heap.size = z := ⟨_, rfl⟩
    obtain ⟨V1, hv1⟩ : ∃ V, V0.alloc (.cells (U [1]).toArray 5) = V := ⟨_, rfl⟩
    refine step_bs (by rfl) 28 1 _ rfl (.slice (some ⟨z1, 0, none⟩) 1 1) V1 (by rw [← hv1, ← hz1]; simp only [List.map_toArray, List.map_cons, List.map_nil]; exact bs28 1 V0) ?_
    have hI1 : Hid (In V1 (some ⟨z1, 0, none⟩) 1 1 [1]) := by rw [← hv1, ← hz1]; exact in_new V0 5 [1] (by simp)
    have hO1 : Hid (Own 5 B V1 (.slice va n c) M) := by rw [← hv1]; exact hO0.out.below (below_al _ _) (Nat.le_refl _)
    have hS1 : Hid (Fr B A V1) := by rw [← hv1]; exact hS0.out.trans (Fr.of_below (below_al _ _) (Nat.le_trans HX.out.1 hS0.out.size))
    clear hv1 hz1
    refine hK1.out _ _ hS1.out ?_
    clear hK1
    intro _
    try simp only [Act.put, List.setIfInBounds_toArray, List.set_cons_zero, List.set_cons_succ]
    refine wpAnyH_ready (rs := [5]) (by kernel_rfl) (by simp) (AllReadyH.cons (i := 5) (o := { dst := some 64, op := Op.call { callee := Callee.builtin Builtin.append, args := #[Operand.tmp 59, Operand.tmp 63], argTypes := #[28, 28] }, type := 28, pos := "ref.go:130", after := #[{ on := 0, ground := Ground.data }, { on := 4, ground := Ground.data }], guard := none }) rfl ?_ AllReadyH.nil)
    · intro K1 hK1
      refine step_append_in V1 (by rfl) (.tmp 59) (.tmp 63) 28 rfl B 5 i0 Tryd.underlying28 HI5.out.1 HI5.out.2.1 HI5.out.2.2.1 HI5.out.2.2.2 ((.slice va n c)) M M.length rfl rfl hO1.out (some ⟨z1, 0, none⟩) 1 1 [1] rfl hI1.out (by have := HX.out.2; omega) (Nat.le_trans HX.out.1 hS1.out.size) ?_
      intro v5 V2 ho5 hg5
      obtain ⟨va2, n5, c2, rfl, hin5, ho5⟩ := own_row ho5 (by rw [List.length_append, List.length_singleton]; have := HX.out.2; omega)
      have hS2 : Hid (Fr B A V2) := hS1.out.trans (fr_own hO1.out hg5 (Nat.le_trans HX.out.1 hS1.out.size))
      have hO2 : Hid (Own 5 B V2 (.slice va2 n5 c2) (M ++ [1])) := ho5
      have hJ2 : Hid (In V2 va2 n5 c2 (M ++ [1])) := hin5
      clear ho5 hg5 hin5
      refine hK1.out _ _ hS2.out ?_
      clear hK1
      intro _
      try simp only [Act.put, List.setIfInBounds_toArray, List.set_cons_zero, List.set_cons_succ]
      refine wpAnyH_ready (rs := [8]) (by kernel_rfl) (by simp) (AllReadyH.cons (i := 8) (o := { dst := some 67, op := Op.call { callee := Callee.value (Operand.func 27), args := #[Operand.tmp 64, Operand.tmp 66], argTypes := #[28, 9] }, type := 28, pos := "ref.go:130", after := #[{ on := 5, ground := Ground.data }, { on := 7, ground := Ground.data }, { on := 5, ground := Ground.chain }], guard := none }) rfl ?_ AllReadyH.nil)
      · intro K1 hK1
        rw [if_pos (by rfl)]
        have HC3 := put_txt (B := B) hJ2.out (Nat.le_trans HX.out.1 hS2.out.size) s (by rw [List.length_append, List.length_singleton]; have := HX.out.2; have := HS.out.2.1; omega)
        go_wp2_with fail
        refine HC3.mono ?_
        rintro e V3 ⟨va3, n3, c3, rfl, ho3, hi3, hb3⟩
        dsimp only
        clear HC3
        have hS3 : Hid (Fr B A V3) := hS2.out.trans (Fr.of_below hb3 (Nat.le_trans HX.out.1 hS2.out.size))
        have hO3 : Hid (Own 5 B V3 (.slice va3 n3 c3) (M ++ [1] ++ encT s)) := ho3
        clear ho3 hi3 hb3
        refine hK1.out _ _ hS3.out ?_
        clear hK1
        intro _
        try simp only [Act.put, List.setIfInBounds_toArray, List.set_cons_zero, List.set_cons_succ]
        refine wpAnyH_take (i := 9) (oi := { dst := some 3, op := Op.assign (Operand.tmp 67), type := 28, pos := "ref.go:130", after := #[{ on := 8, ground := Ground.data }, { on := 8, ground := Ground.chain }, { on := 0, ground := Ground.phase }, { on := 1, ground := Ground.phase }, { on := 2, ground := Ground.phase }, { on := 3, ground := Ground.phase }, { on := 4, ground := Ground.phase }, { on := 5, ground := Ground.phase }, { on := 6, ground := Ground.phase }, { on := 7, ground := Ground.phase }, { on := 8, ground := Ground.phase }], guard := none }) (v := .slice va3 n3 c3) rfl (by kernel_rfl) (by kernel_rfl) (by kernel_rfl) (fun _ _ _ h => h.elim) (Or.inl ⟨by rfl, ?y7⟩) hS3.out ?_
        case y7 =>
          intro V hV
          go_simp
        simp only [Act.put, List.setIfInBounds_toArray, List.set_cons_zero, List.set_cons_succ]
        refine wpAnyH_done (by kernel_rfl) ?_ _
        exact hQ V3 z1 va2 n5 c2 va3 n3 c3 hO3.out hS3.out
set_option maxRecDepth 100000 in
set_option maxHeartbeats 4000000 in
theorem br14b {Q : Exit → Act → World → Prop} {x0 x1 x2 x4 x5 x7 x8 x9 x10 x11 x12 x13 x14 x15 x16 x17 x18 x19 x20 x21 x22 x23 x24 x25 x26 x27 x28 x29 x30 x31 x32 x33 x34 x35 x36 x37 x38 x39 x40 x41 x42 x43 x44 x45 x46 x47 x48 x49 x50 x51 x52 x53 x54 x55 x56 x57 x58 x59 x60 x61 x62 x63 x64 x65 x66 x67 x68 x69 x70 x71 x72 x73 x74 x75 x76 x77 x78 x79 x80 x81 x82 x83 x84 x85 x86 x87 x88 x89 x90 x91 x92 x93 x94 x95 x96 x97 x98 x99 x100 : Value} {ds : List Deferred} {A : World} {B n c d6 : Nat} {va : Option Addr} {M : List UInt8} {x : OpV} {s : BA} {i0 : TypeInfo}
    (HI5 : Hid (Tryd.prog.info? 5 = some i0 ∧ i0.zero = some (.int .u8 0) ∧ i0.size = 1 ∧ i0.bytes = 1)) (HX : Hid (B ≤ A.heap.size ∧ M.length ≤ 900000)) (HO : Hid (Own 5 B A (.slice va n c) M)) (HB6 : Hid (OpB A d6 x)) (HS : Hid (x.kind = 2 ∧ s.size ≤ 100 ∧ x.path = s))
    (hQ : ∀ V1 z va2 n5 c2 va3 n3 c3, Own 5 B V1 (.slice va3 n3 c3) (M ++ [2] ++ encT s) → Fr B A V1 → Q .normal { tmps := #[x0, x1, x2, .slice va3 n3 c3, x4, x5, .pointer (some ⟨d6, 0, none⟩), x7, x8, x9, x10, x11, x12, x13, x14, x15, x16, x17, x18, x19, x20, x21, x22, x23, x24, x25, x26, x27, x28, x29, x30, x31, x32, x33, x34, x35, x36, x37, x38, x39, x40, x41, x42, x43, x44, x45, x46, x47, x48, x49, x50, x51, x52, x53, x54, x55, x56, x57, x58, .slice va n c, .pointer (some ⟨d6, 0, none⟩), iv 2, .int .u8 2, .slice (some ⟨z, 0, none⟩) 1 1, .slice va2 n5 c2, .pointer (some ⟨d6, 1, none⟩), .string s, .slice va3 n3 c3, x68, x69, x70, x71, x72, x73, x74, x75, x76, x77, x78, x79, x80, x81, x82, x83, x84, x85, x86, x87, x88, x89, x90, x91, x92, x93, x94, x95, x96, x97, x98, x99, x100], defers := ds } V1) :
    (Code.region 14 #[{ dst := some 59, op := Op.move (Operand.tmp 3), type := 28, pos := "ref.go:130", after := #[], guard := none }, { dst := some 60, op := Op.fieldAddr 45 (Operand.tmp 6) 0, type := 0, pos := "ref.go:130", after := #[], guard := none }, { dst := some 61, op := Op.load 3 (Operand.tmp 60), type := 3, pos := "ref.go:130", after := #[{ on := 1, ground := Ground.data }], guard := none }, { dst := some 62, op := Op.convert 3 5 (Operand.tmp 61), type := 5, pos := "ref.go:130", after := #[{ on := 2, ground := Ground.data }], guard := none }, { dst := some 63, op := Op.buildSlice 28 1 #[(0, Operand.tmp 62)], type := 28, pos := "ref.go:130", after := #[{ on := 3, ground := Ground.data }], guard := none }, { dst := some 64, op := Op.call { callee := Callee.builtin Builtin.append, args := #[Operand.tmp 59, Operand.tmp 63], argTypes := #[28, 28] }, type := 28, pos := "ref.go:130", after := #[{ on := 0, ground := Ground.data }, { on := 4, ground := Ground.data }], guard := none }, { dst := some 65, op := Op.fieldAddr 45 (Operand.tmp 6) 1, type := 0, pos := "ref.go:130", after := #[], guard := none }, { dst := some 66, op := Op.load 9 (Operand.tmp 65), type := 9, pos := "ref.go:130", after := #[{ on := 6, ground := Ground.data }], guard := none }, { dst := some 67, op := Op.call { callee := Callee.value (Operand.func 27), args := #[Operand.tmp 64, Operand.tmp 66], argTypes := #[28, 9] }, type := 28, pos := "ref.go:130", after := #[{ on := 5, ground := Ground.data }, { on := 7, ground := Ground.data }, { on := 5, ground := Ground.chain }], guard := none }, { dst := some 3, op := Op.assign (Operand.tmp 67), type := 28, pos := "ref.go:130", after := #[{ on := 8, ground := Ground.data }, { on := 8, ground := Ground.chain }, { on := 0, ground := Ground.phase }, { on := 1, ground := Ground.phase }, { on := 2, ground := Ground.phase }, { on := 3, ground := Ground.phase }, { on := 4, ground := Ground.phase }, { on := 5, ground := Ground.phase }, { on := 6, ground := Ground.phase }, { on := 7, ground := Ground.phase }, { on := 8, ground := Ground.phase }], guard := none }] true).wp Tryd.prog Q { tmps := #[x0, x1, x2, .slice va n c, x4, x5, .pointer (some ⟨d6, 0, none⟩), x7, x8, x9, x10, x11, x12, x13, x14, x15, x16, x17, x18, x19, x20, x21, x22, x23, x24, x25, x26, x27, x28, x29, x30, x31, x32, x33, x34, x35, x36, x37, x38, x39, x40, x41, x42, x43, x44, x45, x46, x47, x48, x49, x50, x51, x52, x53, x54, x55, x56, x57, x58, x59, x60, x61, x62, x63, x64, x65, x66, x67, x68, x69, x70, x71, x72, x73, x74, x75, x76, x77, x78, x79, x80, x81, x82, x83, x84, x85, x86, x87, x88, x89, x90, x91, x92, x93, x94, x95, x96, x97, x98, x99, x100], defers := ds } A := by
  refine Code.wp_mono (Q := fun x a' w' => match x with | .normal => Q .normal a' w' | _ => False) (by intro x a' w' h; cases x <;> first | exact h | exact h.elim) ?_
  refine wp_region_held (S := fun V => Fr B A V) (by kernel_rfl) ?_
  have hS0 : Hid (Fr B A A.drew) := Fr.of_below (below_drew0 A) HX.out.1
  change wpAnyH Tryd.prog .any _ _ (fun V => Fr B A V) 10 (Array.replicate 10 false) _ A.drew
  obtain ⟨V0, hV0⟩ : ∃ V0, A.drew = V0 := ⟨_, rfl⟩
  rw [hV0]
  rw [hV0] at hS0
  have hO0 : Hid (Own 5 B V0 (.slice va n c) M) := by rw [← hV0]; exact HO.out
  clear hV0
  refine wpAnyH_take (i := 0) (oi := { dst := some 59, op := Op.move (Operand.tmp 3), type := 28, pos := "ref.go:130", after := #[], guard := none }) (v := .slice va n c) rfl (by kernel_rfl) (by kernel_rfl) (by kernel_rfl) (fun _ _ _ h => h.elim) (Or.inl ⟨by rfl, ?y1⟩) hS0.out ?_
  case y1 =>
    intro V hV
    go_simp
  simp only [Act.put, List.setIfInBounds_toArray, List.set_cons_zero, List.set_cons_succ]
  refine wpAnyH_take (i := 1) (oi := { dst := some 60, op := Op.fieldAddr 45 (Operand.tmp 6) 0, type := 0, pos := "ref.go:130", after := #[], guard := none }) (v := .pointer (some ⟨d6, 0, none⟩)) rfl (by kernel_rfl) (by kernel_rfl) (by kernel_rfl) (fun _ _ _ h => h.elim) (Or.inl ⟨by rfl, ?y2⟩) hS0.out ?_
  case y2 =>
    intro V hV
    go_simp
  simp only [Act.put, List.setIfInBounds_toArray, List.set_cons_zero, List.set_cons_succ]
  refine wpAnyH_take (i := 2) (oi := { dst := some 61, op := Op.load 3 (Operand.tmp 60), type := 3, pos := "ref.go:130", after := #[{ on := 1, ground := Ground.data }], guard := none }) (v := iv 2) rfl (by kernel_rfl) (by kernel_rfl) (by kernel_rfl) (fun _ _ _ h => h.elim) (Or.inl ⟨by rfl, ?y3⟩) hS0.out ?_
  case y3 =>
    intro V hV
    have hc : V.cell? ⟨d6, 0, none⟩ = some (iv 2) := by rw [← HS.out.1]; exact (⟨HB6.out.blk.fr (show Fr B A V from hV) (by decide) (by decide), HB6.out.ok⟩ : OpB V d6 x).kind
    go_simp
  simp only [Act.put, List.setIfInBounds_toArray, List.set_cons_zero, List.set_cons_succ]
  refine wpAnyH_take (i := 3) (oi := { dst := some 62, op := Op.convert 3 5 (Operand.tmp 61), type := 5, pos := "ref.go:130", after := #[{ on := 2, ground := Ground.data }], guard := none }) (v := .int .u8 2) rfl (by kernel_rfl) (by kernel_rfl) (by kernel_rfl) (fun _ _ _ h => h.elim) (Or.inl ⟨by rfl, ?y4⟩) hS0.out ?_
  case y4 =>
    intro V hV
    have hw : IntKind.u8.wrap 2 = 2 := by first | rfl | decide
    go_simp
  simp only [Act.put, List.setIfInBounds_toArray, List.set_cons_zero, List.set_cons_succ]
  refine wpAnyH_take (i := 6) (oi := { dst := some 65, op := Op.fieldAddr 45 (Operand.tmp 6) 1, type := 0, pos := "ref.go:130", after := #[], guard := none }) (v := .pointer (some ⟨d6, 1, none⟩)) rfl (by kernel_rfl) (by kernel_rfl) (by kernel_rfl) (fun _ _ _ h => h.elim) (Or.inl ⟨by rfl, ?y5⟩) hS0.out ?_
  case y5 =>
    intro V hV
    go_simp
  simp only [Act.put, List.setIfInBounds_toArray, List.set_cons_zero, List.set_cons_succ]
  refine wpAnyH_take (i := 7) (oi := { dst := some 66, op := Op.load 9 (Operand.tmp 65), type := 9, pos := "ref.go:130", after := #[{ on := 6, ground := Ground.data }], guard := none }) (v := .string s) rfl (by kernel_rfl) (by kernel_rfl) (by kernel_rfl) (fun _ _ _ h => h.elim) (Or.inl ⟨by rfl, ?y6⟩) hS0.out ?_
  case y6 =>
    intro V hV
    have hc : V.cell? ⟨d6, 1, none⟩ = some (.string s) := by rw [← HS.out.2.2]; exact (⟨HB6.out.blk.fr (show Fr B A V from hV) (by decide) (by decide), HB6.out.ok⟩ : OpB V d6 x).path
    go_simp
  simp only [Act.put, List.setIfInBounds_toArray, List.set_cons_zero, List.set_cons_succ]
  refine wpAnyH_ready (rs := [4]) (by kernel_rfl) (by simp) (AllReadyH.cons (i := 4) (o := { dst := some 63, op := Op.buildSlice 28 1 #[(0, Operand.tmp 62)], type := 28, pos := "ref.go:130", after := #[{ on := 3, ground := Ground.data }], guard := none }) rfl ?_ AllReadyH.nil)
  · intro K1 hK1
    obtain ⟨z1, hz1⟩ : ∃ z, V0.heap.size = z := ⟨_, rfl⟩
    obtain ⟨V1, hv1⟩ : ∃ V, V0.alloc (.cells (U [2]).toArray 5) = V := ⟨_, rfl⟩
    refine step_bs (by rfl) 28 1 _ rfl (.slice (some ⟨z1, 0, none⟩) 1 1) V1 (by rw [← hv1, ← hz1]; simp only [List.map_toArray, List.map_cons, List.map_nil]; exact bs28 2 V0) ?_
    have hI1 : Hid (In V1 (some ⟨z1, 0, none⟩) 1 1 [2]) := by rw [← hv1, ← hz1]; exact in_new V0 5 [2] (by simp)
    have hO1 : Hid (Own 5 B V1 (.slice va n c) M) := by rw [← hv1]; exact hO0.out.below (below_al _ _) (Nat.le_refl _)
    have hS1 : Hid (Fr B A V1) := by rw [← hv1]; exact hS0.out.trans (Fr.of_below (below_al _ _) (Nat.le_trans HX.out.1 hS0.out.size))
    clear hv1 hz1
    refine hK1.out _ _ hS1.out ?_
    clear hK1
    intro _
    try simp only [Act.put, List.setIfInBounds_toArray, List.set_cons_zero, List.set_cons_succ]
    refine wpAnyH_ready (rs := [5]) (by kernel_rfl) (by simp) (AllReadyH.cons (i := 5) (o := { dst := some 64, op := Op.call { callee := Callee.builtin Builtin.append, args := #[Operand.tmp 59, Operand.tmp 63], argTypes := #[28, 28] }, type := 28, pos := "ref.go:130", after := #[{ on := 0, ground := Ground.data }, { on := 4, ground := Ground.data }], guard := none }) rfl ?_ AllReadyH.nil)
    · intro K1 hK1
      refine step_append_in V1 (by rfl) (.tmp 59) (.tmp 63) 28 rfl B 5 i0 Tryd.underlying28 HI5.out.1 HI5.out.2.1 HI5.out.2.2.1 HI5.out.2.2.2 ((.slice va n c)) M M.length rfl rfl hO1.out (some ⟨z1, 0, none⟩) 1 1 [2] rfl hI1.out (by have := HX.out.2; omega) (Nat.le_trans HX.out.1 hS1.out.size) ?_
      intro v5 V2 ho5 hg5
      obtain ⟨va2, n5, c2, rfl, hin5, ho5⟩ := own_row ho5 (by rw [List.length_append, List.length_singleton]; have := HX.out.2; omega)
      have hS2 : Hid (Fr B A V2) := hS1.out.trans (fr_own hO1.out hg5 (Nat.le_trans HX.out.1 hS1.out.size))
      have hO2 : Hid (Own 5 B V2 (.slice va2 n5 c2) (M ++ [2])) := ho5
      have hJ2 : Hid (In V2 va2 n5 c2 (M ++ [2])) := hin5
      clear ho5 hg5 hin5
      refine hK1.out _ _ hS2.out ?_
      clear hK1
      intro _
      try simp only [Act.put, List.setIfInBounds_toArray, List.set_cons_zero, List.set_cons_succ]
      refine wpAnyH_ready (rs := [8]) (by kernel_rfl) (by simp) (AllReadyH.cons (i := 8) (o := { dst := some 67, op := Op.call { callee := Callee.value (Operand.func 27), args := #[Operand.tmp 64, Operand.tmp 66], argTypes := #[28, 9] }, type := 28, pos := "ref.go:130", after := #[{ on := 5, ground := Ground.data }, { on := 7, ground := Ground.data }, { on := 5, ground := Ground.chain }], guard := none }) rfl ?_ AllReadyH.nil)
      · intro K1 hK1
        rw [if_pos (by rfl)]
        have HC3 := put_txt (B := B) hJ2.out (Nat.le_trans HX.out.1 hS2.out.size) s (by rw [List.length_append, List.length_singleton]; have := HX.out.2; have := HS.out.2.1; omega)
        go_wp2_with fail
        refine HC3.mono ?_
        rintro e V3 ⟨va3, n3, c3, rfl, ho3, hi3, hb3⟩
        dsimp only
        clear HC3
        have hS3 : Hid (Fr B A V3) := hS2.out.trans (Fr.of_below hb3 (Nat.le_trans HX.out.1 hS2.out.size))
        have hO3 : Hid (Own 5 B V3 (.slice va3 n3 c3) (M ++ [2] ++ encT s)) := ho3
        clear ho3 hi3 hb3
        refine hK1.out _ _ hS3.out ?_
        clear hK1
        intro _
        try simp only [Act.put, List.setIfInBounds_toArray, List.set_cons_zero, List.set_cons_succ]
        refine wpAnyH_take (i := 9) (oi := { dst := some 3, op := Op.assign (Operand.tmp 67), type := 28, pos := "ref.go:130", after := #[{ on := 8, ground := Ground.data }, { on := 8, ground := Ground.chain }, { on := 0, ground := Ground.phase }, { on := 1, ground := Ground.phase }, { on := 2, ground := Ground.phase }, { on := 3, ground := Ground.phase }, { on := 4, ground := Ground.phase }, { on := 5, ground := Ground.phase }, { on := 6, ground := Ground.phase }, { on := 7, ground := Ground.phase }, { on := 8, ground := Ground.phase }], guard := none }) (v := .slice va3 n3 c3) rfl (by kernel_rfl) (by kernel_rfl) (by kernel_rfl) (fun _ _ _ h => h.elim) (Or.inl ⟨by rfl, ?y7⟩) hS3.out ?_
        case y7 =>
          intro V hV
          go_simp
        simp only [Act.put, List.setIfInBounds_toArray, List.set_cons_zero, List.set_cons_succ]
        refine wpAnyH_done (by kernel_rfl) ?_ _
        exact hQ V3 z1 va2 n5 c2 va3 n3 c3 hO3.out hS3.out
set_option maxRecDepth 100000 in
set_option maxHeartbeats 4000000 in
theorem br17 {Q : Exit → Act → World → Prop} {x0 x2 x4 x5 x7 x8 x9 x10 x11 x12 x13 x14 x15 x16 x17 x18 x19 x20 x21 x22 x23 x24 x25 x26 x27 x28 x29 x30 x31 x32 x33 x34 x35 x36 x37 x38 x39 x40 x41 x42 x43 x44 x45 x46 x47 x48 x49 x50 x51 x52 x53 x54 x55 x56 x57 x58 x59 x60 x61 x62 x63 x64 x65 x66 x67 x68 x69 x70 x71 x72 x73 x74 x75 x76 x77 x78 x79 x80 x81 x82 x83 x84 x85 x86 x87 x88 x89 x90 x91 x92 x93 x94 x95 x96 x97 x98 x99 x100 : Value} {ds : List Deferred} {A : World} {B n c d1 d6 ln lc : Nat} {va la : Option Addr} {M R : List UInt8} {x : OpV} {p : PV} {i0 : TypeInfo}
    (HI5 : Hid (Tryd.prog.info? 5 = some i0 ∧ i0.zero = some (.int .u8 0) ∧ i0.size = 1 ∧ i0.bytes = 1)) (HX : Hid (B ≤ A.heap.size ∧ M.length ≤ 900000)) (HO : Hid (Own 5 B A (.slice va n c) M)) (HB6 : Hid (OpB A d6 x)) (HB1 : Hid (Blk A d1 25 p.cells)) (HL : Hid (x.la = la ∧ x.ln = ln ∧ x.lc = lc)) (HK : Hid (ln ≤ 4611686018427387904 ∧ IntKind.u64.wrap (ln : Int) = (ln : Int) ∧ R.length ≤ 30)) (HC : Hid (∀ V, Fr B A V → Own 5 B V (.slice va n c) M → Calls Tryd.prog 29 #[.slice va n c, .agg p.cells.toArray, .agg x.dn.cells.toArray] V (RvP B (M ++ R) V)))
    (hQ : ∀ V1 va2 n2 c2 va3 n3 c3, Own 5 B V1 (.slice va3 n3 c3) (M ++ R ++ enc ln) → Fr B A V1 → Q .normal { tmps := #[x0, .pointer (some ⟨d1, 0, none⟩), x2, .slice va3 n3 c3, x4, x5, .pointer (some ⟨d6, 0, none⟩), x7, x8, x9, x10, x11, x12, x13, x14, x15, x16, x17, x18, x19, x20, x21, x22, x23, x24, x25, x26, x27, x28, x29, x30, x31, x32, x33, x34, x35, x36, x37, x38, x39, x40, x41, x42, x43, x44, x45, x46, x47, x48, x49, x50, x51, x52, x53, x54, x55, x56, x57, x58, x59, x60, x61, x62, x63, x64, x65, x66, x67, x68, x69, x70, x71, x72, x73, x74, x75, .slice va n c, .agg p.cells.toArray, .pointer (some ⟨d6, 35, none⟩), .agg x.dn.cells.toArray, .slice va2 n2 c2, .pointer (some ⟨d6, 68, none⟩), .slice la ln lc, iv (ln : Int), .int .u64 (ln : Int), .slice va3 n3 c3, x86, x87, x88, x89, x90, x91, x92, x93, x94, x95, x96, x97, x98, x99, x100], defers := ds } V1) :
    (Code.region 17 #[{ dst := some 76, op := Op.move (Operand.tmp 3), type := 28, pos := "ref.go:133", after := #[], guard := none }, { dst := some 77, op := Op.load 25 (Operand.tmp 1), type := 25, pos := "ref.go:133", after := #[], guard := none }, { dst := some 78, op := Op.fieldAddr 45 (Operand.tmp 6) 3, type := 0, pos := "ref.go:133", after := #[], guard := none }, { dst := some 79, op := Op.load 42 (Operand.tmp 78), type := 42, pos := "ref.go:133", after := #[{ on := 2, ground := Ground.data }], guard := none }, { dst := some 80, op := Op.call { callee := Callee.value (Operand.func 29), args := #[Operand.tmp 76, Operand.tmp 77, Operand.tmp 79], argTypes := #[28, 25, 42] }, type := 28, pos := "ref.go:133", after := #[{ on := 0, ground := Ground.data }, { on := 1, ground := Ground.data }, { on := 3, ground := Ground.data }], guard := none }, { dst := some 81, op := Op.fieldAddr 45 (Operand.tmp 6) 4, type := 0, pos := "ref.go:133", after := #[], guard := none }, { dst := some 82, op := Op.load 43 (Operand.tmp 81), type := 43, pos := "ref.go:133", after := #[{ on := 5, ground := Ground.data }], guard := none }, { dst := some 83, op := Op.call { callee := Callee.builtin Builtin.len, args := #[Operand.tmp 82], argTypes := #[43] }, type := 3, pos := "ref.go:133", after := #[{ on := 6, ground := Ground.data }], guard := none }, { dst := some 84, op := Op.convert 3 65 (Operand.tmp 83), type := 65, pos := "ref.go:133", after := #[{ on := 7, ground := Ground.data }], guard := none }, { dst := some 85, op := Op.call { callee := Callee.value (Operand.func 28), args := #[Operand.tmp 80, Operand.tmp 84], argTypes := #[28, 65] }, type := 28, pos := "ref.go:133", after := #[{ on := 4, ground := Ground.data }, { on := 8, ground := Ground.data }, { on := 4, ground := Ground.chain }], guard := none }, { dst := some 3, op := Op.assign (Operand.tmp 85), type := 28, pos := "ref.go:133", after := #[{ on := 9, ground := Ground.data }, { on := 9, ground := Ground.chain }, { on := 0, ground := Ground.phase }, { on := 1, ground := Ground.phase }, { on := 2, ground := Ground.phase }, { on := 3, ground := Ground.phase }, { on := 4, ground := Ground.phase }, { on := 5, ground := Ground.phase }, { on := 6, ground := Ground.phase }, { on := 7, ground := Ground.phase }, { on := 8, ground := Ground.phase }, { on := 9, ground := Ground.phase }], guard := none }] true).wp Tryd.prog Q { tmps := #[x0, .pointer (some ⟨d1, 0, none⟩), x2, .slice va n c, x4, x5, .pointer (some ⟨d6, 0, none⟩), x7, x8, x9, x10, x11, x12, x13, x14, x15, x16, x17, x18, x19, x20, x21, x22, x23, x24, x25, x26, x27, x28, x29, x30, x31, x32, x33, x34, x35, x36, x37, x38, x39, x40, x41, x42, x43, x44, x45, x46, x47, x48, x49, x50, x51, x52, x53, x54, x55, x56, x57, x58, x59, x60, x61, x62, x63, x64, x65, x66, x67, x68, x69, x70, x71, x72, x73, x74, x75, x76, x77, x78, x79, x80, x81, x82, x83, x84, x85, x86, x87, x88, x89, x90, x91, x92, x93, x94, x95, x96, x97, x98, x99, x100], defers := ds } A := by
  refine Code.wp_mono (Q := fun x a' w' => match x with | .normal => Q .normal a' w' | _ => False) (by intro x a' w' h; cases x <;> first | exact h | exact h.elim) ?_
  refine wp_region_held (S := fun V => Fr B A V) (by kernel_rfl) ?_
  have hS0 : Hid (Fr B A A.drew) := Fr.of_below (below_drew0 A) HX.out.1
  change wpAnyH Tryd.prog .any _ _ (fun V => Fr B A V) 11 (Array.replicate 11 false) _ A.drew
  obtain ⟨V0, hV0⟩ : ∃ V0, A.drew = V0 := ⟨_, rfl⟩
  rw [hV0]
  rw [hV0] at hS0
  have hO0 : Hid (Own 5 B V0 (.slice va n c) M) := by rw [← hV0]; exact HO.out
  clear hV0
  refine wpAnyH_take (i := 0) (oi := { dst := some 76, op := Op.move (Operand.tmp 3), type := 28, pos := "ref.go:133", after := #[], guard := none }) (v := .slice va n c) rfl (by kernel_rfl) (by kernel_rfl) (by kernel_rfl) (fun _ _ _ h => h.elim) (Or.inl ⟨by rfl, ?y1⟩) hS0.out ?_
  case y1 =>
    intro V hV
    go_simp
  simp only [Act.put, List.setIfInBounds_toArray, List.set_cons_zero, List.set_cons_succ]
  refine wpAnyH_take (i := 1) (oi := { dst := some 77, op := Op.load 25 (Operand.tmp 1), type := 25, pos := "ref.go:133", after := #[], guard := none }) (v := .agg p.cells.toArray) rfl (by kernel_rfl) (by kernel_rfl) (by kernel_rfl) (fun _ _ _ h => h.elim) (Or.inl ⟨by rfl, ?y2⟩) hS0.out ?_
  case y2 =>
    intro V hV
    have hr : V.rangeAt d1 0 p.cells := (HB1.out.fr (show Fr B A V from hV) (by decide) (by decide)).range0
    exact yl_ld V 25 (.tmp 1) rfl d1 0 rfl p.cells _ hr Tryd.underlying25 rfl (info25 p)
  simp only [Act.put, List.setIfInBounds_toArray, List.set_cons_zero, List.set_cons_succ]
  refine wpAnyH_take (i := 2) (oi := { dst := some 78, op := Op.fieldAddr 45 (Operand.tmp 6) 3, type := 0, pos := "ref.go:133", after := #[], guard := none }) (v := .pointer (some ⟨d6, 35, none⟩)) rfl (by kernel_rfl) (by kernel_rfl) (by kernel_rfl) (fun _ _ _ h => h.elim) (Or.inl ⟨by rfl, ?y3⟩) hS0.out ?_
  case y3 =>
    intro V hV
    go_simp
  simp only [Act.put, List.setIfInBounds_toArray, List.set_cons_zero, List.set_cons_succ]
  refine wpAnyH_take (i := 3) (oi := { dst := some 79, op := Op.load 42 (Operand.tmp 78), type := 42, pos := "ref.go:133", after := #[{ on := 2, ground := Ground.data }], guard := none }) (v := .agg x.dn.cells.toArray) rfl (by kernel_rfl) (by kernel_rfl) (by kernel_rfl) (fun _ _ _ h => h.elim) (Or.inl ⟨by rfl, ?y4⟩) hS0.out ?_
  case y4 =>
    intro V hV
    have hr : V.rangeAt d6 35 x.dn.cells := (⟨HB6.out.blk.fr (show Fr B A V from hV) (by decide) (by decide), HB6.out.ok⟩ : OpB V d6 x).dn
    exact yl_ld V 42 (.tmp 78) rfl d6 35 rfl x.dn.cells _ hr Tryd.underlying42 rfl (info49 HB6.out.ok.2.1)
  simp only [Act.put, List.setIfInBounds_toArray, List.set_cons_zero, List.set_cons_succ]
  refine wpAnyH_take (i := 5) (oi := { dst := some 81, op := Op.fieldAddr 45 (Operand.tmp 6) 4, type := 0, pos := "ref.go:133", after := #[], guard := none }) (v := .pointer (some ⟨d6, 68, none⟩)) rfl (by kernel_rfl) (by kernel_rfl) (by kernel_rfl) (fun _ _ _ h => h.elim) (Or.inl ⟨by rfl, ?y5⟩) hS0.out ?_
  case y5 =>
    intro V hV
    go_simp
  simp only [Act.put, List.setIfInBounds_toArray, List.set_cons_zero, List.set_cons_succ]
  refine wpAnyH_take (i := 6) (oi := { dst := some 82, op := Op.load 43 (Operand.tmp 81), type := 43, pos := "ref.go:133", after := #[{ on := 5, ground := Ground.data }], guard := none }) (v := .slice la ln lc) rfl (by kernel_rfl) (by kernel_rfl) (by kernel_rfl) (fun _ _ _ h => h.elim) (Or.inl ⟨by rfl, ?y6⟩) hS0.out ?_
  case y6 =>
    intro V hV
    have hc : V.cell? ⟨d6, 68, none⟩ = some (.slice la ln lc) := by have h := (⟨HB6.out.blk.fr (show Fr B A V from hV) (by decide) (by decide), HB6.out.ok⟩ : OpB V d6 x).lines; rw [HL.out.1, HL.out.2.1, HL.out.2.2] at h; exact h
    go_simp
  simp only [Act.put, List.setIfInBounds_toArray, List.set_cons_zero, List.set_cons_succ]
  refine wpAnyH_take (i := 7) (oi := { dst := some 83, op := Op.call { callee := Callee.builtin Builtin.len, args := #[Operand.tmp 82], argTypes := #[43] }, type := 3, pos := "ref.go:133", after := #[{ on := 6, ground := Ground.data }], guard := none }) (v := iv (ln : Int)) rfl (by kernel_rfl) (by kernel_rfl) (by kernel_rfl) (fun _ _ _ h => h.elim) (Or.inl ⟨by rfl, ?y7⟩) hS0.out ?_
  case y7 =>
    intro V hV
    go_simp
  simp only [Act.put, List.setIfInBounds_toArray, List.set_cons_zero, List.set_cons_succ]
  refine wpAnyH_take (i := 8) (oi := { dst := some 84, op := Op.convert 3 65 (Operand.tmp 83), type := 65, pos := "ref.go:133", after := #[{ on := 7, ground := Ground.data }], guard := none }) (v := .int .u64 (ln : Int)) rfl (by kernel_rfl) (by kernel_rfl) (by kernel_rfl) (fun _ _ _ h => h.elim) (Or.inl ⟨by rfl, ?y8⟩) hS0.out ?_
  case y8 =>
    intro V hV
    have hw := HK.out.2.1
    go_simp
  simp only [Act.put, List.setIfInBounds_toArray, List.set_cons_zero, List.set_cons_succ]
  refine wpAnyH_ready (rs := [4]) (by kernel_rfl) (by simp) (AllReadyH.cons (i := 4) (o := { dst := some 80, op := Op.call { callee := Callee.value (Operand.func 29), args := #[Operand.tmp 76, Operand.tmp 77, Operand.tmp 79], argTypes := #[28, 25, 42] }, type := 28, pos := "ref.go:133", after := #[{ on := 0, ground := Ground.data }, { on := 1, ground := Ground.data }, { on := 3, ground := Ground.data }], guard := none }) rfl ?_ AllReadyH.nil)
  · intro K1 hK1
    rw [if_pos (by rfl)]
    have HC1 := HC.out V0 hS0.out hO0.out
    go_wp2_with fail
    refine HC1.mono ?_
    rintro e V1 ⟨va2, n2, c2, rfl, ho1, hf1⟩
    dsimp only
    clear HC1
    have hS1 : Hid (Fr B A V1) := hS0.out.trans hf1
    have hJ1 : Hid (In V1 va2 n2 c2 (M ++ R)) := own_inn ho1 (by rw [List.length_append]; have := HX.out.2; have := HK.out.2.2; omega)
    clear ho1 hf1
    refine hK1.out _ _ hS1.out ?_
    clear hK1
    intro _
    try simp only [Act.put, List.setIfInBounds_toArray, List.set_cons_zero, List.set_cons_succ]
    refine wpAnyH_ready (rs := [9]) (by kernel_rfl) (by simp) (AllReadyH.cons (i := 9) (o := { dst := some 85, op := Op.call { callee := Callee.value (Operand.func 28), args := #[Operand.tmp 80, Operand.tmp 84], argTypes := #[28, 65] }, type := 28, pos := "ref.go:133", after := #[{ on := 4, ground := Ground.data }, { on := 8, ground := Ground.data }, { on := 4, ground := Ground.chain }], guard := none }) rfl ?_ AllReadyH.nil)
    · intro K1 hK1
      rw [if_pos (by rfl)]
      have HC2 := put_own (B := B) hJ1.out (Nat.le_trans HX.out.1 hS1.out.size) ln HK.out.1 (by rw [List.length_append]; have := HX.out.2; have := HK.out.2.2; omega)
      go_wp2_with fail
      refine HC2.mono ?_
      rintro e V2 ⟨va3, n3, c3, rfl, ho2, hi2, hb2⟩
      dsimp only
      clear HC2
      have hS2 : Hid (Fr B A V2) := hS1.out.trans (Fr.of_below hb2 (Nat.le_trans HX.out.1 hS1.out.size))
      have hO2 : Hid (Own 5 B V2 (.slice va3 n3 c3) (M ++ R ++ enc ln)) := ho2
      clear ho2 hi2 hb2
      refine hK1.out _ _ hS2.out ?_
      clear hK1
      intro _
      try simp only [Act.put, List.setIfInBounds_toArray, List.set_cons_zero, List.set_cons_succ]
      refine wpAnyH_take (i := 10) (oi := { dst := some 3, op := Op.assign (Operand.tmp 85), type := 28, pos := "ref.go:133", after := #[{ on := 9, ground := Ground.data }, { on := 9, ground := Ground.chain }, { on := 0, ground := Ground.phase }, { on := 1, ground := Ground.phase }, { on := 2, ground := Ground.phase }, { on := 3, ground := Ground.phase }, { on := 4, ground := Ground.phase }, { on := 5, ground := Ground.phase }, { on := 6, ground := Ground.phase }, { on := 7, ground := Ground.phase }, { on := 8, ground := Ground.phase }, { on := 9, ground := Ground.phase }], guard := none }) (v := .slice va3 n3 c3) rfl (by kernel_rfl) (by kernel_rfl) (by kernel_rfl) (fun _ _ _ h => h.elim) (Or.inl ⟨by rfl, ?y9⟩) hS2.out ?_
      case y9 =>
        intro V hV
        go_simp
      simp only [Act.put, List.setIfInBounds_toArray, List.set_cons_zero, List.set_cons_succ]
      refine wpAnyH_done (by kernel_rfl) ?_ _
      exact hQ V2 va2 n2 c2 va3 n3 c3 hO2.out hS2.out
end Go.Proofs.YtgdecjacbkicmaaDoor.Oct

/- Layer 10 (patch): the reference's Bytes. -/
namespace Go.Proofs.YtgdecjacbkicmaaDoor.Oct
open Go.RowKit
set_option maxRecDepth 100000
set_option linter.unusedSimpArgs false
set_option linter.unusedVariables false

set_option maxHeartbeats 8000000 in
theorem bytes_is (w : World) (p : PV) (hp0 : PR w p) (hc : chk p = 0) (R : List UInt8) (hR : ptB p = R) :
    Calls Tryd.prog 14 #[.agg p.cells.toArray] w fun e w' => ∃ a n c, e = .returned (.slice a n c) ∧ In w' a n c R ∧ Below w.heap.size w w' := by
  obtain ⟨hh, hdd, hoo⟩ := chk_of hc
  obtain ⟨s1, s2, s3, s4, _⟩ := head_of hh
  obtain ⟨s5, _⟩ := deps_of hdd
  obtain ⟨s6, s7, s8, s9⟩ := ops_of hoo
  obtain ⟨B, hBw⟩ : ∃ B, w.heap.size = B := ⟨_, rfl⟩
  have hp : ∀ V, Below B w V → PR V p := fun V hV => hp0.below (by rw [hBw]; exact hV)
  have HBw : Hid (w.heap.size = B) := hBw
  have hBB : B ≤ w.heap.size := by omega
  obtain ⟨tm, htm⟩ : ∃ t : Nat, p.tm = (t : Int) := ⟨p.tm.toNat, by omega⟩
  obtain ⟨E1, hE1⟩ : ∃ E, encT p.au = E := ⟨_, rfl⟩
  obtain ⟨E2, hE2⟩ : ∃ E, enc tm = E := ⟨_, rfl⟩
  obtain ⟨E3, hE3⟩ : ∃ E, encT p.nt = E := ⟨_, rfl⟩
  obtain ⟨E4, hE4⟩ : ∃ E, enc p.dn = E := ⟨_, rfl⟩
  obtain ⟨E5, hE5⟩ : ∃ E, enc p.on = E := ⟨_, rfl⟩
  have HP : Hid ((∀ V, Below B w V → PR V p) ∧ p.dn ≤ 16 ∧ p.on ≤ 16 ∧ (∀ o ∈ p.O, opB p.D o = true ∧ o.ln ≤ 64) ∧ p.au.size ≤ 16 ∧ tm ≤ 1099511627776 ∧ p.nt.size ≤ 200 ∧ B ≤ w.heap.size) := ⟨hp, by rw [← hp0.deps.1]; exact s5, by rw [← hp0.ops.1]; exact s7, fun o ho => ⟨s9 o ho, by have := many_mem ho; omega⟩, s1, by omega, s4, hBB⟩
  have HE : Hid (encT p.au = E1 ∧ enc tm = E2 ∧ encT p.nt = E3 ∧ enc p.dn = E4 ∧ enc p.on = E5) := ⟨hE1, hE2, hE3, hE4, hE5⟩
  have HL : Hid (E1.length ≤ 30 ∧ E2.length ≤ 10 ∧ E3.length ≤ 210 ∧ E4.length ≤ 10 ∧ E5.length ≤ 10) := ⟨by rw [← hE1]; have := encT_len p.au (by omega); omega, by rw [← hE2]; exact enc_ten _ (by omega), by rw [← hE3]; have := encT_len p.nt (by omega); omega, by rw [← hE4]; exact enc_ten _ (by have := hp0.zd; omega), by rw [← hE5]; exact enc_ten _ (by have := hp0.zo; omega)⟩
  have HR : Hid (80 :: (E1 ++ (E2 ++ (E3 ++ (E4 ++ (p.D.flatMap id ++ (E5 ++ p.O.flatMap (encO p.D))))))) = R) := by
    show _ = R
    rw [← hR]
    unfold ptB
    rw [htm, Int.toNat_natCast, hE1, hE2, hE3, hE4, hE5]
  have HDl : Hid (p.D.length ≤ 100000) := by show _ ≤ _; omega
  have qdn : (p.dn : Int) ≤ 16 := by have := HP.out.2.1; omega
  have qon : (p.on : Int) ≤ 16 := by have := HP.out.2.2.1; omega
  have wt : IntKind.u64.wrap (tm : Int) = (tm : Int) := by rw [IntKind.wrap_u64]; omega
  have wd : IntKind.u64.wrap (p.dn : Int) = (p.dn : Int) := by rw [IntKind.wrap_u64]; omega
  have wo : IntKind.u64.wrap (p.on : Int) = (p.on : Int) := by rw [IntKind.wrap_u64]; omega
  obtain ⟨d1, hd⟩ : ∃ d, w.heap.size = d := ⟨_, rfl⟩
  obtain ⟨W, hW⟩ : ∃ W, w.alloc (.cells p.cells.toArray 25) = W := ⟨_, rfl⟩
  obtain ⟨r8, hr8⟩ : ∃ d, W.heap.size = d := ⟨_, rfl⟩
  obtain ⟨W8, hW8⟩ : ∃ V, W.alloc (.cells #[.int .u8 80] 5) = V := ⟨_, rfl⟩
  have hbw : Below w.heap.size w W := by rw [← hW]; exact below_al _ _
  have hb8 : Below W.heap.size W W8 := by rw [← hW8]; exact below_al _ _
  have hk : Blk W d1 25 p.cells := by rw [← hW, ← hd]; exact Blk.new w _ _
  have hi8 : In W8 (some ⟨r8, 0, none⟩) 1 1 [80] := by rw [← hW8, ← hr8]; exact in_new W 5 [80] (by simp)
  have H0 : Hid (Fr B w W8 ∧ Blk W8 d1 25 p.cells ∧ In W8 (some ⟨r8, 0, none⟩) 1 1 [80]) := ⟨Fr.of_below (below_tr hbw hb8) hBB, hk.below hb8 hk.lt, hi8⟩
  have c0 : W8.cell? ⟨d1, 0, none⟩ = some (.string p.au) := H0.out.2.1.cell rfl
  obtain ⟨Z5, hZ5, HZ5⟩ := zero51
  have HZL : Hid (Z5.length = 69) := by show _ = _; rw [HZ5.out]; exact OpV.len o00_ok
  obtain ⟨i0, hi⟩ := i5
  have HI5 : Hid (Tryd.prog.info? 5 = some i0 ∧ i0.zero = some (.int .u8 0) ∧ i0.size = 1 ∧ i0.bytes = 1) := hi
  clear hE1 hE2 hE3 hE4 hE5 hh hdd hoo s1 s2 s3 s4 s5 s6 s7 s8 s9 hp hp0 hc hR hbw hb8 hk hi8 HZ5 hi hBB hBw
  go_enter Tryd.func14, Tryd.ntmps14
  go_wp2_with fail
  refine (put_txt (B := B) H0.out.2.2 (Nat.le_trans HP.out.2.2.2.2.2.2.2 H0.out.1.size) p.au (by have := HP.out.2.2.2.2.1; simp; omega)).mono ?_
  rintro e W1 ⟨a1, n1, x1, rfl, -, hin1, hb1⟩
  rw [HE.out.1] at hin1
  have H1 : Hid (Fr B w W1 ∧ Blk W1 d1 25 p.cells ∧ In W1 a1 n1 x1 ([80] ++ E1)) := ⟨H0.out.1.trans (Fr.of_below hb1 (Nat.le_trans HP.out.2.2.2.2.2.2.2 H0.out.1.size)), H0.out.2.1.below hb1 H0.out.2.1.lt, hin1⟩
  have c1 : W1.cell? ⟨d1, 1, none⟩ = some (iv (tm : Int)) := by rw [← htm]; exact H1.out.2.1.cell rfl
  clear hin1 hb1 c0 hW hd hW8 hr8 H0
  go_wp2_with fail
  refine (put_own (B := B) H1.out.2.2 (Nat.le_trans HP.out.2.2.2.2.2.2.2 H1.out.1.size) tm (by have := HP.out.2.2.2.2.2.1; omega) (by simp only [List.length_append]; have := HL.out; simp; omega)).mono ?_
  rintro e W2 ⟨a2, n2, x2, rfl, -, hin2, hb2⟩
  rw [HE.out.2.1] at hin2
  have H2 : Hid (Fr B w W2 ∧ Blk W2 d1 25 p.cells ∧ In W2 a2 n2 x2 ([80] ++ E1 ++ E2)) := ⟨H1.out.1.trans (Fr.of_below hb2 (Nat.le_trans HP.out.2.2.2.2.2.2.2 H1.out.1.size)), H1.out.2.1.below hb2 H1.out.2.1.lt, hin2⟩
  have c2 : W2.cell? ⟨d1, 2, none⟩ = some (.string p.nt) := H2.out.2.1.cell rfl
  clear hin2 hb2 c1 H1 wt
  go_wp2_with fail
  refine (put_txt (B := B) H2.out.2.2 (Nat.le_trans HP.out.2.2.2.2.2.2.2 H2.out.1.size) p.nt (by simp only [List.length_append]; have := HP.out.2.2.2.2.2.2.1; have := HL.out; simp; omega)).mono ?_
  rintro e W3 ⟨a3, n3, x3, rfl, -, hin3, hb3⟩
  rw [HE.out.2.2.1] at hin3
  have H3 : Hid (Fr B w W3 ∧ Blk W3 d1 25 p.cells ∧ In W3 a3 n3 x3 ([80] ++ E1 ++ E2 ++ E3)) := ⟨H2.out.1.trans (Fr.of_below hb3 (Nat.le_trans HP.out.2.2.2.2.2.2.2 H2.out.1.size)), H2.out.2.1.below hb3 H2.out.2.1.lt, hin3⟩
  have c3 : W3.cell? ⟨d1, 3, none⟩ = some (.slice p.da p.dn p.dc) := H3.out.2.1.cell rfl
  clear hin3 hb3 c2 H2
  go_wp2_with fail
  refine (put_own (B := B) H3.out.2.2 (Nat.le_trans HP.out.2.2.2.2.2.2.2 H3.out.1.size) p.dn (by have := HP.out.2.1; omega) (by simp only [List.length_append]; have := HL.out; simp; omega)).mono ?_
  rintro e W4 ⟨a4, n4, x4, rfl, ho4, -, hb4⟩
  rw [HE.out.2.2.2.1] at ho4
  obtain ⟨M5, hM5⟩ : ∃ M, [80] ++ E1 ++ E2 ++ E3 ++ E4 = M := ⟨_, rfl⟩
  rw [hM5] at ho4
  have H4 : Hid (Fr B w W4 ∧ Blk W4 d1 25 p.cells ∧ Own 5 B W4 (.slice a4 n4 x4) M5) := ⟨H3.out.1.trans (Fr.of_below hb4 (Nat.le_trans HP.out.2.2.2.2.2.2.2 H3.out.1.size)), H3.out.2.1.below hb4 H3.out.2.1.lt, ho4⟩
  have HM5 : Hid ([80] ++ E1 ++ E2 ++ E3 ++ E4 = M5 ∧ M5.length ≤ 300) := ⟨hM5, by rw [← hM5]; simp only [List.length_append]; have := HL.out; simp; omega⟩
  clear ho4 hb4 c3 H3 hM5 wd
  go_wp2_with fail
  go_loopw [3, 4] (fun b u wr => ∃ (i : Nat) (va : Option Addr) (n c : Nat), b = .slice va n c ∧ u = iv (i : Int) ∧ (i : Int) ≤ (p.dn : Int) ∧ Hid (Own 5 B wr (.slice va n c) (M5 ++ (p.D.take i).flatMap id) ∧ Fr B w wr ∧ Blk wr d1 25 p.cells)) (fun _ u _ => p.dn - (intOf u).toNat)
  case atStart => exact ⟨0, a4, n4, x4, rfl, rfl, by omega, by simpa using H4.out.2.2, H4.out.1, H4.out.2.1⟩
  case round =>
    obtain ⟨V, hV⟩ : ∃ V, V = wr := ⟨_, rfl⟩
    subst hV
    obtain ⟨i, va, n, c, rfl, rfl, qi, HI⟩ := hrel
    clear H4
    by_cases hi : i < p.dn
    · have hds := (HP.out.1 V HI.out.2.1.below).deps
      obtain ⟨x, hx⟩ : ∃ x, p.D[i]? = some x := ⟨_, List.getElem?_eq_getElem (by rw [hds.1]; exact hi)⟩
      obtain ⟨gg, off, hda, hg, hel⟩ := hds.2.2 (by omega)
      have hxl := hds.2.1 x (List.mem_of_getElem? hx)
      have hfl := flat_take id p.D i x hx
      have hfb := flat_len id 32 (p.D.take i) (fun t ht => by have := hds.2.1 t (List.mem_of_mem_take ht); simp only [id]; omega)
      have htl : (p.D.take i).length ≤ 16 := by rw [List.length_take]; have := HP.out.2.1; omega
      have HX : Hid (i < p.dn ∧ x.length = 32 ∧ (p.D.take (i + 1)).flatMap id = (p.D.take i).flatMap id ++ x ∧ ((p.D.take i).flatMap id).length ≤ 512 ∧ In V (some ⟨gg, off + i * 32, none⟩) 32 32 x) := ⟨hi, hxl, hfl, by have : 32 * (p.D.take i).length ≤ 32 * 16 := Nat.mul_le_mul_left _ htl; omega, in_at (hel i x hx) hg hxl⟩
      have q1 : (i : Int) < (p.dn : Int) := by omega
      have c3 : V.cell? ⟨d1, 3, none⟩ = some (.slice (some ⟨gg, off, none⟩) p.dn p.dc) := by rw [← hda]; exact HI.out.2.2.cell rfl
      clear hds hg hel hx hxl hfl hfb htl hi qi hda
      go_wp2_with (with_reducible change wpList _ _ _ ({ dst := some 40, op := _, type := _, pos := _, after := _, guard := _ } :: _) _ _; refine Hid.out ?_)
      show wpList _ _ _ _ _ _
      refine wpList_append_in V rfl (.tmp 34) (.tmp 39) 28 rfl B 5 i0 Tryd.underlying28 HI5.out.1 HI5.out.2.1 HI5.out.2.2.1 HI5.out.2.2.2 (.slice va n c) (M5 ++ (p.D.take i).flatMap id) (M5 ++ (p.D.take i).flatMap id).length rfl rfl HI.out.1 (some ⟨gg, off + i * 32, none⟩) 32 32 x rfl HX.out.2.2.2.2 (by rw [List.length_append]; have := HM5.out.2; have := HX.out.2.2.2.1; omega) (Nat.le_trans HP.out.2.2.2.2.2.2.2 HI.out.2.1.size) ?_
      intro v5 V2 ho5 hg5
      obtain ⟨va2, n2, c2, rfl, -⟩ := sl_of5 ho5
      have hf5 : Fr B V V2 := fr_own HI.out.1 hg5 (Nat.le_trans HP.out.2.2.2.2.2.2.2 HI.out.2.1.size)
      have H7 : Hid (Own 5 B V2 (.slice va2 n2 c2) (M5 ++ (p.D.take (i + 1)).flatMap id) ∧ Fr B w V2 ∧ Blk V2 d1 25 p.cells ∧ i < p.dn) := ⟨by rw [HX.out.2.2.1, ← List.append_assoc]; exact ho5, HI.out.2.1.trans hf5, HI.out.2.2.fr hf5 (by decide) (by decide), HX.out.1⟩
      clear ho5 hg5 hf5 c3
      go_wp2
      go_roundw
      case rel => exact ⟨i + 1, va2, n2, c2, rfl, by simp, by have := H7.out.2.2.2; omega, H7.out.1, H7.out.2.1, H7.out.2.2.1⟩
      case measure => have := H7.out.2.2.2; simp only [intOf]; omega
    · have q1 : (p.dn : Int) ≤ (i : Int) := by omega
      have c3 : V.cell? ⟨d1, 3, none⟩ = some (.slice p.da p.dn p.dc) := HI.out.2.2.cell rfl
      have c4 : V.cell? ⟨d1, 4, none⟩ = some (.slice p.oa p.on p.oc) := HI.out.2.2.cell rfl
      have hDl := (HP.out.1 w (Below.refl _ _)).deps.1
      have hw8 := HI.out.1
      rw [List.take_of_length_le (by omega)] at hw8
      have hfb := flat_len id 32 p.D (fun t ht => by have := (HP.out.1 w (Below.refl _ _)).deps.2.1 t ht; simp only [id]; omega)
      obtain ⟨M6, hM6⟩ : ∃ M, M5 ++ p.D.flatMap id = M := ⟨_, rfl⟩
      rw [hM6] at hw8
      have HM6 : Hid (M5 ++ p.D.flatMap id = M6 ∧ M6.length ≤ 900) := ⟨hM6, by rw [← hM6, List.length_append]; have := HM5.out.2; have := HP.out.2.1; omega⟩
      have H8 : Hid (In V va n c M6 ∧ Fr B w V ∧ Blk V d1 25 p.cells) := ⟨own_inn hw8 (by have := HM6.out.2; omega), HI.out.2⟩
      clear hDl hw8 hfb hM6 HI hi
      go_wp2_with fail
      refine (put_own (B := B) H8.out.1 (Nat.le_trans HP.out.2.2.2.2.2.2.2 H8.out.2.1.size) p.on (by have := HP.out.2.2.1; omega) (by have := HM6.out.2; omega)).mono ?_
      rintro e W9 ⟨a9, n9, x9, rfl, ho9, -, hb9⟩
      rw [HE.out.2.2.2.2] at ho9
      obtain ⟨M7, hM7⟩ : ∃ M, M6 ++ E5 = M := ⟨_, rfl⟩
      rw [hM7] at ho9
      have H9 : Hid (Fr B w W9 ∧ Blk W9 d1 25 p.cells ∧ Own 5 B W9 (.slice a9 n9 x9) M7) := ⟨H8.out.2.1.trans (Fr.of_below hb9 (Nat.le_trans HP.out.2.2.2.2.2.2.2 H8.out.2.1.size)), H8.out.2.2.below hb9 H8.out.2.2.lt, ho9⟩
      have HM7 : Hid (M6 ++ E5 = M7 ∧ M7.length ≤ 1000) := ⟨hM7, by rw [← hM7, List.length_append]; have := HM6.out.2; have := HL.out; omega⟩
      clear ho9 hb9 c4 c3 H8 hM7 wo
      go_wp2_with fail
      go_loopw [3, 5] (fun b u wr => ∃ (i : Nat) (va : Option Addr) (n c : Nat), b = .slice va n c ∧ u = iv (i : Int) ∧ (i : Int) ≤ (p.on : Int) ∧ Hid (Own 5 B wr (.slice va n c) (M7 ++ (p.O.take i).flatMap (encO p.D)) ∧ Fr B w wr ∧ Blk wr d1 25 p.cells)) (fun _ u _ => p.on - (intOf u).toNat)
      case atStart => exact ⟨0, a9, n9, x9, rfl, rfl, by omega, by simpa using H9.out.2.2, H9.out.1, H9.out.2.1⟩
      case round =>
        obtain ⟨V3, hV3⟩ : ∃ V, V = wr := ⟨_, rfl⟩
        subst hV3
        obtain ⟨j, vb, nb, cb, rfl, rfl, qj, HI⟩ := hrel
        clear H9
        by_cases hj : j < p.on
        · have hos := (HP.out.1 V3 HI.out.2.1.below).ops
          obtain ⟨x, hx⟩ : ∃ x, p.O[j]? = some x := ⟨_, List.getElem?_eq_getElem (by rw [hos.1]; exact hj)⟩
          obtain ⟨gg, off, hoa, hg, hel⟩ := hos.2.2 (by omega)
          have hxo := hos.2.1 x (List.mem_of_getElem? hx)
          have hxb := HP.out.2.2.2.1 x (List.mem_of_getElem? hx)
          have hfl := flat_take (encO p.D) p.O j x hx
          have hfb := flat_len (encO p.D) 14000 (p.O.take j) (fun t ht => by
            have hm := List.mem_of_mem_take ht
            have h1 := HP.out.2.2.2.1 t hm
            exact encO_len p.D t HDl.out h1.1 (hos.2.1 t hm).1.2.2.1 h1.2)
          have htl : (p.O.take j).length ≤ 16 := by rw [List.length_take]; have := HP.out.2.2.1; omega
          have HX : Hid (j < p.on ∧ x.ok ∧ (p.O.take (j + 1)).flatMap (encO p.D) = (p.O.take j).flatMap (encO p.D) ++ encO p.D x ∧ ((p.O.take j).flatMap (encO p.D)).length ≤ 224000 ∧ V3.rangeAt gg (off + j * 69) x.cells ∧ opB p.D x = true ∧ x.ln ≤ 64 ∧ x ∈ p.O) := ⟨hj, hxo.1, hfl, by have : 14000 * (p.O.take j).length ≤ 14000 * 16 := Nat.mul_le_mul_left _ htl; omega, hel j x hx, hxb.1, hxb.2, List.mem_of_getElem? hx⟩
          have q2 : (j : Int) < (p.on : Int) := by omega
          have c4 : V3.cell? ⟨d1, 4, none⟩ = some (.slice (some ⟨gg, off, none⟩) p.on p.oc) := by rw [← hoa]; exact HI.out.2.2.cell rfl
          obtain ⟨d7, hd7⟩ : ∃ d, V3.heap.size = d := ⟨_, rfl⟩
          have HD7 : Hid (V3.heap.size = d7) := hd7
          obtain ⟨Mj, hMj⟩ : ∃ M, M7 ++ (p.O.take j).flatMap (encO p.D) = M := ⟨_, rfl⟩
          have hoj := HI.out.1
          rw [hMj] at hoj
          have HMj : Hid (M7 ++ (p.O.take j).flatMap (encO p.D) = Mj ∧ Mj.length ≤ 225000 ∧ Own 5 B V3 (.slice vb nb cb) Mj) := ⟨hMj, by rw [← hMj, List.length_append]; have := HM7.out.2; have := HX.out.2.2.2.1; omega, hoj⟩
          clear hos hg hel hx hxo hxb hfl hfb htl hj qj hoa hMj hoj
          go_wp2_with (with_reducible change wpList _ _ _ ({ dst := some 58, op := _, type := _, pos := _, after := _, guard := _ } :: _) _ _; refine Hid.out ?_)
          show wpList _ _ _ _ _ _
          refine wpList_load_mid rfl 45 (.tmp 57) rfl gg (off + j * 69) rfl x.cells _ HX.out.2.2.2.2.1 Tryd.underlying45 rfl (info51 HX.out.2.1) ?_
          go_wp2_with (with_reducible change wpList _ _ _ ({ dst := none, op := Op.store 45 _ _, type := _, pos := _, after := _, guard := _ } :: _) _ _; refine Hid.out ?_)
          show wpList _ _ _ _ _ _
          refine wpList_store_blk rfl 45 (.tmp 6) (.tmp 58) rfl d7 0 45 Z5 x.cells rfl rfl (by rw [← HD7.out]; exact Blk.new V3 _ _) (by rw [HZL.out, OpV.len HX.out.2.1]; omega) (info51 HX.out.2.1) x.one ?_
          intro V4 hx4 hg4
          have hbV : Below V3.heap.size V3 V4 := below_gr (below_al V3 _) hg4.out (by rw [HD7.out]; exact Nat.le_refl _)
          have H6 : Hid (Fr B w V4 ∧ Blk V4 d1 25 p.cells) := ⟨HI.out.2.1.trans (Fr.of_below hbV (Nat.le_trans HP.out.2.2.2.2.2.2.2 HI.out.2.1.size)), HI.out.2.2.below hbV HI.out.2.2.lt⟩
          have HB6 : Hid (OpB V4 d7 x) := ⟨blk_all hx4.out (by rw [HZL.out, OpV.len HX.out.2.1]), HX.out.2.1⟩
          have HX6 : Hid (B ≤ V4.heap.size ∧ Mj.length ≤ 900000) := ⟨Nat.le_trans HP.out.2.2.2.2.2.2.2 H6.out.1.size, by have := HMj.out.2.1; omega⟩
          have HO6 : Hid (Own 5 B V4 (.slice vb nb cb) Mj) := HMj.out.2.2.below hbV (Nat.le_refl _)
          obtain ⟨hpa, hof⟩ := op_of HX.out.2.2.2.2.2.1
          clear hx4 hg4 hbV hd7 c4
          rcases hof with ⟨hk1, _, hbad, hU, hdn⟩ | ⟨hk1, hl0, hdt, hul⟩
          · have HB : Hid (∀ t ∈ x.ts, t.size ≤ 200) := fun t ht => (not_bad (hbad t ht)).1
            clear hbad
            obtain ⟨sp, hsp⟩ : ∃ s, x.path = s := ⟨_, rfl⟩
            have HS : Hid (x.kind = 1 ∧ sp.size ≤ 100 ∧ x.path = sp) := ⟨hk1, by rw [← hsp]; have := path_len hpa; omega, hsp⟩
            clear hsp
            go_wp2_with fail
            refine br14a HI5 HX6 HO6 HB6 HS ?_
            intro V5 z va2 n5 c2 va3 n3 c3 ho5 hf5
            have H5 : Hid (Fr B w V5 ∧ OpB V5 d7 x ∧ Blk V5 d1 25 p.cells ∧ Own 5 B V5 (.slice va3 n3 c3) (Mj ++ [1] ++ encT sp)) := ⟨H6.out.1.trans hf5, ⟨HB6.out.blk.fr hf5 (by decide) (by decide), HB6.out.ok⟩, H6.out.2.fr hf5 (by decide) (by decide), ho5⟩
            have hxp := encT_len sp (by have := HS.out.2.1; omega)
            have HXP : Hid ((encT sp).length ≤ 110) := by show _ ≤ _; have := HS.out.2.1; omega
            clear ho5 hf5 hxp HO6 HB6 H6
            go_wp2_with (with_reducible change wpList _ _ _ ({ dst := some 69, op := _, type := _, pos := _, after := _, guard := _ } :: _) _ _; refine Hid.out ?_)
            show wpList _ _ _ _ _ _
            refine wpList_load_mid rfl 25 (.tmp 1) rfl d1 0 rfl p.cells _ H5.out.2.2.1.range0 Tryd.underlying25 rfl (info25 p) ?_
            go_wp2_with (with_reducible change wpList _ _ _ ({ dst := some 71, op := _, type := _, pos := _, after := _, guard := _ } :: _) _ _; refine Hid.out ?_)
            show wpList _ _ _ _ _ _
            refine wpList_load_mid rfl 42 (.tmp 70) rfl d7 2 rfl x.up.cells _ H5.out.2.1.up Tryd.underlying42 rfl (info49 HX.out.2.1.1) ?_
            go_wp2_with fail
            refine (rvx_is H5.out.2.2.2 (Nat.le_trans HP.out.2.2.2.2.2.2.2 H5.out.1.size) p (fun V hV => HP.out.1 V (H5.out.1.below.trans hV)) (by have := HP.out.2.1; omega) x.up HX.out.2.1.1 hU (by simp only [List.length_append]; have := HX6.out.2; have := HXP.out; have := HMj.out; simp; omega) _ rfl).mono ?_
            rintro e V6 ⟨va6, n6, c6, rfl, ho6, hf6⟩
            have H7 : Hid (Fr B w V6 ∧ OpB V6 d7 x ∧ Blk V6 d1 25 p.cells ∧ Own 5 B V6 (.slice va6 n6 c6) (Mj ++ [1] ++ encT sp ++ encV p.D x.up)) := ⟨H5.out.1.trans hf6, ⟨H5.out.2.1.blk.fr hf6 (by decide) (by decide), H5.out.2.1.ok⟩, H5.out.2.2.1.fr hf6 (by decide) (by decide), ho6⟩
            have HVL : Hid ((encV p.D x.up).length ≤ 21) := encV_len p.D x.up HDl.out hU
            have k0 : V6.cell? ⟨d7, 0, none⟩ = some (iv 1) := by rw [← hk1]; exact H7.out.2.1.kind
            clear ho6 hf6 H5
            obtain ⟨ln, hlnn⟩ : ∃ n, x.ln = n := ⟨_, rfl⟩
            obtain ⟨la, hla⟩ : ∃ n, x.la = n := ⟨_, rfl⟩
            obtain ⟨lc, hlc⟩ : ∃ n, x.lc = n := ⟨_, rfl⟩
            have HLN : Hid (x.la = la ∧ x.ln = ln ∧ x.lc = lc) := ⟨hla, hlnn, hlc⟩
            have HLT : Hid (ln ≤ 64 ∧ x.ts.length = ln) := ⟨by rw [← hlnn]; exact HX.out.2.2.2.2.2.2.1, by rw [← hlnn]; exact HX.out.2.1.2.2.1⟩
            have HRL : Hid ((encV p.D x.dn).length ≤ 21) := encV_len p.D x.dn HDl.out hdn
            have HK7 : Hid (ln ≤ 4611686018427387904 ∧ IntKind.u64.wrap (ln : Int) = (ln : Int) ∧ (encV p.D x.dn).length ≤ 30) := ⟨by have := HLT.out.1; omega, by rw [IntKind.wrap_u64]; have := HLT.out.1; omega, by have := HRL.out; omega⟩
            obtain ⟨Mk, hMk⟩ : ∃ M, Mj ++ [1] ++ encT sp ++ encV p.D x.up = M := ⟨_, rfl⟩
            have hok := H7.out.2.2.2
            rw [hMk] at hok
            have HMk : Hid (Mj ++ [1] ++ encT sp ++ encV p.D x.up = Mk ∧ Mk.length ≤ 226000) := ⟨hMk, by rw [← hMk]; simp only [List.length_append]; have := HMj.out.2.1; have := HXP.out; have := HVL.out; simp; omega⟩
            have HO7 : Hid (Own 5 B V6 (.slice va6 n6 c6) Mk) := hok
            have HX7 : Hid (B ≤ V6.heap.size ∧ Mk.length ≤ 900000) := ⟨Nat.le_trans HP.out.2.2.2.2.2.2.2 H7.out.1.size, by have := HMk.out.2; omega⟩
            have HB7 : Hid (OpB V6 d7 x) := H7.out.2.1
            have HB1 : Hid (Blk V6 d1 25 p.cells) := H7.out.2.2.1
            have HDN : Hid (eqVx x.dn vTop = true ∨ eqVx x.dn vBot = true ∨ lineOf p.D x.dn = true) := hdn
            have HC : Hid (∀ V, Fr B V6 V → Own 5 B V (.slice va6 n6 c6) Mk → Calls Tryd.prog 29 #[.slice va6 n6 c6, .agg p.cells.toArray, .agg x.dn.cells.toArray] V (RvP B (Mk ++ encV p.D x.dn) V)) := fun V hV ho => rvx_is ho (Nat.le_trans HX7.out.1 hV.size) p (fun V' hV' => HP.out.1 V' ((H7.out.1.below.trans hV.below).trans hV')) (by have := HP.out.2.1; omega) x.dn HX.out.2.1.2.1 HDN.out HX7.out.2 _ rfl
            clear hlnn hla hlc hMk hok hdn hU hpa
            go_wp2_with fail
            refine br17 HI5 HX7 HO7 HB7 HB1 HLN HK7 HC ?_
            intro V7 va7 n7 c7 va8 n8 c8 ho8 hf8
            obtain ⟨M8, hM8⟩ : ∃ M, Mk ++ encV p.D x.dn ++ enc ln = M := ⟨_, rfl⟩
            rw [hM8] at ho8
            have HM8 : Hid (Mk ++ encV p.D x.dn ++ enc ln = M8 ∧ M8.length ≤ 227000) := ⟨hM8, by rw [← hM8]; simp only [List.length_append]; have := HMk.out.2; have := HRL.out; have := enc_ten ln (by have := HLT.out.1; omega); omega⟩
            have H8 : Hid (Fr B w V7 ∧ OpB V7 d7 x ∧ Blk V7 d1 25 p.cells ∧ Own 5 B V7 (.slice va8 n8 c8) M8) := ⟨H7.out.1.trans hf8, ⟨HB7.out.blk.fr hf8 (by decide) (by decide), HB7.out.ok⟩, HB1.out.fr hf8 (by decide) (by decide), ho8⟩
            have qln : (ln : Int) ≤ 64 := by have := HLT.out.1; omega
            clear ho8 hf8 hM8 k0 H7 HO7 HB7 HB1 HC HX7
            go_wp2_with fail
            go_loopw [3, 7] (fun b u wr => ∃ (i : Nat) (va : Option Addr) (n c : Nat), b = .slice va n c ∧ u = iv (i : Int) ∧ (i : Int) ≤ (ln : Int) ∧ Hid (Own 5 B wr (.slice va n c) (M8 ++ (x.ts.take i).flatMap encT) ∧ Fr B w wr ∧ Blk wr d1 25 p.cells ∧ OpB wr d7 x)) (fun _ u _ => ln - (intOf u).toNat)
            case atStart => exact ⟨0, va8, n8, c8, rfl, rfl, by omega, by simpa using H8.out.2.2.2, H8.out.1, H8.out.2.2.1, H8.out.2.1⟩
            case round =>
              obtain ⟨V9, hV9⟩ : ∃ V, V = wr := ⟨_, rfl⟩
              subst hV9
              obtain ⟨k, vk, nk, ck, rfl, rfl, qk, HIK⟩ := hrel
              clear H8
              by_cases hk9 : k < ln
              · obtain ⟨s, hs⟩ : ∃ s, x.ts[k]? = some s := ⟨_, List.getElem?_eq_getElem (by rw [HLT.out.2]; exact hk9)⟩
                have hst := ((HP.out.1 V9 HIK.out.2.1.below).ops.2.1 x HX.out.2.2.2.2.2.2.2).2
                rw [HLN.out.1, HLN.out.2.1] at hst
                obtain ⟨g9, off9, hla9, hg9, hel9⟩ := hst.2 (by omega)
                have cx : V9.cell? ⟨g9, off9 + k, none⟩ = some (.string s) := hel9 k s hs
                have hxs := HB.out s (List.mem_of_getElem? hs)
                have hfl := flat_take encT x.ts k s hs
                have hfb := flat_len encT 210 (x.ts.take k) (fun t ht => by have := HB.out t (List.mem_of_mem_take ht); have := encT_len t (by omega); omega)
                have htl : (x.ts.take k).length ≤ 64 := by rw [List.length_take]; have := HLT.out.1; omega
                have HXK : Hid (k < ln ∧ s.size ≤ 200 ∧ (x.ts.take (k + 1)).flatMap encT = (x.ts.take k).flatMap encT ++ encT s ∧ (M8 ++ (x.ts.take k).flatMap encT).length ≤ 241000) := ⟨hk9, hxs, hfl, by rw [List.length_append]; have : 210 * (x.ts.take k).length ≤ 210 * 64 := Nat.mul_le_mul_left _ htl; have := HM8.out.2; omega⟩
                have HIN : Hid (In V9 vk nk ck (M8 ++ (x.ts.take k).flatMap encT)) := own_inn HIK.out.1 (by have := HXK.out.2.2.2; omega)
                have c68 : V9.cell? ⟨d7, 68, none⟩ = some (.slice (some ⟨g9, off9, none⟩) ln lc) := by have h := HIK.out.2.2.2.lines; rw [HLN.out.1, HLN.out.2.1, HLN.out.2.2, hla9] at h; exact h
                have q3 : (k : Int) < (ln : Int) := by omega
                clear hst hg9 hel9 hs hxs hfl hfb htl hk9 qk hla9
                go_wp2_with fail
                refine (put_txt (B := B) HIN.out (Nat.le_trans HP.out.2.2.2.2.2.2.2 HIK.out.2.1.size) s (by have := HXK.out.2; omega)).mono ?_
                rintro e Vb ⟨va9, n9', c9, rfl, ho9, -, hb9⟩
                have HJ : Hid (Own 5 B Vb (.slice va9 n9' c9) (M8 ++ (x.ts.take (k + 1)).flatMap encT) ∧ Fr B w Vb ∧ Blk Vb d1 25 p.cells ∧ OpB Vb d7 x ∧ k < ln) := ⟨by rw [HXK.out.2.2.1, ← List.append_assoc]; exact ho9, HIK.out.2.1.trans (Fr.of_below hb9 (Nat.le_trans HP.out.2.2.2.2.2.2.2 HIK.out.2.1.size)), HIK.out.2.2.1.below hb9 HIK.out.2.2.1.lt, HIK.out.2.2.2.below hb9, HXK.out.1⟩
                clear ho9 hb9 cx c68
                go_wp2
                go_roundw
                case rel => exact ⟨k + 1, va9, n9', c9, rfl, by simp, by have := HJ.out.2.2.2.2; omega, HJ.out.1, HJ.out.2.1, HJ.out.2.2.1, HJ.out.2.2.2.1⟩
                case measure => have := HJ.out.2.2.2.2; simp only [intOf]; omega
              · have q3 : (ln : Int) ≤ (k : Int) := by omega
                have c68 : V9.cell? ⟨d7, 68, none⟩ = some (.slice la ln lc) := by have h := HIK.out.2.2.2.lines; rw [HLN.out.1, HLN.out.2.1, HLN.out.2.2] at h; exact h
                have HJ : Hid (Own 5 B V9 (.slice vk nk ck) (M7 ++ (p.O.take (j + 1)).flatMap (encO p.D)) ∧ Fr B w V9 ∧ Blk V9 d1 25 p.cells ∧ j < p.on) := by
                  refine ⟨?_, HIK.out.2.1, HIK.out.2.2.1, HX.out.1⟩
                  have h1 := HIK.out.1
                  rw [List.take_of_length_le (by rw [HLT.out.2]; omega)] at h1
                  have e1 : M8 ++ x.ts.flatMap encT = M7 ++ (p.O.take (j + 1)).flatMap (encO p.D) := by
                    rw [HX.out.2.2.1, ← List.append_assoc, HMj.out.1, ← HM8.out.1, ← HMk.out.1]
                    unfold encO
                    rw [HS.out.1, if_pos rfl, HS.out.2.2, HLN.out.2.1]
                    simp only [List.append_assoc, List.cons_append, List.nil_append]
                    rfl
                  rw [← e1]
                  exact h1
                clear hk9 qk
                go_wp2
                go_roundw
                case rel => exact ⟨j + 1, vk, nk, ck, rfl, by simp, by have := HJ.out.2.2.2; omega, HJ.out.1, HJ.out.2.1, HJ.out.2.2.1⟩
                case measure => have := HJ.out.2.2.2; simp only [intOf]; omega
          · have hU : eqVx x.up vTop = true ∨ eqVx x.up vBot = true ∨ lineOf p.D x.up = true := .inr (.inr hul)
            clear hl0 hdt hul
            obtain ⟨sp, hsp⟩ : ∃ s, x.path = s := ⟨_, rfl⟩
            have HS : Hid (x.kind = 2 ∧ sp.size ≤ 100 ∧ x.path = sp) := ⟨hk1, by rw [← hsp]; have := path_len hpa; omega, hsp⟩
            clear hsp
            go_wp2_with fail
            refine br14b HI5 HX6 HO6 HB6 HS ?_
            intro V5 z va2 n5 c2 va3 n3 c3 ho5 hf5
            have H5 : Hid (Fr B w V5 ∧ OpB V5 d7 x ∧ Blk V5 d1 25 p.cells ∧ Own 5 B V5 (.slice va3 n3 c3) (Mj ++ [2] ++ encT sp)) := ⟨H6.out.1.trans hf5, ⟨HB6.out.blk.fr hf5 (by decide) (by decide), HB6.out.ok⟩, H6.out.2.fr hf5 (by decide) (by decide), ho5⟩
            have hxp := encT_len sp (by have := HS.out.2.1; omega)
            have HXP : Hid ((encT sp).length ≤ 110) := by show _ ≤ _; have := HS.out.2.1; omega
            clear ho5 hf5 hxp HO6 HB6 H6
            go_wp2_with (with_reducible change wpList _ _ _ ({ dst := some 69, op := _, type := _, pos := _, after := _, guard := _ } :: _) _ _; refine Hid.out ?_)
            show wpList _ _ _ _ _ _
            refine wpList_load_mid rfl 25 (.tmp 1) rfl d1 0 rfl p.cells _ H5.out.2.2.1.range0 Tryd.underlying25 rfl (info25 p) ?_
            go_wp2_with (with_reducible change wpList _ _ _ ({ dst := some 71, op := _, type := _, pos := _, after := _, guard := _ } :: _) _ _; refine Hid.out ?_)
            show wpList _ _ _ _ _ _
            refine wpList_load_mid rfl 42 (.tmp 70) rfl d7 2 rfl x.up.cells _ H5.out.2.1.up Tryd.underlying42 rfl (info49 HX.out.2.1.1) ?_
            go_wp2_with fail
            refine (rvx_is H5.out.2.2.2 (Nat.le_trans HP.out.2.2.2.2.2.2.2 H5.out.1.size) p (fun V hV => HP.out.1 V (H5.out.1.below.trans hV)) (by have := HP.out.2.1; omega) x.up HX.out.2.1.1 hU (by simp only [List.length_append]; have := HX6.out.2; have := HXP.out; have := HMj.out; simp; omega) _ rfl).mono ?_
            rintro e V6 ⟨va6, n6, c6, rfl, ho6, hf6⟩
            have H7 : Hid (Fr B w V6 ∧ OpB V6 d7 x ∧ Blk V6 d1 25 p.cells ∧ Own 5 B V6 (.slice va6 n6 c6) (Mj ++ [2] ++ encT sp ++ encV p.D x.up)) := ⟨H5.out.1.trans hf6, ⟨H5.out.2.1.blk.fr hf6 (by decide) (by decide), H5.out.2.1.ok⟩, H5.out.2.2.1.fr hf6 (by decide) (by decide), ho6⟩
            have HVL : Hid ((encV p.D x.up).length ≤ 21) := encV_len p.D x.up HDl.out hU
            have k0 : V6.cell? ⟨d7, 0, none⟩ = some (iv 2) := by rw [← hk1]; exact H7.out.2.1.kind
            clear ho6 hf6 H5
            have HJ : Hid (Own 5 B V6 (.slice va6 n6 c6) (M7 ++ (p.O.take (j + 1)).flatMap (encO p.D)) ∧ Fr B w V6 ∧ Blk V6 d1 25 p.cells ∧ j < p.on) := by
              refine ⟨?_, H7.out.1, H7.out.2.2.1, HX.out.1⟩
              have e1 : Mj ++ [2] ++ encT sp ++ encV p.D x.up = M7 ++ (p.O.take (j + 1)).flatMap (encO p.D) := by
                rw [HX.out.2.2.1, ← List.append_assoc, HMj.out.1]
                unfold encO
                rw [HS.out.1, if_neg (by decide), HS.out.2.2]
                simp only [List.append_assoc, List.cons_append, List.nil_append, List.append_nil]
                rfl
              rw [← e1]
              exact H7.out.2.2.2
            clear hU hpa
            go_wp2
            go_roundw
            case rel => exact ⟨j + 1, va6, n6, c6, rfl, by simp, by have := HJ.out.2.2.2; omega, HJ.out.1, HJ.out.2.1, HJ.out.2.2.1⟩
            case measure => have := HJ.out.2.2.2; simp only [intOf]; omega
        · have q2 : (p.on : Int) ≤ (j : Int) := by omega
          have c4 : V3.cell? ⟨d1, 4, none⟩ = some (.slice p.oa p.on p.oc) := HI.out.2.2.cell rfl
          have HF : Hid (In V3 vb nb cb R ∧ Fr B w V3) := by
            refine ⟨?_, HI.out.2.1⟩
            have h1 := HI.out.1
            have hOl := (HP.out.1 w (Below.refl _ _)).ops.1
            have hfb := flat_len (encO p.D) 14000 p.O (fun t ht => by
              have h2 := HP.out.2.2.2.1 t ht
              exact encO_len p.D t HDl.out h2.1 ((HP.out.1 w (Below.refl _ _)).ops.2.1 t ht).1.2.2.1 h2.2)
            rw [List.take_of_length_le (by omega)] at h1
            have e1 : M7 ++ p.O.flatMap (encO p.D) = R := by
              rw [← HR.out, ← HM7.out.1, ← HM6.out.1, ← HM5.out.1]
              simp only [List.append_assoc, List.cons_append, List.nil_append]
            have hl : (M7 ++ p.O.flatMap (encO p.D)).length ≤ 140737488355328 := by rw [List.length_append]; have := HM7.out.2; have : 14000 * p.O.length ≤ 14000 * 16 := Nat.mul_le_mul_left _ (by have := HP.out.2.2.1; omega); omega
            rw [e1] at hl h1
            exact own_inn h1 hl
          clear hj
          go_wp2
          go_ret
          exact ⟨_, _, _, rfl, HF.out.1, by rw [HBw.out]; exact HF.out.2.below⟩
end Go.Proofs.YtgdecjacbkicmaaDoor.Oct
