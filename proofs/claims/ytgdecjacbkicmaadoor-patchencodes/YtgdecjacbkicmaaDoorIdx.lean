/-
  Layer 10 (patch): Index and Contains of hashes; isLineOf, own.
-/
import Derived.Test.YtgdecjacbkicmaaDoorVtx
namespace Go.Proofs.YtgdecjacbkicmaaDoor.Oct
open Go.RowKit
set_option maxRecDepth 100000
set_option linter.unusedSimpArgs false
set_option linter.unusedVariables false

theorem yl_eqH {o : Oper} {a : Act} (V : World) (p q : Operand) (x y : Hs) (hx : x.length = 32) (hy : y.length = 32) (B : Bool) (hB : decide (x = y) = B) (hop : o.op = .binOp .eql 36 p q 36) (h1 : a.eval p = .agg (U x).toArray) (h2 : a.eval q = .agg (U y).toArray) : (execOp a.eval o).run Tryd.prog V = .ok (.value (.bool B)) V := by
  have h := eqHb x y hx hy V
  rw [hB] at h
  unfold execOp
  simp only [hop, h1, h2, Sem.run_bind, Sem.run_pure]
  have hg : (eqGuard BinOp.eql 36 p q (.agg (U x).toArray) (.agg (U y).toArray)).run Tryd.prog V = .ok () V := by
    first
    | (simp [eqGuard, go_sem]; done)
    | (unfold eqGuard; simp [go_sem, Tryd.underlying36]; done)
    | (unfold eqGuard; go_simp; done)
  rw [hg]
  simp only [Result.andThen_ok, h]
set_option maxRecDepth 100000 in
set_option maxHeartbeats 4000000 in
theorem ix4 {Q : Exit → Act → World → Prop} {x1 x2 x4 x6 x7 x8 x9 x10 x11 x12 x13 x14 x15 x16 x17 x18 : Value} {ds : List Deferred} {A : World} {g off n c i d : Nat} {x h : Hs} {B : Bool}
    (HL : Hid (g < A.heap.size ∧ d < A.heap.size)) (HR : Hid (A.rangeAt g (off + i * 32) (U x) ∧ A.rangeAt d 0 (U h))) (HX : Hid (x.length = 32 ∧ h.length = 32)) (HB : Hid (decide (h = x) = B)) (q1 : (i : Int) < (n : Int)) (q2 : i < n)
    (hQ : ∀ V1, Below A.heap.size A V1 → Q .normal { tmps := #[.slice (some ⟨g, off, none⟩) n c, x1, x2, .pointer (some ⟨d, 0, none⟩), x4, iv (i : Int), x6, x7, x8, x9, x10, .agg (U h).toArray, .slice (some ⟨g, off, none⟩) n c, iv (i : Int), .pointer (some ⟨g, off + i * 32, none⟩), .agg (U x).toArray, .bool B, x17, x18], defers := ds } V1) :
    (Code.region 4 #[{ dst := some 11, op := Op.load 36 (Operand.tmp 3), type := 36, pos := "slices.go:98", after := #[], guard := none }, { dst := some 12, op := Op.move (Operand.tmp 0), type := 22, pos := "slices.go:98", after := #[], guard := none }, { dst := some 13, op := Op.move (Operand.tmp 5), type := 3, pos := "slices.go:98", after := #[], guard := none }, { dst := some 14, op := Op.indexAddr 22 (Operand.tmp 12) (Operand.tmp 13), type := 0, pos := "slices.go:98", after := #[{ on := 1, ground := Ground.data }, { on := 2, ground := Ground.data }], guard := none }, { dst := some 15, op := Op.load 36 (Operand.tmp 14), type := 36, pos := "slices.go:98", after := #[{ on := 3, ground := Ground.data }], guard := none }, { dst := some 16, op := Op.binOp BinOp.eql 36 (Operand.tmp 11) (Operand.tmp 15) 36, type := 4, pos := "slices.go:98", after := #[{ on := 0, ground := Ground.data }, { on := 4, ground := Ground.data }], guard := none }] true).wp Tryd.prog Q { tmps := #[.slice (some ⟨g, off, none⟩) n c, x1, x2, .pointer (some ⟨d, 0, none⟩), x4, iv (i : Int), x6, x7, x8, x9, x10, x11, x12, x13, x14, x15, x16, x17, x18], defers := ds } A := by
  refine Code.wp_mono (Q := fun x a' w' => match x with | .normal => Q .normal a' w' | _ => False) (by intro x a' w' h; cases x <;> first | exact h | exact h.elim) ?_
  refine wp_region_held (S := fun V => Below A.heap.size A V) (by kernel_rfl) ?_
  have hS0 : Hid (Below A.heap.size A A.drew) := below_drew0 A
  change wpAnyH Tryd.prog .any _ _ (fun V => Below A.heap.size A V) 6 (Array.replicate 6 false) _ A.drew
  obtain ⟨V0, hV0⟩ : ∃ V0, A.drew = V0 := ⟨_, rfl⟩
  rw [hV0]
  rw [hV0] at hS0
  clear hV0
  refine wpAnyH_take (i := 0) (oi := { dst := some 11, op := Op.load 36 (Operand.tmp 3), type := 36, pos := "slices.go:98", after := #[], guard := none }) (v := .agg (U h).toArray) rfl (by kernel_rfl) (by kernel_rfl) (by kernel_rfl) (fun _ _ _ h => h.elim) (yieldsIf_load_mid (by rfl) _ _ rfl _ _ rfl (U h) _ (fun V hV => rangeAt_same (HR.out.2) ((show Below A.heap.size A V from hV).block _ (HL.out.2))) Tryd.underlying36 rfl (info47 h HX.out.2)) hS0.out ?_
  simp only [Act.put, List.setIfInBounds_toArray, List.set_cons_zero, List.set_cons_succ]
  refine wpAnyH_take (i := 1) (oi := { dst := some 12, op := Op.move (Operand.tmp 0), type := 22, pos := "slices.go:98", after := #[], guard := none }) (v := .slice (some ⟨g, off, none⟩) n c) rfl (by kernel_rfl) (by kernel_rfl) (by kernel_rfl) (fun _ _ _ h => h.elim) (Or.inl ⟨by rfl, ?y1⟩) hS0.out ?_
  case y1 =>
    intro V hV
    go_simp
  simp only [Act.put, List.setIfInBounds_toArray, List.set_cons_zero, List.set_cons_succ]
  refine wpAnyH_take (i := 2) (oi := { dst := some 13, op := Op.move (Operand.tmp 5), type := 3, pos := "slices.go:98", after := #[], guard := none }) (v := iv (i : Int)) rfl (by kernel_rfl) (by kernel_rfl) (by kernel_rfl) (fun _ _ _ h => h.elim) (Or.inl ⟨by rfl, ?y2⟩) hS0.out ?_
  case y2 =>
    intro V hV
    go_simp
  simp only [Act.put, List.setIfInBounds_toArray, List.set_cons_zero, List.set_cons_succ]
  refine wpAnyH_take (i := 3) (oi := { dst := some 14, op := Op.indexAddr 22 (Operand.tmp 12) (Operand.tmp 13), type := 0, pos := "slices.go:98", after := #[{ on := 1, ground := Ground.data }, { on := 2, ground := Ground.data }], guard := none }) (v := .pointer (some ⟨g, off + i * 32, none⟩)) rfl (by kernel_rfl) (by kernel_rfl) (by kernel_rfl) (fun _ _ _ h => h.elim) (Or.inl ⟨by rfl, ?y3⟩) hS0.out ?_
  case y3 =>
    intro V hV
    have hcmp := q1
    have hcmp2 := q2
    go_simp
  simp only [Act.put, List.setIfInBounds_toArray, List.set_cons_zero, List.set_cons_succ]
  refine wpAnyH_take (i := 4) (oi := { dst := some 15, op := Op.load 36 (Operand.tmp 14), type := 36, pos := "slices.go:98", after := #[{ on := 3, ground := Ground.data }], guard := none }) (v := .agg (U x).toArray) rfl (by kernel_rfl) (by kernel_rfl) (by kernel_rfl) (fun _ _ _ h => h.elim) (yieldsIf_load_mid (by rfl) _ _ rfl _ _ rfl (U x) _ (fun V hV => rangeAt_same (HR.out.1) ((show Below A.heap.size A V from hV).block _ (HL.out.1))) Tryd.underlying36 rfl (info47 x HX.out.1)) hS0.out ?_
  simp only [Act.put, List.setIfInBounds_toArray, List.set_cons_zero, List.set_cons_succ]
  refine wpAnyH_take (i := 5) (oi := { dst := some 16, op := Op.binOp BinOp.eql 36 (Operand.tmp 11) (Operand.tmp 15) 36, type := 4, pos := "slices.go:98", after := #[{ on := 0, ground := Ground.data }, { on := 4, ground := Ground.data }], guard := none }) (v := .bool B) rfl (by kernel_rfl) (by kernel_rfl) (by kernel_rfl) (fun _ _ _ h => h.elim) (Or.inl ⟨by rfl, ?y4⟩) hS0.out ?_
  case y4 =>
    intro V hV
    exact yl_eqH V _ _ h x HX.out.2 HX.out.1 B HB.out rfl rfl rfl
  simp only [Act.put, List.setIfInBounds_toArray, List.set_cons_zero, List.set_cons_succ]
  refine wpAnyH_done (by kernel_rfl) ?_ _
  exact hQ V0 hS0.out
set_option maxHeartbeats 1000000 in
theorem index_h (w : World) (a : Option Addr) (n c : Nat) (hs : List Hs) (h : Hs) (hr : HsR w a n hs) (hl : h.length = 32) (hn : n ≤ 100000) (P : Int) (hP : placeOf h hs = P) :
    Calls Tryd.prog 70 #[.slice a n c, .agg (U h).toArray] w fun e w' => e = .returned (iv P) ∧ Below w.heap.size w w' := by
  have HR : Hid (HsR w a n hs) := hr
  have HPP : Hid (placeOf h hs = P) := hP
  have q0 : (n : Int) ≤ 100000 := by omega
  have HL : Hid (h.length = 32) := hl
  obtain ⟨d, hd⟩ : ∃ d, w.heap.size = d := ⟨_, rfl⟩
  obtain ⟨W, hW⟩ : ∃ W, w.alloc (.cells (U h).toArray 36) = W := ⟨_, rfl⟩
  have hk : Blk W d 36 (U h) := by rw [← hW, ← hd]; exact Blk.new w _ _
  have HB0 : Hid (Below w.heap.size w W ∧ Blk W d 36 (U h)) := ⟨by rw [← hW]; exact below_al _ _, hk⟩
  clear hr hn hl hP hk
  go_enter Tryd.func70, Tryd.ntmps70
  go_wp2
  go_loopw [8] (fun u wr => ∃ i : Nat, u = iv (i : Int) ∧ (i : Int) ≤ (n : Int) ∧ Hid (∀ j x, j < i → hs[j]? = some x → x ≠ h) ∧ Hid (Below w.heap.size w wr ∧ Blk wr d 36 (U h))) (fun u _ => n - (intOf u).toNat)
  case atStart => exact ⟨0, rfl, by omega, (fun j x hj => absurd hj (by omega)), HB0.out⟩
  case round =>
    obtain ⟨V, hV⟩ : ∃ V, V = wr := ⟨_, rfl⟩
    subst hV
    obtain ⟨i, rfl, qi, HI, HB⟩ := hrel
    clear HB0 hW hd
    by_cases hi : i < n
    · obtain ⟨x, hx⟩ : ∃ x, hs[i]? = some x := ⟨_, List.getElem?_eq_getElem (by rw [HR.out.1]; exact hi)⟩
      obtain ⟨g, off, rfl, hg, hel⟩ := HR.out.2.2 (by omega)
      have hxl := HR.out.2.1 x (List.mem_of_getElem? hx)
      have HX : Hid (i < n ∧ hs[i]? = some x) := ⟨hi, hx⟩
      have HXL : Hid (x.length = 32 ∧ h.length = 32) := ⟨hxl, HL.out⟩
      have HRA : Hid (V.rangeAt g (off + i * 32) (U x) ∧ V.rangeAt d 0 (U h)) := ⟨rangeAt_same (hel i x hx) (HB.out.1.block g hg), HB.out.2.range0⟩
      have HLT : Hid (g < V.heap.size ∧ d < V.heap.size) := ⟨Nat.lt_of_lt_of_le hg HB.out.1.size, HB.out.2.lt⟩
      have q1 : (i : Int) < (n : Int) := by omega
      clear hel hx hxl hg qi
      obtain ⟨B, hBB⟩ : ∃ B, decide (h = x) = B := ⟨_, rfl⟩
      have HBB : Hid (decide (h = x) = B) := hBB
      clear hBB
      go_wp2_with fail
      refine ix4 HLT HRA HXL HBB q1 hi ?_
      intro V2 hb2
      have HB2 : Hid (Below w.heap.size w V2 ∧ Blk V2 d 36 (U h)) := ⟨below_tr HB.out.1 hb2, HB.out.2.below hb2 HB.out.2.lt⟩
      clear hb2 hi HLT HRA HB
      cases B with
      | true =>
        have HF : Hid (P = (i : Int)) := by
          show P = _
          have e : h = x := by simpa using HBB.out
          rw [← HPP.out]
          exact placeOf_at (by rw [HX.out.2, e]) HI.out
        obtain hPi := HF.out
        subst hPi
        clear HF HBB HPP
        go_wp2
        go_ret
        exact ⟨rfl, HB2.out.1⟩
      | false =>
        have HN : Hid (∀ j y, j < i + 1 → hs[j]? = some y → y ≠ h) := by
          intro j y hj hy
          by_cases hji : j = i
          · subst hji; rw [HX.out.2] at hy; cases hy; exact fun e => by have := HBB.out; simp at this; exact this e.symm
          · exact HI.out j y (by omega) hy
        have HI1 : Hid (i < n) := HX.out.1
        clear HBB HI
        go_wp2
        go_roundw
        case rel => exact ⟨i + 1, by simp, by have := HI1.out; omega, HN.out, HB2.out⟩
        case measure => have := HI1.out; simp only [intOf]; omega
    · have q1 : (n : Int) ≤ (i : Int) := by omega
      have HF : Hid (P = -1) := by
        show P = _
        rw [← HPP.out]
        refine placeOf_no fun x hx => ?_
        obtain ⟨j, hj, rfl⟩ := List.mem_iff_getElem.1 hx
        exact HI.out j _ (by rw [HR.out.1] at hj; omega) (List.getElem?_eq_getElem hj)
      have hPi := HF.out
      subst hPi
      clear HF HPP hi
      go_wp2
      go_ret
      exact ⟨rfl, HB.out.1⟩
theorem place_dec (h : Hs) (hs : List Hs) (B : Bool) (hB : decide (h ∈ hs) = B) : decide (0 ≤ placeOf h hs) = B := by
  rw [← hB]
  by_cases hm : h ∈ hs
  · rw [decide_eq_true hm, decide_eq_true ((placeOf_mem h hs).2 hm)]
  · rw [decide_eq_false hm, decide_eq_false (fun e => hm ((placeOf_mem h hs).1 e))]
set_option maxHeartbeats 1000000 in
theorem contains_h (w : World) (a : Option Addr) (n c : Nat) (hs : List Hs) (h : Hs) (hr : HsR w a n hs) (hl : h.length = 32) (hn : n ≤ 100000) (B : Bool) (hB : decide (h ∈ hs) = B) :
    Calls Tryd.prog 79 #[.slice a n c, .agg (U h).toArray] w fun e w' => e = .returned (.bool B) ∧ Below w.heap.size w w' := by
  obtain ⟨P, hP⟩ : ∃ P, placeOf h hs = P := ⟨_, rfl⟩
  have hPB := place_dec h hs B hB
  rw [hP] at hPB
  have HPP : Hid (placeOf h hs = P ∧ HsR w a n hs ∧ h.length = 32 ∧ n ≤ 100000) := ⟨hP, hr, hl, hn⟩
  obtain ⟨d, hd⟩ : ∃ d, w.heap.size = d := ⟨_, rfl⟩
  obtain ⟨W, hW⟩ : ∃ W, w.alloc (.cells (U h).toArray 36) = W := ⟨_, rfl⟩
  have hk : Blk W d 36 (U h) := by rw [← hW, ← hd]; exact Blk.new w _ _
  have HB0 : Hid (Below w.heap.size w W ∧ Blk W d 36 (U h)) := ⟨by rw [← hW]; exact below_al _ _, hk⟩
  clear hr hn hl hP hk hB
  go_enter Tryd.func79, Tryd.ntmps79
  go_wp2_with (with_reducible change wpList _ _ _ ({ dst := some 6, op := _, type := _, pos := _, after := _, guard := _ } :: _) _ _; refine Hid.out ?_)
  show wpList _ _ _ _ _ _
  refine wpList_load_mid rfl 36 (.tmp 3) rfl d 0 rfl (U h) _ HB0.out.2.range0 Tryd.underlying36 rfl (info47 h HPP.out.2.2.1) ?_
  go_wp2_with fail
  refine (index_h W a n c hs h (HPP.out.2.1.below HB0.out.1) HPP.out.2.2.1 HPP.out.2.2.2 P HPP.out.1).mono ?_
  rintro e W1 ⟨rfl, hb1⟩
  have HF : Hid (Below w.heap.size w W1) := below_tr HB0.out.1 hb1
  clear hb1 hW hd
  go_wp2
  go_ret
  exact ⟨by first | rfl | rw [hPB], HF.out⟩
/-- may a vertex be a line of what is needed? -/
def lineOf (D : List Hs) (v : Vx) : Bool := decide (0 ≤ v.n) && (decide (v.n < 64) && decide (v.h ∈ D))
set_option maxHeartbeats 1000000 in
theorem isLineOf_is (w : World) (a : Option Addr) (n c : Nat) (hs : List Hs) (v : Vx) (hr : HsR w a n hs) (hv : v.ok) (hn : n ≤ 100000) (B : Bool) (hB : lineOf hs v = B) :
    Calls Tryd.prog 65 #[.slice a n c, .agg v.cells.toArray] w fun e w' => e = .returned (.bool B) ∧ Below w.heap.size w w' := by
  obtain ⟨M, hM⟩ : ∃ M, decide (v.h ∈ hs) = M := ⟨_, rfl⟩
  have HPP : Hid (decide (v.h ∈ hs) = M ∧ HsR w a n hs ∧ v.ok ∧ n ≤ 100000) := ⟨hM, hr, hv, hn⟩
  unfold lineOf at hB
  rw [hM] at hB
  obtain ⟨d, hd⟩ : ∃ d, w.heap.size = d := ⟨_, rfl⟩
  obtain ⟨W, hW⟩ : ∃ W, w.alloc (.cells v.cells.toArray 42) = W := ⟨_, rfl⟩
  have hk : Blk W d 42 v.cells := by rw [← hW, ← hd]; exact Blk.new w _ _
  have c1 : W.cell? ⟨d, 32, none⟩ = some (iv v.n) := hk.cell (Vx.line hv)
  have HB0 : Hid (Below w.heap.size w W ∧ Blk W d 42 v.cells ∧ W.rangeAt d 0 (U v.h)) := ⟨by rw [← hW]; exact below_al _ _, hk, by have := hk.range 0 32; rw [List.drop_zero, Vx.hash hv] at this; exact this⟩
  obtain ⟨m, hm⟩ : ∃ m, v.n = m := ⟨_, rfl⟩
  rw [hm] at hB c1
  clear hr hn hM hk hv hm
  by_cases h1 : 0 ≤ m
  · have g1 : decide (0 ≤ m) = true := decide_eq_true h1
    by_cases h2 : m < 64
    · have g2 : decide (m < 64) = true := decide_eq_true h2
      rw [g1, g2, Bool.true_and, Bool.true_and] at hB
      subst hB
      go_enter Tryd.func65, Tryd.ntmps65
      go_wp2_with (with_reducible change wpList _ _ _ ({ dst := some 16, op := _, type := _, pos := _, after := _, guard := _ } :: _) _ _; refine Hid.out ?_)
      show wpList _ _ _ _ _ _
      refine wpList_load_want rfl 36 (.tmp 15) rfl d 0 rfl (U v.h) _ HB0.out.2.2 Tryd.underlying36 rfl (info47 _ HPP.out.2.2.1) ?_
      go_wp2_with fail
      refine (contains_h W a n c hs v.h (HPP.out.2.1.below HB0.out.1) HPP.out.2.2.1 HPP.out.2.2.2 M HPP.out.1).mono ?_
      rintro e W1 ⟨rfl, hb1⟩
      have HF : Hid (Below w.heap.size w W1) := below_tr HB0.out.1 hb1
      clear hb1 hW hd
      go_wp2
      go_ret
      exact ⟨rfl, HF.out⟩
    · have g2 : decide (m < 64) = false := decide_eq_false h2
      rw [g1, g2, Bool.true_and, Bool.false_and] at hB
      subst hB
      have h2' : 64 ≤ m := by omega
      clear h2
      go_enter Tryd.func65, Tryd.ntmps65
      go_wp2
      go_ret
      exact ⟨rfl, HB0.out.1⟩
  · have g1 : decide (0 ≤ m) = false := decide_eq_false h1
    rw [g1, Bool.false_and] at hB
    subst hB
    have h1' : m < 0 := by omega
    clear h1
    go_enter Tryd.func65, Tryd.ntmps65
    go_wp2
    go_ret
    exact ⟨rfl, HB0.out.1⟩
end Go.Proofs.YtgdecjacbkicmaaDoor.Oct
