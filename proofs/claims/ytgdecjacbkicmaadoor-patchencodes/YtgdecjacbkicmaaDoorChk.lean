/-
  Layer 10 (patch): Check.
-/
import Derived.Test.YtgdecjacbkicmaaDoorAdd
import Derived.Test.YtgdecjacbkicmaaDoorRefName
import Derived.Deep.MidRow
namespace Go.Proofs.YtgdecjacbkicmaaDoor.Oct
open Go.RowKit
set_option maxRecDepth 100000
set_option linter.unusedSimpArgs false
set_option linter.unusedVariables false

/-- a patch, as a value -/
structure PV where
  au : BA
  tm : Int
  nt : BA
  da : Option Addr
  dn : Nat
  dc : Nat
  D : List Hs
  oa : Option Addr
  on : Nat
  oc : Nat
  O : List OpV
def PV.cells (p : PV) : List Value := [.string p.au, iv p.tm, .string p.nt, .slice p.da p.dn p.dc, .slice p.oa p.on p.oc]
theorem PV.one (p : PV) : ∀ x ∈ p.cells, x.oneCell' = true := by
  intro x hx
  simp only [PV.cells, List.mem_cons, List.not_mem_nil, or_false] at hx
  rcases hx with rfl | rfl | rfl | rfl | rfl <;> rfl
theorem info25 (p : PV) : (Tryd.prog.info? 25).map (·.size) = some p.cells.length := by show _ = some 5; kernel_rfl
/-- what a patch reads lies in memory -/
structure PR (w : World) (p : PV) : Prop where
  deps : HsR w p.da p.dn p.D
  ops : OpsR w p.oa p.on p.O
  ld : p.dn ≤ p.dc ∧ p.dc ≤ maxLen
  lo : p.on ≤ p.oc ∧ p.oc ≤ maxLen
  zd : p.dn ≤ 140737488355328
  zo : p.on ≤ 140737488355328
  za : p.au.size ≤ 140737488355328
  zn : p.nt.size ≤ 140737488355328
theorem PR.below {w w' : World} {p : PV} (h : PR w p) (hb : Below w.heap.size w w') : PR w' p := ⟨h.deps.below hb, h.ops.below hb, h.ld, h.lo, h.zd, h.zo, h.za, h.zn⟩
/-- hashes that rise -/
def rises : Hs → List Hs → Bool
  | _, [] => true
  | l, d :: r => decide (Lib.compareBytes l d < 0) && rises d r
def depsB (D : List Hs) : Bool := decide (D.length ≤ 16) && rises z32 D
def headB (p : PV) : Bool := isName p.au.data.toList && (decide (0 ≤ p.tm) && (decide (p.tm ≤ 1099511627776) && decide ((p.nt.size : Int) ≤ 200)))
def opB (D : List Hs) (o : OpV) : Bool := isPath o.path.data.toList && (addB D o || killB D o)
def opsB (D : List Hs) (O : List OpV) : Bool := decide (1 ≤ O.length) && (decide (O.length ≤ 16) && (decide (many O ≤ 64) && O.all (opB D)))
def chk (p : PV) : Int := if headB p = false then 100 else if depsB p.D = false then 101 else if opsB p.D p.O = false then 102 else 0
theorem yl_geI {o : Oper} {a : Act} (V : World) (p q : Operand) (x y : Int) (B : Bool) (hB : decide (y ≤ x) = B) (hop : o.op = .binOp .geq 3 p q 3) (h1 : a.eval p = iv x) (h2 : a.eval q = iv y) : (execOp a.eval o).run Tryd.prog V = .ok (.value (.bool B)) V := by
  subst hB
  unfold execOp
  simp only [hop, h1, h2, Sem.run_bind, Sem.run_pure]
  first
  | (simp [eqGuard, go_sem, Tryd.underlying3]; done)
  | (go_simp; done)
theorem zero47 : ∃ Z : List Value, (∀ W, (zeroValue 36).run Tryd.prog W = .ok (.agg Z.toArray) W) ∧ Hid (Z = U z32) := ⟨U z32, fun W => by kernel_rfl, rfl⟩
theorem built47 : Tryd.prog.built 36 [] = some (U z32).toArray := by kernel_rfl
set_option maxRecDepth 100000 in
set_option maxHeartbeats 4000000 in
theorem dp7 {Q : Exit → Act → World → Prop} {x0 x1 x2 x4 x6 x7 x8 x9 x10 x11 x12 x13 x14 x15 x16 x17 x18 x19 x20 x21 : Value} {ds : List Deferred} {A : World} {d3 d5 : Nat} {r : Int} {G : Bool}
    (H40 : Hid (∀ V, Below A.heap.size A V → Calls Tryd.prog 36 #[.slice (some ⟨d3, 0, none⟩) 32 32, .slice (some ⟨d5, 0, none⟩) 32 32] V fun e V2 => e = .returned (iv r) ∧ V = V2)) (HG : Hid (decide (0 ≤ r) = G))
    (hQ : ∀ V1, Below A.heap.size A V1 → Q .normal { tmps := #[x0, x1, x2, .pointer (some ⟨d3, 0, none⟩), x4, .pointer (some ⟨d5, 0, none⟩), x6, x7, x8, x9, x10, x11, x12, x13, x14, x15, .slice (some ⟨d3, 0, none⟩) 32 32, .slice (some ⟨d5, 0, none⟩) 32 32, iv r, .bool G, x20, x21], defers := ds } V1) :
    (Code.region 7 #[{ dst := some 16, op := Op.slice 36 (Operand.tmp 3) none none none, type := 28, pos := "check.go:27", after := #[], guard := none }, { dst := some 17, op := Op.slice 36 (Operand.tmp 5) none none none, type := 28, pos := "check.go:27", after := #[], guard := none }, { dst := some 18, op := Op.call { callee := Callee.value (Operand.func 36), args := #[Operand.tmp 16, Operand.tmp 17], argTypes := #[28, 28] }, type := 3, pos := "check.go:27", after := #[{ on := 0, ground := Ground.data }, { on := 1, ground := Ground.data }], guard := none }, { dst := some 19, op := Op.binOp BinOp.geq 3 (Operand.tmp 18) (Operand.const (Value.int IntKind.i64 0)) 3, type := 4, pos := "check.go:27", after := #[{ on := 2, ground := Ground.data }], guard := none }] true).wp Tryd.prog Q { tmps := #[x0, x1, x2, .pointer (some ⟨d3, 0, none⟩), x4, .pointer (some ⟨d5, 0, none⟩), x6, x7, x8, x9, x10, x11, x12, x13, x14, x15, x16, x17, x18, x19, x20, x21], defers := ds } A := by
  refine Code.wp_mono (Q := fun x a' w' => match x with | .normal => Q .normal a' w' | _ => False) (by intro x a' w' h; cases x <;> first | exact h | exact h.elim) ?_
  refine wp_region_held (S := fun V => Below A.heap.size A V) (by kernel_rfl) ?_
  have hS0 : Hid (Below A.heap.size A A.drew) := below_drew0 A
  change wpAnyH Tryd.prog .any _ _ (fun V => Below A.heap.size A V) 4 (Array.replicate 4 false) _ A.drew
  obtain ⟨V0, hV0⟩ : ∃ V0, A.drew = V0 := ⟨_, rfl⟩
  rw [hV0]
  rw [hV0] at hS0
  clear hV0
  refine wpAnyH_take (i := 0) (oi := { dst := some 16, op := Op.slice 36 (Operand.tmp 3) none none none, type := 28, pos := "check.go:27", after := #[], guard := none }) (v := .slice (some ⟨d3, 0, none⟩) 32 32) rfl (by kernel_rfl) (by kernel_rfl) (by kernel_rfl) (fun _ _ _ h => h.elim) (Or.inl ⟨by rfl, ?y1⟩) hS0.out ?_
  case y1 =>
    intro V hV
    go_simp
  simp only [Act.put, List.setIfInBounds_toArray, List.set_cons_zero, List.set_cons_succ]
  refine wpAnyH_take (i := 1) (oi := { dst := some 17, op := Op.slice 36 (Operand.tmp 5) none none none, type := 28, pos := "check.go:27", after := #[], guard := none }) (v := .slice (some ⟨d5, 0, none⟩) 32 32) rfl (by kernel_rfl) (by kernel_rfl) (by kernel_rfl) (fun _ _ _ h => h.elim) (Or.inl ⟨by rfl, ?y2⟩) hS0.out ?_
  case y2 =>
    intro V hV
    go_simp
  simp only [Act.put, List.setIfInBounds_toArray, List.set_cons_zero, List.set_cons_succ]
  refine wpAnyH_ready (rs := [2]) (by kernel_rfl) (by simp) (AllReadyH.cons (i := 2) (o := { dst := some 18, op := Op.call { callee := Callee.value (Operand.func 36), args := #[Operand.tmp 16, Operand.tmp 17], argTypes := #[28, 28] }, type := 3, pos := "check.go:27", after := #[{ on := 0, ground := Ground.data }, { on := 1, ground := Ground.data }], guard := none }) rfl ?_ AllReadyH.nil)
  · intro K1 hK1
    rw [if_pos (by rfl)]
    have HC1 := H40.out V0 hS0.out
    go_wp2_with fail
    refine HC1.mono ?_
    rintro e V1 ⟨rfl, rfl⟩
    dsimp only
    clear HC1
    refine hK1.out _ _ hS0.out ?_
    clear hK1
    intro _
    try simp only [Act.put, List.setIfInBounds_toArray, List.set_cons_zero, List.set_cons_succ]
    refine wpAnyH_take (i := 3) (oi := { dst := some 19, op := Op.binOp BinOp.geq 3 (Operand.tmp 18) (Operand.const (Value.int IntKind.i64 0)) 3, type := 4, pos := "check.go:27", after := #[{ on := 2, ground := Ground.data }], guard := none }) (v := .bool G) rfl (by kernel_rfl) (by kernel_rfl) (by kernel_rfl) (fun _ _ _ h => h.elim) (Or.inl ⟨by rfl, ?y3⟩) hS0.out ?_
    case y3 =>
      intro V hV
      exact yl_geI V _ _ r 0 G HG.out rfl rfl rfl
    simp only [Act.put, List.setIfInBounds_toArray, List.set_cons_zero, List.set_cons_succ]
    refine wpAnyH_done (by kernel_rfl) ?_ _
    exact hQ V0 hS0.out
set_option maxHeartbeats 2000000 in
theorem areDeps_is (w : World) (a : Option Addr) (n c : Nat) (D : List Hs) (h : HsR w a n D) (hn : n ≤ 140737488355328) (B : Bool) (hB : depsB D = B) :
    Calls Tryd.prog 18 #[.slice a n c] w fun e w' => e = .returned (.bool B) ∧ Below w.heap.size w w' := by
  have qn : (n : Int) ≤ 140737488355328 := by omega
  by_cases h16 : 16 < n
  · have q16 : (16 : Int) < (n : Int) := by omega
    have hBf : B = false := by rw [← hB]; unfold depsB; rw [decide_eq_false (by rw [h.1]; omega), Bool.false_and]
    subst hBf
    clear h hB hn h16
    go_enter Tryd.func18, Tryd.ntmps18
    go_wp2
    go_ret
    exact ⟨rfl, Below.refl _ _⟩
  have q16 : (n : Int) ≤ 16 := by omega
  have hB2 : rises z32 D = B := by rw [← hB]; unfold depsB; rw [decide_eq_true (by rw [h.1]; omega), Bool.true_and]
  obtain ⟨L0, hL0⟩ : ∃ L, z32 = L := ⟨_, rfl⟩
  obtain ⟨Z, hZ, HZ⟩ := zero47
  have HBL := built47
  have HS : Hid (HsR w a n D ∧ rises L0 D = B ∧ L0.length = 32 ∧ Z.length = 32) := ⟨h, by rw [← hL0]; exact hB2, by rw [← hL0]; rfl, by rw [HZ.out]; rfl⟩
  rw [hL0] at HBL
  obtain ⟨d3, hd3⟩ : ∃ d, w.heap.size = d := ⟨_, rfl⟩
  have HD3 : Hid (w.heap.size = d3) := hd3
  clear h hB hn h16 hB2 HZ hL0 qn
  go_enter Tryd.func18, Tryd.ntmps18
  go_wp2_with (with_reducible change wpList _ _ _ ({ dst := some 9, op := _, type := _, pos := _, after := _, guard := _ } :: _) _ _; refine Hid.out ?_)
  show wpList _ _ _ _ _ _
  refine wpList_built rfl 36 _ rfl (U L0).toArray (by rw [← HBL]; simp) ?_
  go_wp2_with (with_reducible change wpList _ _ _ ({ dst := none, op := Op.store 36 _ _, type := _, pos := _, after := _, guard := _ } :: _) _ _; refine Hid.out ?_)
  show wpList _ _ _ _ _ _
  refine wpList_store_blk rfl 36 (.tmp 3) (.tmp 9) rfl d3 0 36 Z (U L0) rfl rfl (by rw [← HD3.out]; exact Blk.new w _ _) (by rw [HS.out.2.2.2, U_length, HS.out.2.2.1]; omega) (info47 L0 HS.out.2.2.1) (U_one L0) ?_
  intro W0 hx0 hg0
  have H0 : Hid (Below w.heap.size w W0 ∧ Blk W0 d3 36 (U L0)) := ⟨below_gr (below_al w _) hg0.out (by rw [HD3.out]; exact Nat.le_refl _), blk_all hx0.out (by rw [HS.out.2.2.2, U_length, HS.out.2.2.1])⟩
  clear hx0 hg0 HBL hd3
  go_wp2_with fail
  go_loopw [12] (fun u wr => ∃ i : Nat, u = iv (i : Int) ∧ (i : Int) ≤ (n : Int) ∧ Hid (∃ l : Hs, l.length = 32 ∧ rises l (D.drop i) = B ∧ Blk wr d3 36 (U l) ∧ Below w.heap.size w wr)) (fun u _ => n - (intOf u).toNat)
  case atStart => exact ⟨0, rfl, by omega, L0, HS.out.2.2.1, by rw [List.drop_zero]; exact HS.out.2.1, H0.out.2, H0.out.1⟩
  case round =>
    obtain ⟨V, hV⟩ : ∃ V, V = wr := ⟨_, rfl⟩
    subst hV
    obtain ⟨i, rfl, qi, HI⟩ := hrel
    obtain ⟨l, hl, hri, hbl, hbe⟩ := HI.out
    have HL : Hid (l.length = 32 ∧ rises l (D.drop i) = B ∧ Blk V d3 36 (U l) ∧ Below w.heap.size w V) := ⟨hl, hri, hbl, hbe⟩
    clear HI hl hri hbl hbe H0
    by_cases hi : i < n
    · obtain ⟨x, hx⟩ : ∃ x, D[i]? = some x := ⟨_, List.getElem?_eq_getElem (by rw [HS.out.1.1]; exact hi)⟩
      obtain ⟨g, off, rfl, hg, hel⟩ := HS.out.1.2.2 (by omega)
      have hxl := HS.out.1.2.1 x (List.mem_of_getElem? hx)
      have hdr : D.drop i = x :: D.drop (i + 1) := by
        have hlt := (List.getElem?_eq_some_iff.1 hx).1
        rw [List.drop_eq_getElem_cons hlt, (List.getElem?_eq_some_iff.1 hx).2]
      have HX : Hid (i < n ∧ x.length = 32 ∧ V.rangeAt g (off + i * 32) (U x) ∧ D.drop i = x :: D.drop (i + 1)) := ⟨hi, hxl, rangeAt_same (hel i x hx) (HL.out.2.2.2.block g hg), hdr⟩
      have q1 : (i : Int) < (n : Int) := by omega
      obtain ⟨d5, hd5⟩ : ∃ d, V.heap.size = d := ⟨_, rfl⟩
      have HD5 : Hid (V.heap.size = d5) := hd5
      clear hx hg hel hxl hdr hi
      go_wp2_with (with_reducible change wpList _ _ _ ({ dst := some 15, op := _, type := _, pos := _, after := _, guard := _ } :: _) _ _; refine Hid.out ?_)
      show wpList _ _ _ _ _ _
      refine wpList_load_mid rfl 36 (.tmp 14) rfl g (off + i * 32) rfl (U x) _ HX.out.2.2.1 Tryd.underlying36 rfl (info47 x HX.out.2.1) ?_
      go_wp2_with (with_reducible change wpList _ _ _ ({ dst := none, op := Op.store 36 _ _, type := _, pos := _, after := _, guard := _ } :: _) _ _; refine Hid.out ?_)
      show wpList _ _ _ _ _ _
      refine wpList_store_blk rfl 36 (.tmp 5) (.tmp 15) rfl d5 0 36 Z (U x) rfl rfl (by rw [← HD5.out]; exact Blk.new V _ _) (by rw [HS.out.2.2.2, U_length, HX.out.2.1]; omega) (info47 x HX.out.2.1) (U_one x) ?_
      intro W1 hx1 hg1
      have hbV1 : Below V.heap.size V W1 := below_gr (below_al V _) hg1.out (by rw [HD5.out]; exact Nat.le_refl _)
      have H1 : Hid (Below w.heap.size w W1 ∧ Blk W1 d3 36 (U l) ∧ Blk W1 d5 36 (U x) ∧ w.heap.size ≤ d3) := ⟨below_tr HL.out.2.2.2 hbV1, HL.out.2.2.1.below hbV1 HL.out.2.2.1.lt, blk_all hx1.out (by rw [HS.out.2.2.2, U_length, HX.out.2.1]), by rw [HD3.out]; exact Nat.le_refl _⟩
      clear hx1 hg1 hbV1 hd5
      obtain ⟨r, hr⟩ : ∃ r, Lib.compareBytes l x = r := ⟨_, rfl⟩
      obtain ⟨G, hG⟩ : ∃ G, decide (0 ≤ r) = G := ⟨_, rfl⟩
      have HG : Hid (decide (0 ≤ r) = G) := hG
      have H40 : Hid (∀ V2, Below W1.heap.size W1 V2 → Calls Tryd.prog 36 #[.slice (some ⟨d3, 0, none⟩) 32 32, .slice (some ⟨d5, 0, none⟩) 32 32] V2 fun e V3 => e = .returned (iv r) ∧ V2 = V3) := fun V2 hV2 => by
        rw [← hr]
        exact cmp41 V2 d3 0 d5 0 32 32 l x (H1.out.2.1.below hV2 H1.out.2.1.lt).range0 (H1.out.2.2.1.below hV2 H1.out.2.2.1.lt).range0 HL.out.1 HX.out.2.1
      have HRB : Hid ((decide (r < 0) && rises x (D.drop (i + 1))) = B) := by
        have := HL.out.2.1
        rw [HX.out.2.2.2] at this
        show _ = _
        rw [← this, ← hr]
        rfl
      clear hr hG
      go_wp2_with fail
      refine dp7 H40 HG ?_
      intro W2 hb2
      have H2 : Hid (Below w.heap.size w W2 ∧ Blk W2 d3 36 (U l) ∧ Blk W2 d5 36 (U x) ∧ w.heap.size ≤ d3) := ⟨below_tr H1.out.1 hb2, H1.out.2.1.below hb2 H1.out.2.1.lt, H1.out.2.2.1.below hb2 H1.out.2.2.1.lt, H1.out.2.2.2⟩
      clear hb2 H40 H1
      cases G with
      | true =>
        have HF : Hid (B = false) := by
          have h1 : 0 ≤ r := by simpa using HG.out
          show _ = _
          rw [← HRB.out, decide_eq_false (by omega), Bool.false_and]
        have hBf := HF.out
        subst hBf
        clear HF HG HRB
        go_wp2
        go_ret
        exact ⟨rfl, H2.out.1⟩
      | false =>
        have HN : Hid (rises x (D.drop (i + 1)) = B ∧ i < n) := by
          have h1 : r < 0 := by have := HG.out; simp at this; omega
          refine ⟨?_, HX.out.1⟩
          rw [← HRB.out, decide_eq_true h1, Bool.true_and]
        clear HG HRB
        go_wp2_with (with_reducible change wpList _ _ _ ({ dst := some 20, op := _, type := _, pos := _, after := _, guard := _ } :: _) _ _; refine Hid.out ?_)
        show wpList _ _ _ _ _ _
        refine wpList_load_mid rfl 36 (.tmp 5) rfl d5 0 rfl (U x) _ H2.out.2.2.1.range0 Tryd.underlying36 rfl (info47 x HX.out.2.1) ?_
        go_wp2_with (with_reducible change wpList _ _ _ ({ dst := none, op := Op.store 36 _ _, type := _, pos := _, after := _, guard := _ } :: _) _ _; refine Hid.out ?_)
        show wpList _ _ _ _ _ _
        refine wpList_store_blk rfl 36 (.tmp 3) (.tmp 20) rfl d3 0 36 (U l) (U x) rfl rfl H2.out.2.1 (by rw [U_length, U_length, HL.out.1, HX.out.2.1]; omega) (info47 x HX.out.2.1) (U_one x) ?_
        intro W3 hx3 hg3
        have H3 : Hid (Blk W3 d3 36 (U x) ∧ Below w.heap.size w W3 ∧ x.length = 32) := ⟨blk_all hx3.out (by rw [U_length, U_length, HL.out.1, HX.out.2.1]), below_gr H2.out.1 hg3.out H2.out.2.2.2, HX.out.2.1⟩
        clear hx3 hg3 H2
        go_wp2
        go_roundw
        case rel => exact ⟨i + 1, by simp, by have := HN.out.2; omega, x, H3.out.2.2, HN.out.1, H3.out.1, H3.out.2.1⟩
        case measure => have := HN.out.2; simp only [intOf]; omega
    · have q1 : (n : Int) ≤ (i : Int) := by omega
      have HF : Hid (B = true) := by
        have := HL.out.2.1
        rw [List.drop_eq_nil_iff.2 (by rw [HS.out.1.1]; omega)] at this
        exact this.symm
      have hBf := HF.out
      subst hBf
      clear HF hi
      go_wp2
      go_ret
      exact ⟨rfl, HL.out.2.2.2⟩
set_option maxHeartbeats 2000000 in
theorem isHead_is (w : World) (p : PV) (h : PR w p) (B : Bool) (hB : headB p = B) : Calls Tryd.prog 17 #[.agg p.cells.toArray] w fun e w' => e = .returned (.bool B) ∧ Below w.heap.size w w' := by
  obtain ⟨NM, hNM⟩ : ∃ b, isName p.au.data.toList = b := ⟨_, rfl⟩
  have HP : Hid (isName p.au.data.toList = NM ∧ p.au.size ≤ 140737488355328) := ⟨hNM, h.za⟩
  unfold headB at hB
  rw [hNM] at hB
  obtain ⟨d, hd⟩ : ∃ d, w.heap.size = d := ⟨_, rfl⟩
  obtain ⟨W, hW⟩ : ∃ W, w.alloc (.cells p.cells.toArray 25) = W := ⟨_, rfl⟩
  have hk : Blk W d 25 p.cells := by rw [← hW, ← hd]; exact Blk.new w _ _
  have c0 : W.cell? ⟨d, 0, none⟩ = some (.string p.au) := hk.cell rfl
  have c1 : W.cell? ⟨d, 1, none⟩ = some (iv p.tm) := hk.cell rfl
  have c2 : W.cell? ⟨d, 2, none⟩ = some (.string p.nt) := hk.cell rfl
  have HB0 : Hid (Below w.heap.size w W) := by show Below _ _ _; rw [← hW]; exact below_al _ _
  obtain ⟨tm, htm⟩ : ∃ m, p.tm = m := ⟨_, rfl⟩
  have qz : (p.nt.size : Int) ≤ 140737488355328 := by have := h.zn; omega
  rw [htm] at hB c1
  clear h hNM hk htm
  go_enter Tryd.func17, Tryd.ntmps17
  go_wp2_with fail
  refine (name_is p.au W HP.out.2).mono ?_
  rintro e V ⟨rfl, rfl⟩
  rw [HP.out.1]
  cases NM with
  | false =>
    rw [Bool.false_and] at hB
    subst hB
    go_wp2
    go_ret
    exact ⟨rfl, HB0.out⟩
  | true =>
    rw [Bool.true_and] at hB
    by_cases h1 : 0 ≤ tm
    · have g1 : decide (0 ≤ tm) = true := decide_eq_true h1
      rw [g1, Bool.true_and] at hB
      by_cases h2 : tm ≤ 1099511627776
      · have g2 : decide (tm ≤ 1099511627776) = true := decide_eq_true h2
        rw [g2, Bool.true_and] at hB
        go_wp2
        go_ret
        exact ⟨by first | rfl | rw [hB], HB0.out⟩
      · have g2 : decide (tm ≤ 1099511627776) = false := decide_eq_false h2
        have h2' : 1099511627776 < tm := by omega
        rw [g2, Bool.false_and] at hB
        subst hB
        clear h2
        go_wp2
        go_ret
        exact ⟨rfl, HB0.out⟩
    · have g1 : decide (0 ≤ tm) = false := decide_eq_false h1
      have h1' : tm < 0 := by omega
      rw [g1, Bool.false_and] at hB
      subst hB
      clear h1
      go_wp2
      go_ret
      exact ⟨rfl, HB0.out⟩
set_option maxHeartbeats 2000000 in
theorem areOps_is (w : World) (a da : Option Addr) (n c dn dc : Nat) (D : List Hs) (O : List OpV) (h : OpsR w a n O) (hn : n ≤ 140737488355328) (hd : HsR w da dn D) (hdn : dn ≤ 100000) (B : Bool) (hB : opsB D O = B) :
    Calls Tryd.prog 19 #[.slice a n c, .slice da dn dc] w fun e w' => e = .returned (.bool B) ∧ Below w.heap.size w w' := by
  have qn : (n : Int) ≤ 140737488355328 := by omega
  by_cases h1 : n < 1
  · have q1 : (n : Int) < 1 := by omega
    have g1 : decide ((n : Int) < 1) = true := decide_eq_true q1
    have hBf : B = false := by rw [← hB]; unfold opsB; rw [decide_eq_false (p := 1 ≤ O.length) (by rw [h.1]; omega), Bool.false_and]
    subst hBf
    clear h hB hn h1 hd
    go_enter Tryd.func19, Tryd.ntmps19
    go_wp2
    go_ret
    exact ⟨rfl, Below.refl _ _⟩
  have q1 : 1 ≤ (n : Int) := by omega
  have g1 : decide ((n : Int) < 1) = false := decide_eq_false (by omega)
  by_cases h16 : 16 < n
  · have q16 : (16 : Int) < (n : Int) := by omega
    have g2 : decide ((16 : Int) < (n : Int)) = true := decide_eq_true q16
    have hBf : B = false := by rw [← hB]; unfold opsB; rw [decide_eq_false (p := O.length ≤ 16) (by rw [h.1]; omega), Bool.false_and, Bool.and_false]
    subst hBf
    clear h hB hn h16 h1 hd
    go_enter Tryd.func19, Tryd.ntmps19
    go_wp2
    go_ret
    exact ⟨rfl, Below.refl _ _⟩
  have q16 : (n : Int) ≤ 16 := by omega
  have g2 : decide ((16 : Int) < (n : Int)) = false := decide_eq_false (by omega)
  obtain ⟨FW, hFW⟩ : ∃ b, decide (many O ≤ 64) = b := ⟨_, rfl⟩
  have hB2 : (FW && O.all (opB D)) = B := by rw [← hB, ← hFW]; unfold opsB; rw [decide_eq_true (p := 1 ≤ O.length) (by rw [h.1]; omega), decide_eq_true (p := O.length ≤ 16) (by rw [h.1]; omega), Bool.true_and, Bool.true_and]
  have HS : Hid (OpsR w a n O ∧ HsR w da dn D ∧ dn ≤ 100000 ∧ decide (many O ≤ 64) = FW ∧ n ≤ 16) := ⟨h, hd, hdn, hFW, by omega⟩
  clear h hB hn h16 h1 hd hdn hFW qn
  go_enter Tryd.func19, Tryd.ntmps19
  go_wp2_with fail
  refine (fewLines_is w a n c O HS.out.1 HS.out.2.2.2.2 FW HS.out.2.2.2.1).mono ?_
  rintro e W0 ⟨rfl, hb0⟩
  have H0 : Hid (Below w.heap.size w W0) := hb0
  clear hb0
  cases FW with
  | false =>
    rw [Bool.false_and] at hB2
    subst hB2
    go_wp2
    go_ret
    exact ⟨rfl, H0.out⟩
  | true =>
  rw [Bool.true_and] at hB2
  have HB2 : Hid (O.all (opB D) = B) := hB2
  clear hB2
  obtain ⟨Z, hZ, HZ⟩ := zero51
  have HZL : Hid (Z.length = 69) := by show _ = _; rw [HZ.out]; exact OpV.len o00_ok
  clear HZ
  go_wp2_with fail
  go_loopw [22] (fun u wr => ∃ i : Nat, u = iv (i : Int) ∧ (i : Int) ≤ (n : Int) ∧ Hid ((O.drop i).all (opB D) = B ∧ Below w.heap.size w wr)) (fun u _ => n - (intOf u).toNat)
  case atStart => exact ⟨0, rfl, by omega, by rw [List.drop_zero]; exact HB2.out, H0.out⟩
  case round =>
    obtain ⟨V, hV⟩ : ∃ V, V = wr := ⟨_, rfl⟩
    subst hV
    obtain ⟨i, rfl, qi, HI⟩ := hrel
    clear H0
    by_cases hi : i < n
    · obtain ⟨x, hx⟩ : ∃ x, O[i]? = some x := ⟨_, List.getElem?_eq_getElem (by rw [HS.out.1.1]; exact hi)⟩
      obtain ⟨g, off, rfl, hg, hel⟩ := HS.out.1.2.2 (by omega)
      have hok := HS.out.1.2.1 x (List.mem_of_getElem? hx)
      have hdr : O.drop i = x :: O.drop (i + 1) := by
        have hlt := (List.getElem?_eq_some_iff.1 hx).1
        rw [List.drop_eq_getElem_cons hlt, (List.getElem?_eq_some_iff.1 hx).2]
      obtain ⟨PB, hPB⟩ : ∃ b, isPath x.path.data.toList = b := ⟨_, rfl⟩
      obtain ⟨AB, hAB⟩ : ∃ b, addB D x = b := ⟨_, rfl⟩
      obtain ⟨KB, hKB⟩ : ∃ b, killB D x = b := ⟨_, rfl⟩
      have HX : Hid (i < n ∧ x.ok ∧ V.rangeAt g (off + i * 69) x.cells ∧ Strs w x.la x.ln x.ts) := ⟨hi, hok.1, rangeAt_same (hel i x hx) (HI.out.2.block g hg), hok.2⟩
      have HY : Hid (isPath x.path.data.toList = PB ∧ addB D x = AB ∧ killB D x = KB) := ⟨hPB, hAB, hKB⟩
      have HRB : Hid (((PB && (AB || KB)) && (O.drop (i + 1)).all (opB D)) = B) := by
        have := HI.out.1
        rw [hdr, List.all_cons] at this
        show _ = _
        rw [← this, ← hPB, ← hAB, ← hKB]
        rfl
      have q2 : (i : Int) < (n : Int) := by omega
      obtain ⟨d, hdd⟩ : ∃ d, V.heap.size = d := ⟨_, rfl⟩
      have HDD : Hid (V.heap.size = d) := hdd
      clear hx hg hel hok hdr hi hPB hAB hKB qi
      go_wp2_with (with_reducible change wpList _ _ _ ({ dst := some 25, op := _, type := _, pos := _, after := _, guard := _ } :: _) _ _; refine Hid.out ?_)
      show wpList _ _ _ _ _ _
      refine wpList_load_mid rfl 45 (.tmp 24) rfl g (off + i * 69) rfl x.cells _ HX.out.2.2.1 Tryd.underlying45 rfl (info51 HX.out.2.1) ?_
      go_wp2_with (with_reducible change wpList _ _ _ ({ dst := none, op := Op.store 45 _ _, type := _, pos := _, after := _, guard := _ } :: _) _ _; refine Hid.out ?_)
      show wpList _ _ _ _ _ _
      refine wpList_store_blk rfl 45 (.tmp 6) (.tmp 25) rfl d 0 45 Z x.cells rfl rfl (by rw [← HDD.out]; exact Blk.new V _ _) (by rw [HZL.out, OpV.len HX.out.2.1]; omega) (info51 HX.out.2.1) x.one ?_
      intro W1 hx1 hg1
      have H1 : Hid (Below w.heap.size w W1 ∧ OpB W1 d x) := ⟨below_tr HI.out.2 (below_gr (below_al V _) hg1.out (by rw [HDD.out]; exact Nat.le_refl _)), ⟨blk_all hx1.out (by rw [HZL.out, OpV.len HX.out.2.1]), HX.out.2.1⟩⟩
      have c1 := H1.out.2.path
      clear hx1 hg1 hdd
      go_wp2_with fail
      refine (path_b x.path PB HY.out.1 W1 HX.out.2.1.2.2.2.2.1).mono ?_
      rintro e W2 ⟨rfl, hb2⟩
      have H2 : Hid (Below w.heap.size w W2 ∧ OpB W2 d x) := ⟨below_tr H1.out.1 hb2, H1.out.2.below hb2⟩
      clear hb2 c1 H1
      cases PB with
      | false =>
        have HF : Hid (B = false) := by show _ = _; rw [← HRB.out]; rfl
        have hBf := HF.out
        subst hBf
        clear HF HRB
        go_wp2
        go_ret
        exact ⟨rfl, H2.out.1⟩
      | true =>
        go_wp2_with (with_reducible change wpList _ _ _ ({ dst := some 31, op := _, type := _, pos := _, after := _, guard := _ } :: _) _ _; refine Hid.out ?_)
        show wpList _ _ _ _ _ _
        refine wpList_load_want rfl 45 (.tmp 6) rfl d 0 rfl x.cells _ H2.out.2.blk.range0 Tryd.underlying45 rfl (info51 HX.out.2.1) ?_
        go_wp2_with fail
        refine (isAdd_is W2 da dn dc D x (HS.out.2.1.below H2.out.1) HX.out.2.1 (HX.out.2.2.2.below H2.out.1) HS.out.2.2.1 AB HY.out.2.1).mono ?_
        rintro e W3 ⟨rfl, hb3⟩
        have H3 : Hid (Below w.heap.size w W3 ∧ OpB W3 d x) := ⟨below_tr H2.out.1 hb3, H2.out.2.below hb3⟩
        clear hb3 H2
        cases AB with
        | true =>
          have HN : Hid ((O.drop (i + 1)).all (opB D) = B ∧ i < n) := ⟨by rw [← HRB.out]; simp, HX.out.1⟩
          clear HRB
          go_wp2
          go_roundw
          case rel => exact ⟨i + 1, by simp, by have := HN.out.2; omega, HN.out.1, H3.out.1⟩
          case measure => have := HN.out.2; simp only [intOf]; omega
        | false =>
          go_wp2_with (with_reducible change wpList _ _ _ ({ dst := some 36, op := _, type := _, pos := _, after := _, guard := _ } :: _) _ _; refine Hid.out ?_)
          show wpList _ _ _ _ _ _
          refine wpList_load_want rfl 45 (.tmp 6) rfl d 0 rfl x.cells _ H3.out.2.blk.range0 Tryd.underlying45 rfl (info51 HX.out.2.1) ?_
          go_wp2_with fail
          refine (isKill_is W3 da dn dc D x (HS.out.2.1.below H3.out.1) HX.out.2.1 HS.out.2.2.1 KB HY.out.2.2).mono ?_
          rintro e W4 ⟨rfl, hb4⟩
          have H4 : Hid (Below w.heap.size w W4) := below_tr H3.out.1 hb4
          clear hb4 H3
          cases KB with
          | true =>
            have HN : Hid ((O.drop (i + 1)).all (opB D) = B ∧ i < n) := ⟨by rw [← HRB.out]; simp, HX.out.1⟩
            clear HRB
            go_wp2
            go_roundw
            case rel => exact ⟨i + 1, by simp, by have := HN.out.2; omega, HN.out.1, H4.out⟩
            case measure => have := HN.out.2; simp only [intOf]; omega
          | false =>
            have HF : Hid (B = false) := by show _ = _; rw [← HRB.out]; rfl
            have hBf := HF.out
            subst hBf
            clear HF HRB
            go_wp2
            go_ret
            exact ⟨rfl, H4.out⟩
    · have q2 : (n : Int) ≤ (i : Int) := by omega
      have HF : Hid (B = true) := by
        have := HI.out.1
        rw [List.drop_eq_nil_iff.2 (by rw [HS.out.1.1]; omega)] at this
        exact this.symm
      have hBf := HF.out
      subst hBf
      clear HF hi
      go_wp2
      go_ret
      exact ⟨rfl, HI.out.2⟩
set_option maxHeartbeats 2000000 in
theorem check_is (w : World) (p : PV) (h : PR w p) (E : Int) (hE : chk p = E) : Calls Tryd.prog 11 #[.agg p.cells.toArray] w fun e w' => e = .returned (iv E) ∧ Below w.heap.size w w' := by
  obtain ⟨HB, hHB⟩ : ∃ b, headB p = b := ⟨_, rfl⟩
  obtain ⟨DB, hDB⟩ : ∃ b, depsB p.D = b := ⟨_, rfl⟩
  obtain ⟨OB, hOB⟩ : ∃ b, opsB p.D p.O = b := ⟨_, rfl⟩
  have HP : Hid (PR w p ∧ headB p = HB ∧ depsB p.D = DB ∧ opsB p.D p.O = OB) := ⟨h, hHB, hDB, hOB⟩
  unfold chk at hE
  rw [hHB, hDB, hOB] at hE
  obtain ⟨d, hd⟩ : ∃ d, w.heap.size = d := ⟨_, rfl⟩
  obtain ⟨W, hW⟩ : ∃ W, w.alloc (.cells p.cells.toArray 25) = W := ⟨_, rfl⟩
  have hk : Blk W d 25 p.cells := by rw [← hW, ← hd]; exact Blk.new w _ _
  have HB0 : Hid (Below w.heap.size w W ∧ Blk W d 25 p.cells) := ⟨by rw [← hW]; exact below_al _ _, hk⟩
  clear h hHB hDB hOB hk
  go_enter Tryd.func11, Tryd.ntmps11
  go_wp2_with (with_reducible change wpList _ _ _ ({ dst := some 4, op := _, type := _, pos := _, after := _, guard := _ } :: _) _ _; refine Hid.out ?_)
  show wpList _ _ _ _ _ _
  refine wpList_load_mid rfl 25 (.tmp 1) rfl d 0 rfl p.cells _ HB0.out.2.range0 Tryd.underlying25 rfl (info25 p) ?_
  go_wp2_with fail
  refine (isHead_is W p (HP.out.1.below HB0.out.1) HB HP.out.2.1).mono ?_
  rintro e W1 ⟨rfl, hb1⟩
  have H1 : Hid (Below w.heap.size w W1 ∧ Blk W1 d 25 p.cells) := ⟨below_tr HB0.out.1 hb1, HB0.out.2.below hb1 HB0.out.2.lt⟩
  clear hb1 hW hd HB0
  cases HB with
  | false =>
    rw [if_pos rfl] at hE
    subst hE
    go_wp2
    go_ret
    exact ⟨rfl, H1.out.1⟩
  | true =>
  rw [if_neg (by decide)] at hE
  have c3 : W1.cell? ⟨d, 3, none⟩ = some (.slice p.da p.dn p.dc) := H1.out.2.cell rfl
  go_wp2_with fail
  refine (areDeps_is W1 p.da p.dn p.dc p.D (HP.out.1.deps.below H1.out.1) HP.out.1.zd DB HP.out.2.2.1).mono ?_
  rintro e W2 ⟨rfl, hb2⟩
  have H2 : Hid (Below w.heap.size w W2 ∧ Blk W2 d 25 p.cells) := ⟨below_tr H1.out.1 hb2, H1.out.2.below hb2 H1.out.2.lt⟩
  clear hb2 H1 c3
  cases DB with
  | false =>
    rw [if_pos rfl] at hE
    subst hE
    go_wp2
    go_ret
    exact ⟨rfl, H2.out.1⟩
  | true =>
  rw [if_neg (by decide)] at hE
  have HDN : Hid (p.dn ≤ 100000) := by
    have h1 := HP.out.2.2.1
    unfold depsB at h1
    rw [Bool.and_eq_true, decide_eq_true_eq, HP.out.1.deps.1] at h1
    show _ ≤ _
    omega
  have c3 : W2.cell? ⟨d, 3, none⟩ = some (.slice p.da p.dn p.dc) := H2.out.2.cell rfl
  have c4 : W2.cell? ⟨d, 4, none⟩ = some (.slice p.oa p.on p.oc) := H2.out.2.cell rfl
  go_wp2_with fail
  refine (areOps_is W2 p.oa p.da p.on p.oc p.dn p.dc p.D p.O (HP.out.1.ops.below H2.out.1) HP.out.1.zo (HP.out.1.deps.below H2.out.1) HDN.out OB HP.out.2.2.2).mono ?_
  rintro e W3 ⟨rfl, hb3⟩
  have H3 : Hid (Below w.heap.size w W3) := below_tr H2.out.1 hb3
  clear hb3 H2 c3 c4
  cases OB with
  | false =>
    rw [if_pos rfl] at hE
    subst hE
    go_wp2
    go_ret
    exact ⟨rfl, H3.out⟩
  | true =>
    rw [if_neg (by decide)] at hE
    subst hE
    go_wp2
    go_ret
    exact ⟨rfl, H3.out⟩
end Go.Proofs.YtgdecjacbkicmaaDoor.Oct
