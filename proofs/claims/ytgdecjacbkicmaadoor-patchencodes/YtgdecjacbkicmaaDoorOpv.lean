/-
  Layer 10 (patch): operations; areFewLines, isKill.
-/
import Derived.Test.YtgdecjacbkicmaaDoorBad
namespace Go.Proofs.YtgdecjacbkicmaaDoor.Oct
open Go.RowKit
set_option maxRecDepth 100000
set_option linter.unusedSimpArgs false
set_option linter.unusedVariables false

/-- an operation -/
structure OpV where
  kind : Int
  path : BA
  up : Vx
  dn : Vx
  la : Option Addr
  ln : Nat
  lc : Nat
  ts : List BA
def OpV.cells (o : OpV) : List Value := [iv o.kind, .string o.path] ++ (o.up.cells ++ (o.dn.cells ++ [.slice o.la o.ln o.lc]))
def OpV.ok (o : OpV) : Prop := o.up.ok ∧ o.dn.ok ∧ o.ts.length = o.ln ∧ o.ln ≤ 140737488355328 ∧ o.path.size ≤ 140737488355328 ∧ (∀ t ∈ o.ts, t.size ≤ 140737488355328) ∧ o.ln ≤ o.lc ∧ o.lc ≤ maxLen
theorem OpV.len {o : OpV} (h : o.ok) : o.cells.length = 69 := by
  unfold OpV.cells
  simp only [List.length_append, Vx.len h.1, Vx.len h.2.1]
  rfl
theorem OpV.one (o : OpV) : ∀ x ∈ o.cells, x.oneCell' = true := by
  intro x hx
  unfold OpV.cells at hx
  rcases List.mem_append.1 hx with h | h
  · rcases List.mem_cons.1 h with rfl | h
    · rfl
    · rw [List.mem_singleton.1 h]; rfl
  · rcases List.mem_append.1 h with h | h
    · exact Vx.one _ x h
    · rcases List.mem_append.1 h with h | h
      · exact Vx.one _ x h
      · rw [List.mem_singleton.1 h]; rfl
theorem OpV.c0 (o : OpV) : o.cells[0]? = some (iv o.kind) := rfl
theorem OpV.c1 (o : OpV) : o.cells[1]? = some (.string o.path) := rfl
theorem OpV.c68 {o : OpV} (h : o.ok) : o.cells[68]? = some (.slice o.la o.ln o.lc) := by
  unfold OpV.cells
  rw [List.getElem?_append_right (by show 2 ≤ 68; omega), List.getElem?_append_right (by rw [Vx.len h.1]; show 33 ≤ 66; omega), Vx.len h.1, List.getElem?_append_right (by rw [Vx.len h.2.1]; show 33 ≤ 33; omega), Vx.len h.2.1]
  rfl
theorem OpV.u2 {o : OpV} (h : o.ok) : (o.cells.drop 2).take 33 = o.up.cells := by
  show (o.up.cells ++ (o.dn.cells ++ [Value.slice o.la o.ln o.lc])).take 33 = _
  rw [List.take_append_of_le_length (by rw [Vx.len h.1]; exact Nat.le_refl _), List.take_of_length_le (by rw [Vx.len h.1]; exact Nat.le_refl _)]
theorem OpV.d35 {o : OpV} (h : o.ok) : (o.cells.drop 35).take 33 = o.dn.cells := by
  have e : o.cells.drop 35 = o.dn.cells ++ [.slice o.la o.ln o.lc] := by
    show (o.up.cells ++ (o.dn.cells ++ [Value.slice o.la o.ln o.lc])).drop 33 = _
    rw [← Vx.len h.1, List.drop_left]
  rw [e, List.take_append_of_le_length (by rw [Vx.len h.2.1]; exact Nat.le_refl _), List.take_of_length_le (by rw [Vx.len h.2.1]; exact Nat.le_refl _)]
theorem info51 {o : OpV} (h : o.ok) : (Tryd.prog.info? 45).map (·.size) = some o.cells.length := by rw [OpV.len h]; show _ = some 69; kernel_rfl
def o00 : OpV := ⟨0, e0, vTop, vTop, none, 0, 0, []⟩
theorem o00_ok : o00.ok := ⟨vTop_ok, vTop_ok, rfl, by show 0 ≤ _; omega, by show 0 ≤ _; omega, (fun t h => by cases h), Nat.le_refl _, by show 0 ≤ maxLen; omega⟩
theorem zero51 : ∃ Z : List Value, (∀ W, (zeroValue 45).run Tryd.prog W = .ok (.agg Z.toArray) W) ∧ Hid (Z = o00.cells) := ⟨o00.cells, fun W => by kernel_rfl, rfl⟩
/-- a block that holds an operation -/
structure OpB (w : World) (d : Nat) (o : OpV) : Prop where
  blk : Blk w d 45 o.cells
  ok : o.ok
theorem OpB.kind {w : World} {d : Nat} {o : OpV} (h : OpB w d o) : w.cell? ⟨d, 0, none⟩ = some (iv o.kind) := h.blk.cell o.c0
theorem OpB.path {w : World} {d : Nat} {o : OpV} (h : OpB w d o) : w.cell? ⟨d, 1, none⟩ = some (.string o.path) := h.blk.cell o.c1
theorem OpB.lines {w : World} {d : Nat} {o : OpV} (h : OpB w d o) : w.cell? ⟨d, 68, none⟩ = some (.slice o.la o.ln o.lc) := h.blk.cell (OpV.c68 h.ok)
theorem OpB.up {w : World} {d : Nat} {o : OpV} (h : OpB w d o) : w.rangeAt d 2 o.up.cells := by have := h.blk.range 2 33; rw [OpV.u2 h.ok] at this; exact this
theorem OpB.dn {w : World} {d : Nat} {o : OpV} (h : OpB w d o) : w.rangeAt d 35 o.dn.cells := by have := h.blk.range 35 33; rw [OpV.d35 h.ok] at this; exact this
theorem OpB.below {w w' : World} {d : Nat} {o : OpV} (h : OpB w d o) (hb : Below w.heap.size w w') : OpB w' d o := ⟨h.blk.below hb h.blk.lt, h.ok⟩
/-- operations that are read -/
def OpsR (w : World) (a : Option Addr) (n : Nat) (O : List OpV) : Prop :=
  O.length = n ∧ (∀ o ∈ O, o.ok ∧ Strs w o.la o.ln o.ts) ∧ (0 < n → ∃ g off, a = some ⟨g, off, none⟩ ∧ g < w.heap.size ∧ ∀ i o, O[i]? = some o → w.rangeAt g (off + i * 69) o.cells)
theorem OpsR.below {w w' : World} {a : Option Addr} {n : Nat} {O : List OpV} (h : OpsR w a n O) (hb : Below w.heap.size w w') : OpsR w' a n O := by
  refine ⟨h.1, fun o ho => ⟨(h.2.1 o ho).1, (h.2.1 o ho).2.below hb⟩, fun hp => ?_⟩
  obtain ⟨g, off, e, h1, h2⟩ := h.2.2 hp
  exact ⟨g, off, e, Nat.lt_of_lt_of_le h1 hb.size, fun i x hx => rangeAt_same (h2 i x hx) (hb.block g h1)⟩
def many (O : List OpV) : Nat := (O.map (·.ln)).sum
theorem many_take (O : List OpV) (i : Nat) (o : OpV) (h : O[i]? = some o) : many (O.take (i + 1)) = many (O.take i) + o.ln := by
  unfold many
  rw [List.take_add_one, h]
  simp
theorem many_le (O : List OpV) (i : Nat) : many (O.take i) ≤ many O := by
  unfold many
  conv => rhs; rw [← List.take_append_drop i O]
  rw [List.map_append, List.sum_append]
  exact Nat.le_add_right _ _
theorem wpList_eqV {ops : Array Oper} {rest : List Oper} {o : Oper} {a : Act} {w : World} {Q : Exit → Act → World → Prop} (hw : Region.wanted o (yielded ops a.tmps) = true) (p q : Operand) (hop : o.op = .binOp .eql 42 p q 42) (x y : Vx) (hx : x.ok) (hy : y.ok) (B : Bool) (hB : eqVx x y = B) (h1 : a.eval p = .agg x.cells.toArray) (h2 : a.eval q = .agg y.cells.toArray)
    (h : wpList Tryd.prog ops Q rest (a.put o.dst (.bool B)) w) : wpList Tryd.prog ops Q (o :: rest) a w := by
  refine Go.BigFrame.wpList_want hw fun K hK => ?_
  have he := eqVb x y hx hy w
  rw [hB] at he
  have hg : (eqGuard BinOp.eql 42 p q (.agg x.cells.toArray) (.agg y.cells.toArray)).run Tryd.prog w = .ok () w := by
    first
    | (simp [eqGuard, go_sem]; done)
    | (unfold eqGuard; simp [go_sem, Tryd.underlying42]; done)
    | (unfold eqGuard; go_simp; done)
  unfold Oper.wp execOp
  simp only [hop, h1, h2, Sem.run_bind, Sem.run_pure, hg, Result.andThen_ok, he]
  exact hK _ _ h
theorem yl_eqV {o : Oper} {a : Act} (V : World) (p q : Operand) (x y : Vx) (hx : x.ok) (hy : y.ok) (B : Bool) (hB : eqVx x y = B) (hop : o.op = .binOp .eql 42 p q 42) (h1 : a.eval p = .agg x.cells.toArray) (h2 : a.eval q = .agg y.cells.toArray) : (execOp a.eval o).run Tryd.prog V = .ok (.value (.bool B)) V := by
  have h := eqVb x y hx hy V
  rw [hB] at h
  unfold execOp
  simp only [hop, h1, h2, Sem.run_bind, Sem.run_pure]
  have hg : (eqGuard BinOp.eql 42 p q (.agg x.cells.toArray) (.agg y.cells.toArray)).run Tryd.prog V = .ok () V := by
    first
    | (simp [eqGuard, go_sem]; done)
    | (unfold eqGuard; simp [go_sem, Tryd.underlying42]; done)
    | (unfold eqGuard; go_simp; done)
  rw [hg]
  simp only [Result.andThen_ok, h]
theorem yl_neV {o : Oper} {a : Act} (V : World) (p q : Operand) (x y : Vx) (hx : x.ok) (hy : y.ok) (B : Bool) (hB : (!eqVx x y) = B) (hop : o.op = .binOp .neq 42 p q 42) (h1 : a.eval p = .agg x.cells.toArray) (h2 : a.eval q = .agg y.cells.toArray) : (execOp a.eval o).run Tryd.prog V = .ok (.value (.bool B)) V := by
  have h := neVb x y hx hy V
  rw [hB] at h
  unfold execOp
  simp only [hop, h1, h2, Sem.run_bind, Sem.run_pure]
  have hg : (eqGuard BinOp.neq 42 p q (.agg x.cells.toArray) (.agg y.cells.toArray)).run Tryd.prog V = .ok () V := by
    first
    | (simp [eqGuard, go_sem]; done)
    | (unfold eqGuard; simp [go_sem, Tryd.underlying42]; done)
    | (unfold eqGuard; go_simp; done)
  rw [hg]
  simp only [Result.andThen_ok, h]
theorem yl_eqI {o : Oper} {a : Act} (V : World) (p q : Operand) (x y : Int) (B : Bool) (hB : (x == y) = B) (hop : o.op = .binOp .eql 3 p q 3) (h1 : a.eval p = iv x) (h2 : a.eval q = iv y) : (execOp a.eval o).run Tryd.prog V = .ok (.value (.bool B)) V := by
  subst hB
  unfold execOp
  simp only [hop, h1, h2, Sem.run_bind, Sem.run_pure]
  first
  | (simp [eqGuard, go_sem, Tryd.underlying3]; done)
  | (go_simp; done)
set_option maxHeartbeats 1000000 in
theorem fewLines_is (w : World) (a : Option Addr) (n c : Nat) (O : List OpV) (h : OpsR w a n O) (hn : n ≤ 16) (B : Bool) (hB : decide (many O ≤ 64) = B) :
    Calls Tryd.prog 37 #[.slice a n c] w fun e w' => e = .returned (.bool B) ∧ Below w.heap.size w w' := by
  have HS : Hid (OpsR w a n O ∧ decide (many O ≤ 64) = B) := ⟨h, hB⟩
  have qn : (n : Int) ≤ 16 := by omega
  obtain ⟨Z, hZ, HZ⟩ := zero51
  have HZL : Hid (Z.length = 69) := by show _ = _; rw [HZ.out]; exact OpV.len o00_ok
  clear h hB hn HZ
  go_enter Tryd.func37, Tryd.ntmps37
  go_wp2
  go_loopw [8, 3] (fun u s wr => ∃ i m : Nat, u = iv (i : Int) ∧ s = iv (64 - (m : Int)) ∧ (i : Int) ≤ (n : Int) ∧ (m : Int) ≤ 64 ∧ Hid (many (O.take i) = m ∧ Below w.heap.size w wr)) (fun u _ _ => n - (intOf u).toNat)
  case atStart => exact ⟨0, 0, rfl, rfl, by omega, by omega, rfl, Below.refl _ _⟩
  case round =>
    obtain ⟨V, hV⟩ : ∃ V, V = wr := ⟨_, rfl⟩
    subst hV
    obtain ⟨i, m, rfl, rfl, qi, qm, HI⟩ := hrel
    by_cases hi : i < n
    · obtain ⟨x, hx⟩ : ∃ x, O[i]? = some x := ⟨_, List.getElem?_eq_getElem (by rw [HS.out.1.1]; exact hi)⟩
      obtain ⟨g, off, rfl, hg, hel⟩ := HS.out.1.2.2 (by omega)
      have hok := (HS.out.1.2.1 x (List.mem_of_getElem? hx)).1
      have HX : Hid (i < n ∧ O[i]? = some x ∧ x.ok ∧ V.rangeAt g (off + i * 69) x.cells) := ⟨hi, hx, hok, rangeAt_same (hel i x hx) (HI.out.2.block g hg)⟩
      have q1 : (i : Int) < (n : Int) := by omega
      have qx : (x.ln : Int) ≤ 140737488355328 := by have := hok.2.2.2.1; omega
      obtain ⟨d, hd⟩ : ∃ d, V.heap.size = d := ⟨_, rfl⟩
      have HD : Hid (V.heap.size = d) := hd
      clear hel hx hg hi qi hok
      go_wp2_with (with_reducible change wpList _ _ _ ({ dst := some 11, op := _, type := _, pos := _, after := _, guard := _ } :: _) _ _; refine Hid.out ?_)
      show wpList _ _ _ _ _ _
      refine wpList_load_mid rfl 45 (.tmp 10) rfl g (off + i * 69) rfl x.cells _ HX.out.2.2.2 Tryd.underlying45 rfl (info51 HX.out.2.2.1) ?_
      go_wp2_with (with_reducible change wpList _ _ _ ({ dst := none, op := Op.store 45 _ _, type := _, pos := _, after := _, guard := _ } :: _) _ _; refine Hid.out ?_)
      show wpList _ _ _ _ _ _
      refine wpList_store_blk rfl 45 (.tmp 5) (.tmp 11) rfl d 0 45 Z x.cells rfl rfl (by rw [← HD.out]; exact Blk.new V _ _) (by rw [HZL.out, OpV.len HX.out.2.2.1]; omega) (info51 HX.out.2.2.1) x.one ?_
      intro W1 hx1 hg1
      have H1 : Hid (Below w.heap.size w W1 ∧ OpB W1 d x) := ⟨below_tr HI.out.2 (below_gr (below_al V _) hg1.out (by rw [HD.out]; exact Nat.le_refl _)), ⟨blk_all hx1.out (by rw [HZL.out, OpV.len HX.out.2.2.1]), HX.out.2.2.1⟩⟩
      have c1 := H1.out.2.lines
      clear hx1 hg1 hd
      have hmt := many_take O i x HX.out.2.1
      rw [HI.out.1] at hmt
      by_cases hq : (64 - (m : Int)) < (x.ln : Int)
      · have HF : Hid (B = false) := by
          show _ = _
          rw [← HS.out.2]
          exact decide_eq_false (by have := many_le O (i + 1); omega)
        have hBf := HF.out
        subst hBf
        clear HF hmt
        go_wp2
        go_ret
        exact ⟨rfl, H1.out.1⟩
      · have q2 : (x.ln : Int) ≤ 64 - (m : Int) := by omega
        have HN : Hid (many (O.take (i + 1)) = m + x.ln ∧ Below w.heap.size w W1 ∧ i < n ∧ m + x.ln ≤ 64) := ⟨hmt, H1.out.1, HX.out.1, by omega⟩
        clear hmt hq
        go_wp2
        go_roundw
        case rel => exact ⟨i + 1, m + x.ln, by simp, by first | (congr 1; done) | (congr 1; omega), by have := HN.out; omega, by have := HN.out; omega, HN.out.1, HN.out.2.1⟩
        case measure => have := HN.out; simp only [intOf]; omega
    · have q1 : (n : Int) ≤ (i : Int) := by omega
      have HF : Hid (B = true) := by
        show _ = _
        rw [← HS.out.2]
        have h1 := HI.out.1
        rw [List.take_of_length_le (by rw [HS.out.1.1]; omega)] at h1
        exact decide_eq_true (by omega)
      have hBf := HF.out
      subst hBf
      clear HF hi
      go_wp2
      go_ret
      exact ⟨rfl, HI.out.2⟩
def killB (D : List Hs) (o : OpV) : Bool := decide (o.kind = 2) && (lineOf D o.up && (eqVx o.dn vTop && decide (o.ln = 0)))
set_option maxHeartbeats 2000000 in
theorem isKill_is (w : World) (a : Option Addr) (n c : Nat) (D : List Hs) (o : OpV) (hr : HsR w a n D) (ho : o.ok) (hn : n ≤ 100000) (B : Bool) (hB : killB D o = B) :
    Calls Tryd.prog 40 #[.agg o.cells.toArray, .slice a n c] w fun e w' => e = .returned (.bool B) ∧ Below w.heap.size w w' := by
  obtain ⟨LO, hLO⟩ : ∃ M, lineOf D o.up = M := ⟨_, rfl⟩
  obtain ⟨E, hE⟩ : ∃ M, eqVx o.dn vTop = M := ⟨_, rfl⟩
  have HPP : Hid (lineOf D o.up = LO ∧ HsR w a n D ∧ o.ok ∧ n ≤ 100000 ∧ eqVx o.dn vTop = E) := ⟨hLO, hr, ho, hn, hE⟩
  unfold killB at hB
  rw [hLO, hE] at hB
  obtain ⟨d, hd⟩ : ∃ d, w.heap.size = d := ⟨_, rfl⟩
  obtain ⟨W, hW⟩ : ∃ W, w.alloc (.cells o.cells.toArray 45) = W := ⟨_, rfl⟩
  have hk : OpB W d o := ⟨by rw [← hW, ← hd]; exact Blk.new w _ _, ho⟩
  have c0 := hk.kind
  have HB0 : Hid (Below w.heap.size w W ∧ OpB W d o) := ⟨by rw [← hW]; exact below_al _ _, hk⟩
  obtain ⟨kd, hkd⟩ : ∃ m, o.kind = m := ⟨_, rfl⟩
  rw [hkd] at hB c0
  have HBL := built49
  have qln : (o.ln : Int) ≤ 140737488355328 := by have := ho.2.2.2.1; omega
  clear hr hn hLO hE hk ho hkd
  by_cases h1 : kd = 2
  · subst h1
    rw [decide_eq_true rfl, Bool.true_and] at hB
    go_enter Tryd.func40, Tryd.ntmps40
    go_wp2_with (with_reducible change wpList _ _ _ ({ dst := some 11, op := _, type := _, pos := _, after := _, guard := _ } :: _) _ _; refine Hid.out ?_)
    show wpList _ _ _ _ _ _
    refine wpList_load_want rfl 42 (.tmp 10) rfl d 2 rfl o.up.cells _ HB0.out.2.up Tryd.underlying42 rfl (info49 HPP.out.2.2.1.1) ?_
    go_wp2_with fail
    refine (isLineOf_is W a n c D o.up (HPP.out.2.1.below HB0.out.1) HPP.out.2.2.1.1 HPP.out.2.2.2.1 LO HPP.out.1).mono ?_
    rintro e W1 ⟨rfl, hb1⟩
    have H1 : Hid (Below w.heap.size w W1 ∧ OpB W1 d o) := ⟨below_tr HB0.out.1 hb1, HB0.out.2.below hb1⟩
    have c68 := H1.out.2.lines
    clear hb1 hW hd c0
    cases LO with
    | false =>
      rw [Bool.false_and] at hB
      subst hB
      go_wp2
      go_ret
      exact ⟨rfl, H1.out.1⟩
    | true =>
      rw [Bool.true_and] at hB
      go_wp2_with (with_reducible change wpList _ _ _ ({ dst := some 16, op := _, type := _, pos := _, after := _, guard := _ } :: _) _ _; refine Hid.out ?_)
      show wpList _ _ _ _ _ _
      refine wpList_load_want rfl 42 (.tmp 15) rfl d 35 rfl o.dn.cells _ H1.out.2.dn Tryd.underlying42 rfl (info49 HPP.out.2.2.1.2.1) ?_
      go_wp2_with (with_reducible change wpList _ _ _ ({ dst := some 17, op := _, type := _, pos := _, after := _, guard := _ } :: _) _ _; refine Hid.out ?_)
      show wpList _ _ _ _ _ _
      refine wpList_built_want rfl 42 _ rfl vTop.cells.toArray (by rw [← HBL]; simp) ?_
      go_wp2_with (with_reducible change wpList _ _ _ ({ dst := some 18, op := _, type := _, pos := _, after := _, guard := _ } :: _) _ _; refine Hid.out ?_)
      show wpList _ _ _ _ _ _
      refine wpList_eqV rfl (.tmp 16) (.tmp 17) rfl o.dn vTop HPP.out.2.2.1.2.1 vTop_ok E HPP.out.2.2.2.2 rfl rfl ?_
      cases E with
      | false =>
        rw [Bool.false_and] at hB
        subst hB
        go_wp2
        go_ret
        exact ⟨rfl, H1.out.1⟩
      | true =>
        rw [Bool.true_and] at hB
        have hB' : ((o.ln : Int) == 0) = B := by
          rw [← hB, Bool.eq_iff_iff]
          simp
        clear hB
        go_wp2
        go_ret
        exact ⟨by first | rfl | rw [hB'], H1.out.1⟩
  · have e1 : (kd == 2) = false := by rw [beq_eq_false_iff_ne]; exact h1
    rw [decide_eq_false h1, Bool.false_and] at hB
    subst hB
    clear h1
    go_enter Tryd.func40, Tryd.ntmps40
    go_wp2
    go_ret
    exact ⟨rfl, HB0.out.1⟩
end Go.Proofs.YtgdecjacbkicmaaDoor.Oct
