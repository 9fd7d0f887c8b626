/-
  Layer 10 (patch): the writer: vertices and operations.
-/
import Derived.Test.YtgdecjacbkicmaaWrt
namespace Go.Proofs.Ytgdecjacbkicmaa.Oct
open Go.RowKit
set_option maxRecDepth 100000
set_option linter.unusedSimpArgs false
set_option linter.unusedVariables false

def encV (D : List Hs) (v : Vx) : List UInt8 := if eqVx v vTop = true then [0] else if eqVx v vBot = true then [1] else 2 :: (enc (placeOf v.h D).toNat ++ enc v.n.toNat)
def encO (D : List Hs) (o : OpV) : List UInt8 := UInt8.ofNat o.kind.toNat :: (encT o.path ++ (encV D o.up ++ (if o.kind = 1 then encV D o.dn ++ (enc o.ln ++ o.ts.flatMap encT) else [])))
theorem encT_len (s : BA) (h : s.size ≤ 1000000) : (encT s).length ≤ s.size + 10 := by
  unfold encT
  rw [List.length_append]
  have := enc_ten s.size (by omega)
  have e : s.data.toList.length = s.size := rfl
  omega
theorem line_of {D : List Hs} {v : Vx} (h : lineOf D v = true) : 0 ≤ v.n ∧ v.n < 64 ∧ v.h ∈ D := by
  unfold lineOf at h
  simpa using h
theorem place_nat {D : List Hs} {h : Hs} (hm : h ∈ D) : ∃ k : Nat, placeOf h D = (k : Int) ∧ k < D.length ∧ D[k]? = some h := by
  unfold placeOf
  cases hf : D.findIdx? (· == h) with
  | none =>
    rw [List.findIdx?_eq_none_iff] at hf
    have := hf h hm
    simp at this
  | some k =>
    obtain ⟨hk, h1, _⟩ := List.findIdx?_eq_some_iff_getElem.1 hf
    exact ⟨k, rfl, hk, by rw [List.getElem?_eq_getElem hk]; simpa using h1⟩
theorem encV_len (D : List Hs) (v : Vx) (hD : D.length ≤ 100000) (h : eqVx v vTop = true ∨ eqVx v vBot = true ∨ lineOf D v = true) : (encV D v).length ≤ 21 := by
  unfold encV
  split
  · simp
  · split
    · simp
    · rename_i h1 h2
      have hl := h.resolve_left h1 |>.resolve_left h2
      obtain ⟨a1, a2, a3⟩ := line_of hl
      obtain ⟨k, hk, hk2, _⟩ := place_nat a3
      rw [hk, List.length_cons, List.length_append]
      have := enc_ten k (by omega)
      have := enc_ten v.n.toNat (by omega)
      simp only [Int.toNat_natCast]
      omega
theorem yl_ld {o : Oper} {a : Act} (V : World) (ty : TypeId) (x : Operand) (hop : o.op = .load ty x) (b p : Nat) (hx : a.eval x = .pointer (some ⟨b, p, none⟩)) (cs : List Value) (d : TypeDesc) (hr : V.rangeAt b p cs) (hu : Try.prog.underlying ty = some d) (hd : d.isRow = true) (hi : (Try.prog.info? ty).map (·.size) = some cs.length) :
    (execOp a.eval o).run Try.prog V = .ok (.value (.agg cs.toArray)) V := by
  unfold execOp
  simp only [hop, hx, Instr.loadAt, Instr.sureAddr, Sem.run_bind, Sem.run_pure, Result.andThen_ok, run_loadVar_mid V b p ty cs d hr hu hd hi]
theorem Wr.c1 {B : Nat} {w : World} {g : Nat} {dv : Value} {M : List UInt8} (h : Wr B w g dv M) : w.cell? ⟨g, 1, none⟩ = some dv := by
  obtain ⟨_, _, _, h1, _⟩ := h.own
  exact h1.cell rfl
set_option maxRecDepth 100000 in
set_option maxHeartbeats 4000000 in
theorem vx3 {Q : Exit → Act → World → Prop} {x1 x2 x4 x5 x6 x7 x8 x9 x10 x11 x12 x13 x14 x15 x16 x17 x18 x19 x20 x21 x22 x23 x24 x25 x26 x27 x28 x29 : Value} {ds : List Deferred} {A : World} {B g d dn dc k : Nat} {da : Option Addr} {M : List UInt8} {v : Vx}
    (HX : Hid (B ≤ g ∧ B ≤ A.heap.size)) (HV : Hid v.ok) (HM : Hid (M.length ≤ 1000000 ∧ k ≤ 4611686018427387904)) (HWr : Hid (Wr B A g (.slice da dn dc) M)) (HBk : Hid (Blk A d 49 v.cells)) (HC : Hid (∀ V, Fr B A V → Calls Try.prog 109 #[.slice da dn dc, .agg (U v.h).toArray] V fun e V2 => e = .returned (iv (k : Int)) ∧ Below V.heap.size V V2))
    (hQ : ∀ V1 rv, Wr B V1 g (.slice da dn dc) (M ++ enc k) → Fr B A V1 → Q .normal { tmps := #[.pointer (some ⟨g, 0, none⟩), x1, x2, .pointer (some ⟨d, 0, none⟩), x4, x5, x6, .pointer (some ⟨g, 0, none⟩), .pointer (some ⟨g, 0, none⟩), .pointer (some ⟨g, 0, none⟩), .pointer (some ⟨g, 1, none⟩), .slice da dn dc, .pointer (some ⟨d, 0, none⟩), .agg (U v.h).toArray, iv (k : Int), rv, x16, x17, x18, x19, x20, x21, x22, x23, x24, x25, x26, x27, x28, x29], defers := ds } V1) :
    (Code.region 3 #[{ dst := some 7, op := Op.move (Operand.tmp 0), type := 95, pos := "code.go:68", after := #[], guard := none }, { dst := some 8, op := Op.move (Operand.tmp 0), type := 95, pos := "code.go:68", after := #[], guard := none }, { dst := some 9, op := Op.nilCheck (Operand.tmp 8), type := 0, pos := "code.go:68", after := #[{ on := 1, ground := Ground.data }], guard := none }, { dst := some 10, op := Op.fieldAddr 71 (Operand.tmp 9) 1, type := 0, pos := "code.go:68", after := #[{ on := 2, ground := Ground.data }], guard := none }, { dst := some 11, op := Op.load 22 (Operand.tmp 10), type := 22, pos := "code.go:68", after := #[{ on := 3, ground := Ground.data }], guard := none }, { dst := some 12, op := Op.fieldAddr 49 (Operand.tmp 3) 0, type := 0, pos := "code.go:68", after := #[], guard := none }, { dst := some 13, op := Op.load 47 (Operand.tmp 12), type := 47, pos := "code.go:68", after := #[{ on := 5, ground := Ground.data }], guard := none }, { dst := some 14, op := Op.call { callee := Callee.value (Operand.func 109), args := #[Operand.tmp 11, Operand.tmp 13], argTypes := #[22, 47] }, type := 3, pos := "code.go:68", after := #[{ on := 4, ground := Ground.data }, { on := 6, ground := Ground.data }], guard := none }, { dst := some 15, op := Op.call { callee := Callee.value (Operand.func 63), args := #[Operand.tmp 7, Operand.tmp 14], argTypes := #[95, 3] }, type := 0, pos := "code.go:68", after := #[{ on := 0, ground := Ground.data }, { on := 7, ground := Ground.data }, { on := 7, ground := Ground.chain }], guard := none }] true).wp Try.prog Q { tmps := #[.pointer (some ⟨g, 0, none⟩), x1, x2, .pointer (some ⟨d, 0, none⟩), x4, x5, x6, x7, x8, x9, x10, x11, x12, x13, x14, x15, x16, x17, x18, x19, x20, x21, x22, x23, x24, x25, x26, x27, x28, x29], defers := ds } A := by
  refine Code.wp_mono (Q := fun x a' w' => match x with | .normal => Q .normal a' w' | _ => False) (by intro x a' w' h; cases x <;> first | exact h | exact h.elim) ?_
  refine wp_region_held (S := fun V => Fr B A V ∧ V.cell? ⟨g, 1, none⟩ = some (.slice da dn dc)) (by kernel_rfl) ?_
  have hS0 : Hid (Fr B A A.drew ∧ A.drew.cell? ⟨g, 1, none⟩ = some (.slice da dn dc)) := ⟨Fr.of_below (below_drew0 A) HX.out.2, HWr.out.c1⟩
  change wpAnyH Try.prog .any _ _ (fun V => Fr B A V ∧ V.cell? ⟨g, 1, none⟩ = some (.slice da dn dc)) 9 (Array.replicate 9 false) _ A.drew
  obtain ⟨V0, hV0⟩ : ∃ V0, A.drew = V0 := ⟨_, rfl⟩
  rw [hV0]
  rw [hV0] at hS0
  have hW0 : Hid (Wr B V0 g (.slice da dn dc) M) := by rw [← hV0]; exact HWr.out.below (below_drew0 A)
  clear hV0
  refine wpAnyH_take (i := 0) (oi := { dst := some 7, op := Op.move (Operand.tmp 0), type := 95, pos := "code.go:68", after := #[], guard := none }) (v := .pointer (some ⟨g, 0, none⟩)) rfl (by kernel_rfl) (by kernel_rfl) (by kernel_rfl) (fun _ _ _ h => h.elim) (Or.inl ⟨by rfl, ?y1⟩) hS0.out ?_
  case y1 =>
    intro V hV
    go_simp
  simp only [Act.put, List.setIfInBounds_toArray, List.set_cons_zero, List.set_cons_succ]
  refine wpAnyH_take (i := 1) (oi := { dst := some 8, op := Op.move (Operand.tmp 0), type := 95, pos := "code.go:68", after := #[], guard := none }) (v := .pointer (some ⟨g, 0, none⟩)) rfl (by kernel_rfl) (by kernel_rfl) (by kernel_rfl) (fun _ _ _ h => h.elim) (Or.inl ⟨by rfl, ?y2⟩) hS0.out ?_
  case y2 =>
    intro V hV
    go_simp
  simp only [Act.put, List.setIfInBounds_toArray, List.set_cons_zero, List.set_cons_succ]
  refine wpAnyH_take (i := 2) (oi := { dst := some 9, op := Op.nilCheck (Operand.tmp 8), type := 0, pos := "code.go:68", after := #[{ on := 1, ground := Ground.data }], guard := none }) (v := .pointer (some ⟨g, 0, none⟩)) rfl (by kernel_rfl) (by kernel_rfl) (by kernel_rfl) (fun _ _ _ h => h.elim) (Or.inl ⟨by rfl, ?y3⟩) hS0.out ?_
  case y3 =>
    intro V hV
    go_simp
  simp only [Act.put, List.setIfInBounds_toArray, List.set_cons_zero, List.set_cons_succ]
  refine wpAnyH_take (i := 3) (oi := { dst := some 10, op := Op.fieldAddr 71 (Operand.tmp 9) 1, type := 0, pos := "code.go:68", after := #[{ on := 2, ground := Ground.data }], guard := none }) (v := .pointer (some ⟨g, 1, none⟩)) rfl (by kernel_rfl) (by kernel_rfl) (by kernel_rfl) (fun _ _ _ h => h.elim) (Or.inl ⟨by rfl, ?y4⟩) hS0.out ?_
  case y4 =>
    intro V hV
    go_simp
  simp only [Act.put, List.setIfInBounds_toArray, List.set_cons_zero, List.set_cons_succ]
  refine wpAnyH_take (i := 4) (oi := { dst := some 11, op := Op.load 22 (Operand.tmp 10), type := 22, pos := "code.go:68", after := #[{ on := 3, ground := Ground.data }], guard := none }) (v := .slice da dn dc) rfl (by kernel_rfl) (by kernel_rfl) (by kernel_rfl) (fun _ _ _ h => h.elim) (Or.inl ⟨by rfl, ?y5⟩) hS0.out ?_
  case y5 =>
    intro V hV
    have hc : V.cell? ⟨g, 1, none⟩ = some (.slice da dn dc) := (show Fr B A V ∧ V.cell? ⟨g, 1, none⟩ = some (.slice da dn dc) from hV).2
    go_simp
  simp only [Act.put, List.setIfInBounds_toArray, List.set_cons_zero, List.set_cons_succ]
  refine wpAnyH_take (i := 5) (oi := { dst := some 12, op := Op.fieldAddr 49 (Operand.tmp 3) 0, type := 0, pos := "code.go:68", after := #[], guard := none }) (v := .pointer (some ⟨d, 0, none⟩)) rfl (by kernel_rfl) (by kernel_rfl) (by kernel_rfl) (fun _ _ _ h => h.elim) (Or.inl ⟨by rfl, ?y6⟩) hS0.out ?_
  case y6 =>
    intro V hV
    go_simp
  simp only [Act.put, List.setIfInBounds_toArray, List.set_cons_zero, List.set_cons_succ]
  refine wpAnyH_take (i := 6) (oi := { dst := some 13, op := Op.load 47 (Operand.tmp 12), type := 47, pos := "code.go:68", after := #[{ on := 5, ground := Ground.data }], guard := none }) (v := .agg (U v.h).toArray) rfl (by kernel_rfl) (by kernel_rfl) (by kernel_rfl) (fun _ _ _ h => h.elim) (Or.inl ⟨by rfl, ?y7⟩) hS0.out ?_
  case y7 =>
    intro V hV
    have hV1 : Fr B A V := (show Fr B A V ∧ V.cell? ⟨g, 1, none⟩ = some (.slice da dn dc) from hV).1
    have hr : V.rangeAt d 0 (U v.h) := by have h := (HBk.out.fr hV1 (by decide) (by decide)).range 0 32; rw [List.drop_zero, Vx.hash HV.out] at h; exact h
    exact yl_ld V 47 (.tmp 12) rfl d 0 rfl (U v.h) _ hr Try.underlying47 rfl (info47 _ HV.out)
  simp only [Act.put, List.setIfInBounds_toArray, List.set_cons_zero, List.set_cons_succ]
  refine wpAnyH_ready (rs := [7]) (by kernel_rfl) (by simp) (AllReadyH.cons (i := 7) (o := { dst := some 14, op := Op.call { callee := Callee.value (Operand.func 109), args := #[Operand.tmp 11, Operand.tmp 13], argTypes := #[22, 47] }, type := 3, pos := "code.go:68", after := #[{ on := 4, ground := Ground.data }, { on := 6, ground := Ground.data }], guard := none }) rfl ?_ AllReadyH.nil)
  · intro K1 hK1
    rw [if_pos (by rfl)]
    have HC1 := HC.out V0 hS0.out.1
    go_wp2_with fail
    refine HC1.mono ?_
    rintro e V1 ⟨rfl, hb1⟩
    dsimp only
    clear HC1
    have hW1 : Hid (Wr B V1 g (.slice da dn dc) M) := hW0.out.below hb1
    have hS1 : Hid (Fr B A V1 ∧ V1.cell? ⟨g, 1, none⟩ = some (.slice da dn dc)) := ⟨hS0.out.1.trans (Fr.of_below hb1 (Nat.le_trans HX.out.2 hS0.out.1.size)), hW1.out.c1⟩
    clear hb1
    refine hK1.out _ _ hS1.out ?_
    clear hK1
    intro _
    try simp only [Act.put, List.setIfInBounds_toArray, List.set_cons_zero, List.set_cons_succ]
    refine wpAnyH_ready (rs := [8]) (by kernel_rfl) (by simp) (AllReadyH.cons (i := 8) (o := { dst := some 15, op := Op.call { callee := Callee.value (Operand.func 63), args := #[Operand.tmp 7, Operand.tmp 14], argTypes := #[95, 3] }, type := 0, pos := "code.go:68", after := #[{ on := 0, ground := Ground.data }, { on := 7, ground := Ground.data }, { on := 7, ground := Ground.chain }], guard := none }) rfl ?_ AllReadyH.nil)
    · intro K1 hK1
      rw [if_pos (by rfl)]
      have HC2 := number_w hW1.out k HM.out.1 HM.out.2
      go_wp2_with fail
      refine HC2.mono ?_
      rintro e V2 ⟨⟨rv, rfl⟩, hw2, hf2⟩
      dsimp only
      clear HC2
      have hS2 : Hid ((Fr B A V2 ∧ V2.cell? ⟨g, 1, none⟩ = some (.slice da dn dc)) ∧ Wr B V2 g (.slice da dn dc) (M ++ enc k)) := ⟨⟨hS1.out.1.trans hf2, hw2.c1⟩, hw2⟩
      clear hw2 hf2
      refine hK1.out _ _ hS2.out.1 ?_
      clear hK1
      intro _
      try simp only [Act.put, List.setIfInBounds_toArray, List.set_cons_zero, List.set_cons_succ]
      refine wpAnyH_done (by kernel_rfl) ?_ _
      exact hQ V2 rv hS2.out.2 hS2.out.1.1
#print axioms vx3
set_option maxHeartbeats 2000000 in
theorem vertex_is {B : Nat} {w : World} {g : Nat} {da : Option Addr} {dn dc : Nat} {M : List UInt8} (h : Wr B w g (.slice da dn dc) M) (D : List Hs) (hD : ∀ V, Below B w V → HsR V da dn D) (hdn : dn ≤ 100000) (v : Vx) (hv : v.ok) (hL : eqVx v vTop = true ∨ eqVx v vBot = true ∨ lineOf D v = true) (hM : M.length ≤ 900000) (R : List UInt8) (hR : encV D v = R) :
    Calls Try.prog 91 #[.pointer (some ⟨g, 0, none⟩), .agg v.cells.toArray] w (WrP B g (.slice da dn dc) (M ++ R) w) := by
  have HP : Hid ((∀ V, Below B w V → HsR V da dn D) ∧ dn ≤ 100000 ∧ v.ok ∧ (eqVx v vTop = true ∨ eqVx v vBot = true ∨ lineOf D v = true) ∧ M.length ≤ 900000 ∧ B ≤ w.heap.size) := ⟨hD, hdn, hv, hL, hM, h.lt.2⟩
  obtain ⟨d, hd⟩ : ∃ d, w.heap.size = d := ⟨_, rfl⟩
  obtain ⟨W, hW⟩ : ∃ W, w.alloc (.cells v.cells.toArray 49) = W := ⟨_, rfl⟩
  have hbw : Below w.heap.size w W := by rw [← hW]; exact below_al _ _
  have hk : Blk W d 49 v.cells := by rw [← hW, ← hd]; exact Blk.new w _ _
  have c32 : W.cell? ⟨d, 32, none⟩ = some (iv v.n) := hk.cell (Vx.line hv)
  have H0 : Hid (Fr B w W ∧ Blk W d 49 v.cells ∧ Wr B W g (.slice da dn dc) M) := ⟨Fr.of_below hbw h.lt.2, hk, h.below hbw⟩
  clear h hD hdn hv hL hM hbw hk c32
  go_enter Try.func91, Try.ntmps91
  go_wp2_with (with_reducible change wpList _ _ _ ({ dst := some 4, op := _, type := _, pos := _, after := _, guard := _ } :: _) _ _; refine Hid.out ?_)
  show wpList _ _ _ _ _ _
  refine wpList_load_mid rfl 49 (.tmp 3) rfl d 0 rfl v.cells _ H0.out.2.1.range0 Try.underlying49 rfl (info49 HP.out.2.2.1) ?_
  go_wp2_with fail
  refine (top_is W _ rfl).mono ?_
  rintro e W1 ⟨rfl, hb1⟩
  have H1 : Hid (Fr B w W1 ∧ Blk W1 d 49 v.cells ∧ Wr B W1 g (.slice da dn dc) M) := ⟨H0.out.1.trans (Fr.of_below hb1 H0.out.2.2.lt.2), H0.out.2.1.below hb1 H0.out.2.1.lt, H0.out.2.2.below hb1⟩
  clear hb1 hW hd H0
  obtain ⟨T1, hT1⟩ : ∃ b, eqVx v vTop = b := ⟨_, rfl⟩
  obtain ⟨T2, hT2⟩ : ∃ b, eqVx v vBot = b := ⟨_, rfl⟩
  have HT : Hid (eqVx v vTop = T1 ∧ eqVx v vBot = T2) := ⟨hT1, hT2⟩
  unfold encV at hR
  rw [hT1, hT2] at hR
  clear hT1 hT2
  go_wp2_with (with_reducible change wpList _ _ _ ({ dst := some 22, op := _, type := _, pos := _, after := _, guard := _ } :: _) _ _; refine Hid.out ?_)
  show wpList _ _ _ _ _ _
  refine wpList_eqV rfl (.tmp 4) (.tmp 21) rfl v vTop HP.out.2.2.1 vTop_ok T1 HT.out.1 rfl rfl ?_
  cases T1 with
  | true =>
    rw [if_pos rfl] at hR
    subst hR
    go_wp2_with fail
    refine (mark_is H1.out.2.2 0 (by have := HP.out.2.2.2.2.1; omega)).mono ?_
    rintro e W2 ⟨⟨rv, rfl⟩, hw2, hf2⟩
    have HF : Hid (Wr B W2 g (.slice da dn dc) (M ++ [0]) ∧ Fr B w W2) := ⟨hw2, H1.out.1.trans hf2⟩
    clear hw2 hf2
    go_wp2
    go_end0
    exact ⟨⟨_, rfl⟩, HF.out.1, HF.out.2⟩
  | false =>
  rw [if_neg (by decide)] at hR
  go_wp2_with fail
  refine (bot_is W1 _ rfl).mono ?_
  rintro e W2 ⟨rfl, hb2⟩
  have H2 : Hid (Fr B w W2 ∧ Blk W2 d 49 v.cells ∧ Wr B W2 g (.slice da dn dc) M) := ⟨H1.out.1.trans (Fr.of_below hb2 H1.out.2.2.lt.2), H1.out.2.1.below hb2 H1.out.2.1.lt, H1.out.2.2.below hb2⟩
  clear hb2 H1
  go_wp2_with (with_reducible change wpList _ _ _ ({ dst := some 27, op := _, type := _, pos := _, after := _, guard := _ } :: _) _ _; refine Hid.out ?_)
  show wpList _ _ _ _ _ _
  refine wpList_eqV rfl (.tmp 4) (.tmp 26) rfl v vBot HP.out.2.2.1 vBot_ok T2 HT.out.2 rfl rfl ?_
  cases T2 with
  | true =>
    rw [if_pos rfl] at hR
    subst hR
    go_wp2_with fail
    refine (mark_is H2.out.2.2 1 (by have := HP.out.2.2.2.2.1; omega)).mono ?_
    rintro e W3 ⟨⟨rv, rfl⟩, hw2, hf2⟩
    have HF : Hid (Wr B W3 g (.slice da dn dc) (M ++ [1]) ∧ Fr B w W3) := ⟨hw2, H2.out.1.trans hf2⟩
    clear hw2 hf2
    go_wp2
    go_end0
    exact ⟨⟨_, rfl⟩, HF.out.1, HF.out.2⟩
  | false =>
  rw [if_neg (by decide)] at hR
  have hl : lineOf D v = true := by
    rcases HP.out.2.2.2.1 with h | h | h
    · rw [HT.out.1] at h; cases h
    · rw [HT.out.2] at h; cases h
    · exact h
  obtain ⟨a1, a2, a3⟩ := line_of hl
  obtain ⟨k, hk, hk2, _⟩ := place_nat a3
  obtain ⟨j, hj⟩ : ∃ j : Nat, v.n = (j : Int) := ⟨v.n.toNat, by omega⟩
  rw [hk, hj, Int.toNat_natCast, Int.toNat_natCast] at hR
  have hDl := (HP.out.1 w (Below.refl _ _)).1
  have HK : Hid (placeOf v.h D = (k : Int) ∧ k ≤ 100000 ∧ v.n = (j : Int) ∧ j < 64 ∧ 2 :: (enc k ++ enc j) = R) := ⟨hk, by have := HP.out.2.1; omega, hj, by omega, hR⟩
  clear hl a1 a2 a3 hk hk2 hj hR hDl
  go_wp2_with fail
  refine (mark_is H2.out.2.2 2 (by have := HP.out.2.2.2.2.1; omega)).mono ?_
  rintro e W3 ⟨⟨rv3, rfl⟩, hw3, hf3⟩
  have H3 : Hid (Fr B w W3) := H2.out.1.trans hf3
  have HBk : Hid (Blk W3 d 49 v.cells) := H2.out.2.1.fr hf3 (by decide) (by decide)
  have HWr : Hid (Wr B W3 g (.slice da dn dc) (M ++ [2])) := hw3
  have HX : Hid (B ≤ g ∧ B ≤ W3.heap.size) := ⟨hw3.lo, hw3.lt.2⟩
  have HV : Hid v.ok := HP.out.2.2.1
  have HM : Hid ((M ++ [2]).length ≤ 1000000 ∧ k ≤ 4611686018427387904) := ⟨by rw [List.length_append]; have := HP.out.2.2.2.2.1; simp; omega, by have := HK.out.2.1; omega⟩
  have HC : Hid (∀ V, Fr B W3 V → Calls Try.prog 109 #[.slice da dn dc, .agg (U v.h).toArray] V fun e V2 => e = .returned (iv (k : Int)) ∧ Below V.heap.size V V2) := fun V hV => index_h V da dn dc D v.h (HP.out.1 V (H3.out.trans hV).below) HP.out.2.2.1 HP.out.2.1 (k : Int) HK.out.1
  clear hw3 hf3 H2
  go_wp2_with fail
  refine vx3 HX HV HM HWr HBk HC ?_
  intro W4 rv4 hw4 hf4
  have H4 : Hid (Fr B w W4 ∧ Blk W4 d 49 v.cells ∧ Wr B W4 g (.slice da dn dc) (M ++ [2] ++ enc k)) := ⟨H3.out.trans hf4, HBk.out.fr hf4 (by decide) (by decide), hw4⟩
  have c32 : W4.cell? ⟨d, 32, none⟩ = some (iv (j : Int)) := by rw [← HK.out.2.2.1]; exact H4.out.2.1.cell (Vx.line HV.out)
  clear hw4 hf4 HX HWr HBk HC H3 HM
  go_wp2_with fail
  refine (number_w H4.out.2.2 j (by simp only [List.length_append]; have := HP.out.2.2.2.2.1; have := enc_ten k (by have := HK.out.2.1; omega); simp; omega) (by have := HK.out.2.2.2.1; omega)).mono ?_
  rintro e W5 ⟨⟨rv5, rfl⟩, hw5, hf5⟩
  have HF : Hid (Wr B W5 g (.slice da dn dc) (M ++ R) ∧ Fr B w W5) := ⟨by have e1 : M ++ [2] ++ enc k ++ enc j = M ++ R := by rw [← HK.out.2.2.2.2]; simp
                                                                          rw [← e1]; exact hw5, H4.out.1.trans hf5⟩
  clear hw5 hf5 c32
  go_wp2
  go_end0
  exact ⟨⟨_, rfl⟩, HF.out.1, HF.out.2⟩
#print axioms vertex_is
end Go.Proofs.Ytgdecjacbkicmaa.Oct
