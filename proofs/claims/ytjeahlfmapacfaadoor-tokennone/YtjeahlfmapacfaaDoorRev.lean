/-
  Layer 16 (token): Revoke and New.
-/
import Derived.Test.YtjeahlfmapacfaaDoorIss
import Derived.Deep.RegionHeld
import Derived.Deep.MidRow
namespace Go.Proofs.YtjeahlfmapacfaaDoor.Oct
open Go.RowKit Sha
set_option linter.unusedSimpArgs false
set_option linter.unusedVariables false

theorem drew_one (A : World) (r : Option Nat) : A.grownBy A.drew r := ⟨rfl, rfl, rfl, Nat.le_refl _, fun _ _ _ => rfl⟩
set_option maxRecDepth 100000 in
set_option maxHeartbeats 4000000 in
theorem rv9 {Q : Exit → Act → World → Prop} {x2 x3 x4 x6 x7 x8 x9 x10 x11 x12 x13 x14 x15 x16 x17 x18 x19 x20 x21 x22 x23 x24 x25 x26 x27 x28 x29 : Value} {ds : List Deferred} {A : World} {b m d : Nat} {X : BA} {cs : List Value} {Qm : World → Prop}
    (HN : Hid (b ≠ m ∧ d ≠ m ∧ d < A.heap.size ∧ True)) (c1 : A.cell? ⟨b, 1, none⟩ = some (.map (some m))) (HR : Hid (A.rangeAt d 0 cs)) (HI : Hid ((Tryd.prog.info? 64).map (·.size) = some cs.length)) (HU : Hid (∀ V, Below A.heap.size A V → ∃ V2, (Instr.mapUpdate 55 (.map (some m)) (.string X) (.agg cs.toArray)).run Tryd.prog V = .ok () V2 ∧ V.grownBy V2 (some m) ∧ Qm V2))
    (hQ : ∀ V1, A.grownBy V1 (some m) → Qm V1 → Q .normal { tmps := #[.pointer (some ⟨b, 0, none⟩), .string X, x2, x3, x4, .pointer (some ⟨d, 0, none⟩), x6, x7, x8, x9, x10, x11, x12, x13, x14, x15, x16, x17, x18, x19, x20, x21, x22, x23, .pointer (some ⟨b, 0, none⟩), .pointer (some ⟨b, 0, none⟩), .pointer (some ⟨b, 1, none⟩), .map (some m), .string X, .agg cs.toArray], defers := ds } V1) :
    (Code.region 9 #[{ dst := some 24, op := Op.move (Operand.tmp 0), type := 26, pos := "token.go:69", after := #[], guard := none }, { dst := some 25, op := Op.nilCheck (Operand.tmp 24), type := 0, pos := "token.go:69", after := #[{ on := 0, ground := Ground.data }], guard := none }, { dst := some 26, op := Op.fieldAddr 57 (Operand.tmp 25) 1, type := 0, pos := "token.go:69", after := #[{ on := 1, ground := Ground.data }], guard := none }, { dst := some 27, op := Op.load 55 (Operand.tmp 26), type := 55, pos := "token.go:69", after := #[{ on := 2, ground := Ground.data }], guard := none }, { dst := some 28, op := Op.move (Operand.tmp 1), type := 9, pos := "token.go:69", after := #[], guard := none }, { dst := some 29, op := Op.load 64 (Operand.tmp 5), type := 64, pos := "token.go:69", after := #[], guard := none }, { dst := none, op := Op.mapUpdate 55 (Operand.tmp 27) (Operand.tmp 28) (Operand.tmp 29), type := 0, pos := "token.go:69", after := #[{ on := 3, ground := Ground.data }, { on := 4, ground := Ground.data }, { on := 5, ground := Ground.data }, { on := 0, ground := Ground.phase }, { on := 1, ground := Ground.phase }, { on := 2, ground := Ground.phase }, { on := 3, ground := Ground.phase }, { on := 4, ground := Ground.phase }, { on := 5, ground := Ground.phase }], guard := none }] true).wp Tryd.prog Q { tmps := #[.pointer (some ⟨b, 0, none⟩), .string X, x2, x3, x4, .pointer (some ⟨d, 0, none⟩), x6, x7, x8, x9, x10, x11, x12, x13, x14, x15, x16, x17, x18, x19, x20, x21, x22, x23, x24, x25, x26, x27, x28, x29], defers := ds } A := by
  refine Code.wp_mono (Q := fun x a' w' => match x with | .normal => Q .normal a' w' | _ => False) (by intro x a' w' h; cases x <;> first | exact h | exact h.elim) ?_
  refine wp_region_held (S := fun V => A.grownBy V (some m)) (by kernel_rfl) ?_
  have hS0 : Hid (A.grownBy A.drew (some m)) := drew_one A (some m)
  change wpAnyH Tryd.prog .any _ _ (fun V => A.grownBy V (some m)) 7 (Array.replicate 7 false) _ A.drew
  obtain ⟨V0, hV0⟩ : ∃ V0, A.drew = V0 := ⟨_, rfl⟩
  rw [hV0]
  rw [hV0] at hS0
  have hO0 : Hid (Below A.heap.size A V0) := by rw [← hV0]; exact below_drew0 A
  clear hV0
  refine wpAnyH_take (i := 0) (oi := { dst := some 24, op := Op.move (Operand.tmp 0), type := 26, pos := "token.go:69", after := #[], guard := none }) (v := .pointer (some ⟨b, 0, none⟩)) rfl (by kernel_rfl) (by kernel_rfl) (by kernel_rfl) (fun _ _ _ h => h.elim) (Or.inl ⟨by rfl, ?y1⟩) hS0.out ?_
  case y1 =>
    intro V hV
    go_simp
  simp only [Act.put, List.setIfInBounds_toArray, List.set_cons_zero, List.set_cons_succ]
  refine wpAnyH_take (i := 1) (oi := { dst := some 25, op := Op.nilCheck (Operand.tmp 24), type := 0, pos := "token.go:69", after := #[{ on := 0, ground := Ground.data }], guard := none }) (v := .pointer (some ⟨b, 0, none⟩)) rfl (by kernel_rfl) (by kernel_rfl) (by kernel_rfl) (fun _ _ _ h => h.elim) (Or.inl ⟨by rfl, ?y2⟩) hS0.out ?_
  case y2 =>
    intro V hV
    go_simp
  simp only [Act.put, List.setIfInBounds_toArray, List.set_cons_zero, List.set_cons_succ]
  refine wpAnyH_take (i := 2) (oi := { dst := some 26, op := Op.fieldAddr 57 (Operand.tmp 25) 1, type := 0, pos := "token.go:69", after := #[{ on := 1, ground := Ground.data }], guard := none }) (v := .pointer (some ⟨b, 1, none⟩)) rfl (by kernel_rfl) (by kernel_rfl) (by kernel_rfl) (fun _ _ _ h => h.elim) (Or.inl ⟨by rfl, ?y3⟩) hS0.out ?_
  case y3 =>
    intro V hV
    go_simp
  simp only [Act.put, List.setIfInBounds_toArray, List.set_cons_zero, List.set_cons_succ]
  refine wpAnyH_take (i := 3) (oi := { dst := some 27, op := Op.load 55 (Operand.tmp 26), type := 55, pos := "token.go:69", after := #[{ on := 2, ground := Ground.data }], guard := none }) (v := .map (some m)) rfl (by kernel_rfl) (by kernel_rfl) (by kernel_rfl) (fun _ _ _ h => h.elim) (Or.inl ⟨by rfl, ?y4⟩) hS0.out ?_
  case y4 =>
    intro V hV
    have hc : V.cell? ⟨b, 1, none⟩ = some (.map (some m)) := (show A.grownBy V (some m) from hV).cell (a := ⟨b, 1, none⟩) c1 (by simpa using HN.out.1)
    go_simp
  simp only [Act.put, List.setIfInBounds_toArray, List.set_cons_zero, List.set_cons_succ]
  refine wpAnyH_take (i := 4) (oi := { dst := some 28, op := Op.move (Operand.tmp 1), type := 9, pos := "token.go:69", after := #[], guard := none }) (v := .string X) rfl (by kernel_rfl) (by kernel_rfl) (by kernel_rfl) (fun _ _ _ h => h.elim) (Or.inl ⟨by rfl, ?y5⟩) hS0.out ?_
  case y5 =>
    intro V hV
    go_simp
  simp only [Act.put, List.setIfInBounds_toArray, List.set_cons_zero, List.set_cons_succ]
  refine wpAnyH_take (i := 5) (oi := { dst := some 29, op := Op.load 64 (Operand.tmp 5), type := 64, pos := "token.go:69", after := #[], guard := none }) (v := .agg cs.toArray) rfl (by kernel_rfl) (by kernel_rfl) (by kernel_rfl) (fun _ _ _ h => h.elim) (yieldsIf_load_mid (by rfl) _ _ rfl _ _ rfl (cs) _ (fun V hV => rangeAt_same (HR.out) ((show A.grownBy V (some m) from hV).block _ (HN.out.2.2.1) (by simpa using HN.out.2.1))) Tryd.underlying64 rfl (HI.out)) hS0.out ?_
  simp only [Act.put, List.setIfInBounds_toArray, List.set_cons_zero, List.set_cons_succ]
  refine wpAnyH_ready (rs := [6]) (by kernel_rfl) (by simp) (AllReadyH.cons (i := 6) (o := { dst := none, op := Op.mapUpdate 55 (Operand.tmp 27) (Operand.tmp 28) (Operand.tmp 29), type := 0, pos := "token.go:69", after := #[{ on := 3, ground := Ground.data }, { on := 4, ground := Ground.data }, { on := 5, ground := Ground.data }, { on := 0, ground := Ground.phase }, { on := 1, ground := Ground.phase }, { on := 2, ground := Ground.phase }, { on := 3, ground := Ground.phase }, { on := 4, ground := Ground.phase }, { on := 5, ground := Ground.phase }], guard := none }) rfl ?_ AllReadyH.nil)
  · intro K1 hK1
    rw [if_pos (by rfl)]
    obtain ⟨V1, hrun1, HV1⟩ := HU.out V0 hO0.out
    go_wp2
    clear hrun1
    have hS1 : Hid (A.grownBy V1 (some m)) := grown_tr hS0.out HV1.1
    refine hK1.out _ _ hS1.out ?_
    clear hK1
    intro _
    try simp only [Act.put, List.setIfInBounds_toArray, List.set_cons_zero, List.set_cons_succ]
    refine wpAnyH_done (by kernel_rfl) ?_ _
    exact hQ V1 hS1.out HV1.2
#print axioms rv9
/-- what Revoke says -/
def revE (o : Option Gr) : Int := match o with | none => 160 | some g => if g.bk = true then 161 else 0
def RvP (w : World) (b m : Nat) (S : List UInt8) (G : List Gr) (X : BA) (e : Ending) (w' : World) : Prop :=
  e = .returned (iv (revE (atF S 0 G X.data.toList))) ∧ ((revE (atF S 0 G X.data.toList) ≠ 0 ∧ Below w.heap.size w w') ∨ (revE (atF S 0 G X.data.toList) = 0 ∧ BkAt w' b m S (revF S 0 G X.data.toList) ∧ w.grownBy w' (some m)))
set_option maxRecDepth 100000 in
set_option maxHeartbeats 1000000 in
theorem revoke_is {w : World} {b m : Nat} {S : List UInt8} {G : List Gr} (h : BkAt w b m S G) (hV : VT w) (X : BA) (hX : X.size ≤ 20000) : Calls Tryd.prog 16 #[.pointer (some ⟨b, 0, none⟩), .string X] w (RvP w b m S G X) := by
  have CM : Hid (Calls Tryd.prog 21 #[.pointer (some ⟨b, 0, none⟩)] w fun e w' => e = .returned (.bool true) ∧ w = w') := made_yes h
  have CF : Hid (Calls Tryd.prog 28 #[.pointer (some ⟨b, 0, none⟩), .string X, .func (.func 29) #[] #[]] w (FdP w S G X)) := find_tok h hV X hX
  have HB : Hid (BkAt w b m S G ∧ X.size ≤ 20000) := ⟨h, hX⟩
  have hz := zero64
  clear h hV hX
  go_enter Tryd.func16, Tryd.ntmps16
  go_wp2_with fail
  refine CM.out.mono ?_
  rintro e W ⟨rfl, rfl⟩
  go_wp2_with fail
  refine CF.out.mono ?_
  rintro e W1 ⟨hc, hb1⟩
  obtain ⟨d, hd⟩ : ∃ d, W1.heap.size = d := ⟨_, rfl⟩
  have H1 : Hid (Below w.heap.size w W1 ∧ W1.heap.size = d ∧ w.heap.size ≤ d ∧ BkAt W1 b m S G) := ⟨hb1, hd, by have := hb1.size; omega, HB.out.1.below hb1⟩
  clear hb1
  rcases hc with ⟨hn, rfl⟩ | ⟨g, hg, rfl⟩
  · have HF : Hid (revE (atF S 0 G X.data.toList) = 160) := by show _ = _; rw [hn]; rfl
    clear hn
    go_wp2_with (with_reducible change wpList _ _ _ ({ dst := none, op := Op.store 64 _ _, type := _, pos := _, after := _, guard := _ } :: _) _ _; refine Hid.out ?_)
    show wpList _ _ _ _ _ _
    refine wpList_store_blk rfl 64 (.tmp 5) (.tmp 14) rfl d 0 64 [.string e0, iv 0, .bool false] g0.cells rfl rfl (by rw [← H1.out.2.1]; exact Blk.new W1 _ _) (by show 0 + 3 ≤ 3; omega) (size64 _) (Gr.one _) ?_
    intro W2 hx2 hg2
    have H2 : Hid (Below w.heap.size w W2) := below_gr (below_tr H1.out.1 (below_al _ _)) hg2.out H1.out.2.2.1
    clear hx2 hg2 hd
    go_wp2
    go_ret
    exact ⟨by rw [HF.out]; rfl, .inl ⟨by rw [HF.out]; omega, H2.out⟩⟩
  · have HG : Hid (atF S 0 G X.data.toList = some g) := hg
    clear hg
    go_wp2_with (with_reducible change wpList _ _ _ ({ dst := none, op := Op.store 64 _ _, type := _, pos := _, after := _, guard := _ } :: _) _ _; refine Hid.out ?_)
    show wpList _ _ _ _ _ _
    refine wpList_store_blk rfl 64 (.tmp 5) (.tmp 14) rfl d 0 64 [.string e0, iv 0, .bool false] g.cells rfl rfl (by rw [← H1.out.2.1]; exact Blk.new W1 _ _) (by show 0 + 3 ≤ 3; omega) (size64 _) (Gr.one _) ?_
    intro W2 hx2 hg2
    have H2 : Hid (Below w.heap.size w W2 ∧ Blk W2 d 64 g.cells ∧ BkAt W2 b m S G) := ⟨below_gr (below_tr H1.out.1 (below_al _ _)) hg2.out H1.out.2.2.1, blk_all hx2.out rfl, H1.out.2.2.2.below (below_gr (below_al _ _) hg2.out (by have := H1.out.2.1; omega))⟩
    clear hx2 hg2 hd
    go_wp2_with (with_reducible change wpList _ _ _ ({ dst := some 18, op := _, type := _, pos := _, after := _, guard := _ } :: _) _ _; refine Hid.out ?_)
    show wpList _ _ _ _ _ _
    refine wpList_load_mid rfl 64 (.tmp 5) rfl d 0 rfl g.cells _ H2.out.2.1.range0 Tryd.underlying64 rfl (size64 _) ?_
    obtain ⟨u, t, bk⟩ := g
    cases bk with
    | true =>
      have HF : Hid (revE (atF S 0 G X.data.toList) = 161) := by show _ = _; rw [HG.out]; rfl
      go_wp2_with fail
      refine (state_back ⟨u, t, true⟩ 161 rfl W2).mono ?_
      rintro e W3 ⟨rfl, hb3⟩
      have H3 : Hid (Below w.heap.size w W3) := below_tr H2.out.1 hb3
      clear hb3
      go_wp2
      go_ret
      exact ⟨by rw [HF.out]; rfl, .inl ⟨by rw [HF.out]; omega, H3.out⟩⟩
    | false =>
      have HF : Hid (revE (atF S 0 G X.data.toList) = 0) := by show _ = _; rw [HG.out]; rfl
      go_wp2_with fail
      refine (state_back ⟨u, t, false⟩ 0 rfl W2).mono ?_
      rintro e W3 ⟨rfl, hb3⟩
      have hK3 : Blk W3 d 64 [.string u, iv (t : Int), .bool false] := H2.out.2.1.below hb3 H2.out.2.1.lt
      obtain ⟨W4, hW4⟩ : ∃ W4, W3.setCell ⟨d, 2, none⟩ (.bool true) = W4 := ⟨_, rfl⟩
      have hK4 : Blk W4 d 64 [.string u, iv (t : Int), .bool true] := by rw [← hW4]; exact hK3.set 2 _
      have hg4 : W3.grownBy W4 (some d) := by rw [← hW4]; exact grown_setCell _ _ _ _
      have H4 : Hid (Below w.heap.size w W4 ∧ Blk W4 d 64 [.string u, iv (t : Int), .bool true] ∧ BkAt W4 b m S G) := by
        have hb4 : Below w.heap.size w W4 := below_gr (below_tr H2.out.1 hb3) hg4 H1.out.2.2.1
        exact ⟨hb4, hK4, HB.out.1.below hb4⟩
      have cfr : W3.frozen? ⟨d, 2, none⟩ = false := hK3.free 2
      have cst : W3.cell? ⟨d, 2, none⟩ = some (.bool false) := hK3.cell rfl
      have c1 : W4.cell? ⟨b, 1, none⟩ = some (.map (some m)) := H4.out.2.2.c1.1
      clear hb3 hK3 hK4 hg4
      go_wp2_with fail
      refine rv9 (cs := [.string u, iv (t : Int), .bool true]) (Qm := fun V => BkAt V b m S (revF S 0 G X.data.toList)) ?_ c1 H4.out.2.1.range0 (size64 ⟨u, t, true⟩) ?_ ?_
      · refine ⟨fun e => ?_, fun e => ?_, H4.out.2.1.lt, trivial⟩
        · subst e; exact mp_not_cells H4.out.2.2.map c1
        · subst e; exact mp_not_cells H4.out.2.2.map (H4.out.2.1.cell (i := 0) rfl)
      · intro V hV
        have hBk := H4.out.2.2.below hV
        have hkx : (atF S 0 G X.data.toList).isSome = true := by rw [HG.out]; rfl
        have hkh : khas (kvs S 0 G) X.data.toList = true := by unfold khas; rw [kvs_get, HG.out]; rfl
        obtain ⟨V2, hrun, hmp, hgr, _⟩ := MP.put (h := X.data.toList) hBk.map Tryd.underlying55 (by show X.size ≤ maxLen; have := HB.out.2; unfold maxLen; omega) (.agg #[.string u, iv (t : Int), .bool true])
        refine ⟨V2, hrun, hgr, hBk.turned hgr ?_ (by rw [rev_len]; exact hBk.few) (rev_ok 0 G hBk.ok)⟩
        unfold kput at hmp
        rw [if_pos hkh] at hmp
        have e := kvs_rev (S := S) (h := X.data.toList) (g := ⟨u, t, false⟩) 0 G (by have := hBk.few; omega) HG.out
        rw [← e]
        exact hmp
      · intro V1 hV1 hQ
        have H5 : Hid (BkAt V1 b m S (revF S 0 G X.data.toList) ∧ w.grownBy V1 (some m)) := ⟨hQ, grown_tr (gr_of H4.out.1) hV1⟩
        clear hV1 hQ c1 hW4 cfr cst
        go_wp2
        go_ret
        exact ⟨by rw [HF.out]; rfl, .inr ⟨HF.out, H5.out.1, H5.out.2⟩⟩
#print axioms revoke_is
theorem sl_nil0 (W : World) : (binOp .eql 22 (.slice none 0 0) (.slice none 0 0)).run Tryd.prog W = .ok (.bool true) W := by kernel_rfl
theorem sl_nil1 (x : Addr) (n c : Nat) (W : World) : (binOp .eql 22 (.slice (some x) n c) (.slice none 0 0)).run Tryd.prog W = .ok (.bool false) W := by kernel_rfl
set_option maxRecDepth 100000 in
theorem clone_nil (w : World) : Calls Tryd.prog 20 #[.slice none 0 0] w fun e w' => e = .returned (.slice none 0 0) ∧ w = w' := by
  have hn := sl_nil0
  go_enter Tryd.func20, Tryd.ntmps20
  go_wp2
  go_ret
  exact ⟨rfl, rfl⟩
set_option maxRecDepth 100000 in
set_option maxHeartbeats 1000000 in
theorem clone_in {w : World} {x : Addr} {n c : Nat} {S : List UInt8} (h : In w (some x) n c S) : Calls Tryd.prog 20 #[.slice (some x) n c] w fun e w' => ∃ v, e = .returned v ∧ Hid (Own 5 w.heap.size w' v S) ∧ Below w.heap.size w w' := by
  obtain ⟨i0, hi, hz0, hz1, hz2⟩ := info_parts info5
  obtain ⟨A, hA⟩ : ∃ A, w.alloc (.cells #[] 5) = A := ⟨_, rfl⟩
  have hb : Below w.heap.size w A := by rw [← hA]; exact below_al _ _
  have HH : Hid (A.ownsRow w.heap.size 5 1 (.slice (some ⟨w.heap.size, 0, none⟩) 0 0) 0 (U []) ∧ In A (some x) n c S ∧ Below w.heap.size w A ∧ 0 + n ≤ 140737488355328) := by
    refine ⟨?_, h.below hb, hb, by have := h.2.2.1; omega⟩
    rw [← hA]
    exact ⟨rfl, .inr ⟨w.heap.size, 0, #[], rfl, Nat.le_refl _, heap_alloc_new _ _, by simp [U], by unfold maxLen; omega, by simp [U], by simp [U]⟩⟩
  have hn := sl_nil1 x n c
  clear hb h
  go_enter Tryd.func20, Tryd.ntmps20
  go_wp2_with (with_reducible change wpList _ _ _ ({ dst := some 7, op := _, type := _, pos := _, after := _, guard := _ } :: _) _ _; refine Hid.out ?_)
  show wpList _ _ _ _ _ _
  refine wpList_append_in _ rfl (.tmp 5) (.tmp 6) 22 rfl w.heap.size 5 i0 Tryd.underlying22 hi hz0 hz1 hz2 (.slice (some ⟨w.heap.size, 0, none⟩) 0 0) [] 0 rfl rfl HH.out.1 (some x) n c S rfl HH.out.2.1 HH.out.2.2.2 HH.out.2.2.1.size ?_
  intro v5 W5 ho5 hg5
  have HF : Hid (Own 5 w.heap.size W5 v5 S ∧ Below w.heap.size w W5) := ⟨ho5, HH.out.2.2.1.grown hg5 HH.out.2.2.1.size (fun j hj => by cases hj; exact Nat.le_refl _)⟩
  clear ho5 hg5
  go_wp2
  go_ret
  exact ⟨_, rfl, HF.out.1, HF.out.2⟩
#print axioms clone_in
theorem mk55 (W : World) : (Instr.makeMap 55 none).run Tryd.prog W = .ok (.map (some W.heap.size)) (W.alloc (.map #[] 0)) := by kernel_rfl
theorem build57 (a : Option Addr) (n c m : Nat) (W : World) : (Instr.build 57 #[(0, .slice a n c), (1, .map (some m))]).run Tryd.prog W = .ok (.agg #[.slice a n c, .map (some m)]) W := by kernel_rfl
def NwP (w : World) (S : List UInt8) (e : Ending) (w' : World) : Prop := ∃ b m, e = .returned (.pointer (some ⟨b, 0, none⟩)) ∧ BkAt w' b m S [] ∧ Below w.heap.size w w' ∧ w.heap.size ≤ m
set_option maxRecDepth 100000 in
set_option maxHeartbeats 1000000 in
theorem new_rest {w W1 : World} {a : Option Addr} {n c : Nat} {S : List UInt8} (h : In W1 a n c S) (hn : n ≤ 20000) (hb : Below w.heap.size w W1) : BkAt ((W1.alloc (.map #[] 0)).alloc (.cells #[.slice a n c, .map (some W1.heap.size)] 57)) (W1.heap.size + 1) W1.heap.size S [] ∧ Below w.heap.size w ((W1.alloc (.map #[] 0)).alloc (.cells #[.slice a n c, .map (some W1.heap.size)] 57)) := by
  have hs : (W1.alloc (.map #[] 0)).heap.size = W1.heap.size + 1 := by simp
  have hb2 : Below W1.heap.size W1 ((W1.alloc (.map #[] 0)).alloc (.cells #[.slice a n c, .map (some W1.heap.size)] 57)) := below_tr (below_al _ _) (below_al _ _)
  refine ⟨⟨⟨a, n, c, ?_, h.below hb2, hn⟩, ?_, by simp, by simp⟩, below_tr hb hb2⟩
  · rw [← hs]; exact Blk.new _ _ _
  · exact (MP.made W1).same ((below_al (W1.alloc (.map #[] 0)) _).block W1.heap.size (by rw [hs]; omega))
set_option maxRecDepth 100000 in
set_option maxHeartbeats 1000000 in
theorem newtok_is {w : World} {a : Option Addr} {n c : Nat} {S : List UInt8} (h : In w a n c S) (hn : n ≤ 20000) : Calls Tryd.prog 10 #[.slice a n c] w (NwP w S) := by
  have hmk := mk55
  cases a with
  | none =>
    obtain rfl : c = 0 := h.2.2.2.1 rfl
    obtain rfl : n = 0 := by have := h.2.1; omega
    obtain ⟨W1, hW1⟩ : ∃ W1, (w.alloc (.map #[] 0)).alloc (.cells #[.slice none 0 0, .map (some w.heap.size)] 57) = W1 := ⟨_, rfl⟩
    have HF : Hid (BkAt W1 (w.heap.size + 1) w.heap.size S [] ∧ Below w.heap.size w W1) := by rw [← hW1]; exact new_rest h hn (Below.refl _ _)
    have hbd := build57 none 0 0 w.heap.size
    clear h hn
    go_enter Tryd.func10, Tryd.ntmps10
    go_wp2_with fail
    refine (clone_nil w).mono ?_
    rintro e W ⟨rfl, rfl⟩
    go_wp2
    go_ret
    exact ⟨_, _, by first | rfl | simp, HF.out.1, HF.out.2, Nat.le_refl _⟩
  | some x =>
    have HI : Hid (In w (some x) n c S ∧ n ≤ 20000) := ⟨h, hn⟩
    clear h hn
    go_enter Tryd.func10, Tryd.ntmps10
    go_wp2_with fail
    refine (clone_in HI.out.1).mono ?_
    rintro e W0 ⟨v, rfl, HO, hb0⟩
    obtain ⟨a1, c1, rfl, hin1, -⟩ := own_in HO.out (by have := HI.out.1.1; have := HI.out.2; omega)
    rw [HI.out.1.1] at hin1 ⊢
    obtain ⟨W1, hW1⟩ : ∃ W1, (W0.alloc (.map #[] 0)).alloc (.cells #[.slice a1 n c1, .map (some W0.heap.size)] 57) = W1 := ⟨_, rfl⟩
    have HF : Hid (BkAt W1 (W0.heap.size + 1) W0.heap.size S [] ∧ Below w.heap.size w W1 ∧ w.heap.size ≤ W0.heap.size) := by
      have := new_rest hin1 HI.out.2 hb0
      rw [hW1] at this
      exact ⟨this.1, this.2, hb0.size⟩
    have hbd := build57 a1 n c1 W0.heap.size
    clear HO hb0 hin1
    go_wp2
    go_ret
    exact ⟨_, _, by first | rfl | simp, HF.out.1, HF.out.2.1, HF.out.2.2⟩
#print axioms newtok_is
end Go.Proofs.YtjeahlfmapacfaaDoor.Oct
