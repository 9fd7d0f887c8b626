/-
  Layer 21 (queue): lives.
-/
import Derived.Test.YtipipckbcelphaaWQin
namespace Go.Proofs.Ytipipckbcelphaa.Oct
open Go.RowKit Go.Shelf
set_option linter.unusedSimpArgs false
set_option linter.unusedVariables false

section
variable {ops : Array Oper} {rest : List Oper} {o : Oper} {a : Act} {w : World} {Q : Exit → Act → World → Prop}
theorem wpList_load_want (hw : Region.wanted o (yielded ops a.tmps) = true) (ty : TypeId) (x : Operand) (ho : o.op = .load ty x)
    (b p : Nat) (hx : a.eval x = .pointer (some ⟨b, p, none⟩)) (cs : List Value) (d : TypeDesc) (hc : w.rangeAt b p cs)
    (hu : Try.prog.underlying ty = some d) (hd : d.isRow = true) (hi : (Try.prog.info? ty).map (·.size) = some cs.length)
    (h : wpList Try.prog ops Q rest (a.put o.dst (.agg cs.toArray)) w) : wpList Try.prog ops Q (o :: rest) a w :=
  Go.BigFrame.wpList_want hw fun _ hK => wp_load_mid ty x ho b p hx cs d hc hu hd hi (hK _ _ h)
end
theorem eq3 (W : World) : (binOp BinOp.eql 38 (.agg #[iv 3, iv 2, iv 201]) (.agg #[iv 3, iv 2, iv 201])).run Try.prog W = .ok (.bool true) W := by kernel_rfl
theorem run_bs27 (x : Int) (W : World) : (Instr.buildSlice 27 1 #[(0, iv x)]).run Try.prog W = .ok (.slice (some ⟨W.heap.size, 0, none⟩) 1 1) (W.alloc (.cells #[iv x] 3)) := by kernel_rfl
set_option maxRecDepth 100000 in
set_option maxHeartbeats 2000000 in
theorem lives_is (w : World) : Calls Try.prog 9 #[] w fun e w' => e = .returned (.bool true) ∧ Below w.heap.size w w' := by
  have HNEW := new_is w
  have hz38 := zero38
  have heq := eq3
  have hbs := run_bs27 5
  go_enter Try.func9, Try.ntmps9
  go_wp2_with fail
  refine HNEW.mono ?_
  rintro e w1 ⟨rfl, hq0, hb1⟩
  obtain ⟨b, hbb⟩ : ∃ b, w.heap.size = b := ⟨_, rfl⟩
  rw [hbb] at hq0 ⊢
  have HP1 := put_is hq0 (by omega) 3
  have HB1 : Hid (Below w.heap.size w w1 ∧ w.heap.size = b) := ⟨hb1, hbb⟩
  clear HNEW hb1 hq0 hbb
  go_wp2_with fail
  refine HP1.mono ?_
  rintro e w2 ⟨rfl, v1, hq1, ha1⟩
  have e1 : putC [] 3 = 0 := by decide
  have e2 : putW [] 3 = [3] := by decide
  simp only [e2] at hq1 ha1
  simp only [e1]
  have HP2 := put_is hq1 (by omega) 5
  clear HP1
  go_wp2_with fail
  refine HP2.mono ?_
  rintro e w3 ⟨rfl, v2, hq2, ha2⟩
  have e3 : putC [3] 5 = 0 := by decide
  have e4 : putW [3] 5 = [3, 5] := by decide
  simp only [e4] at hq2 ha2
  simp only [e3]
  have HS := step_const (F := 34) (x := 3) (r := 201) (cs := #[]) hq2 rfl (enters_of Try.func34 (by kernel_rfl) rfl) (fun A _ => try34 3 A)
  have HA : Hid (QAfter w1 b ⟨.slice none 0 0, .slice none 0 0, [], []⟩ ⟨v2, .slice none 0 0, [3, 5], []⟩ w3) := ha1.trans ha2
  clear HP2 hq1 hq2 ha1 ha2 e1 e2 e3 e4
  go_wp2_with fail
  refine HS.mono ?_
  rintro e w4 ⟨rfl, v, u, hq, ha⟩
  rw [show (qd (3, hw 201, 201)).toArray = #[iv 3, iv 2, iv 201] from rfl]
  have hal : Below w4.heap.size w4 (w4.alloc (.cells #[iv 0, iv 0, iv 0] 38)) := below_al _ _
  obtain ⟨k4, hk4⟩ : ∃ k4, w4.heap.size = k4 := ⟨_, rfl⟩
  have HW4 : Hid (QAt w4 b ⟨v, u, [5], [(3, hw 201, 201)]⟩ .nilFunc 2 ∧ QAfter w1 b ⟨.slice none 0 0, .slice none 0 0, [], []⟩ ⟨v, u, [5], [(3, hw 201, 201)]⟩ w4 ∧ w4.heap.size = k4) := ⟨hq, HA.out.trans ha, hk4⟩
  clear HS hq ha
  go_wp2_with (with_reducible change wpList _ _ _ ({ dst := none, op := Op.store 38 _ _, type := _, pos := _, after := _, guard := _ } :: _) _ _; refine Hid.out ?_)
  show wpList _ _ _ _ _ _
  refine wpList_store_blk rfl 38 (.tmp 4) _ rfl k4 0 38 q0 (qd (3, 2, 201)) rfl rfl (by rw [← hk4]; exact Blk.new w4 _ _) (by simp [q0, qd]) size38 (qd_one _) ?_
  intro V5 hb5 hg5
  have hV5 : Below w4.heap.size w4 V5 := hal.grown hg5.out hal.size (fun j hj => by cases hj; omega)
  have HV5 : Hid (QAt V5 b ⟨v, u, [5], [(3, hw 201, 201)]⟩ .nilFunc 2 ∧ QAfter w1 b ⟨.slice none 0 0, .slice none 0 0, [], []⟩ ⟨v, u, [5], [(3, hw 201, 201)]⟩ V5 ∧ Blk V5 k4 38 (qd (3, 2, 201))) := ⟨HW4.out.1.below hV5, HW4.out.2.1.then hV5, hb5.out⟩
  have HWT := waiting_is HV5.out.1
  clear hb5 hg5 hal hV5 hk4
  go_wp2_with (with_reducible change wpList _ _ _ ({ dst := some 27, op := _, type := _, pos := _, after := _, guard := _ } :: _) _ _; refine Hid.out ?_)
  show wpList _ _ _ _ _ _
  refine wpList_load_want rfl 38 (.tmp 4) rfl k4 0 rfl (qd (3, 2, 201)) _ (by have := HV5.out.2.2.range 0 3; exact this) Try.underlying38 rfl size38 ?_
  simp only [Act.put, List.setIfInBounds_toArray, List.set_cons_zero, List.set_cons_succ]
  rw [show (qd (3, 2, 201)).toArray = #[iv 3, iv 2, iv 201] from rfl]
  go_wp2_with fail
  refine HWT.mono ?_
  rintro e V6 ⟨v', rfl, ho, hb6⟩
  obtain ⟨aw, cw, rfl, hnc, hcm, hnum, _⟩ := nums_own ho
  have hb7 : Below V6.heap.size V6 (V6.alloc (.cells #[iv 5] 3)) := below_al _ _
  have hn5 : Nums (V6.alloc (.cells #[iv 5] 3)) (some ⟨V6.heap.size, 0, none⟩) 1 [5] := ⟨rfl, fun _ => ⟨_, _, rfl, by simp, fun i x hx => by
    have := range_new V6 [iv 5] 3 i (iv x) (ivs_at (l := [5]) hx)
    exact this⟩⟩
  have HIN := ints_same [5] aw (some ⟨V6.heap.size, 0, none⟩) 1 cw 1 (V6.alloc (.cells #[iv 5] 3)) (hnum.below hb7) hn5 (by omega)
  have HB7 : Hid (Below V5.heap.size V5 (V6.alloc (.cells #[iv 5] 3))) := below_tr hb6 hb7
  have qcm : (cw : Int) ≤ 9223372036854775807 := by unfold maxLen at hcm; omega
  clear HWT ho hnc hcm hnum hb7 hn5 hb6
  go_wp2_with fail
  refine HIN.mono ?_
  rintro e V8 ⟨rfl, hb8⟩
  have HF : Hid (Below w.heap.size w V8) := by
    have h1 := (HV5.out.2.1.then (below_tr HB7.out hb8)).below (B := w.heap.size) HB1.out.1.size (by intro k hk; simp [Qu.bl, Value.ownBlock] at hk; rw [hk, HB1.out.2]; exact Nat.le_refl _)
    exact HB1.out.1.trans h1.1
  clear HIN hb8
  go_wp2_with fail
  go_ret
  exact ⟨rfl, HF.out⟩
#print axioms lives_is
end Go.Proofs.Ytipipckbcelphaa.Oct
