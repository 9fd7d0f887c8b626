/-
  Layer 22 (fields): the chapter's examples.
-/
import Derived.Test.YtlbcpbibcfolkaaDoorFlt
namespace Go.Proofs.YtlbcpbibcfolkaaDoor.Oct
open Go.RowKit
set_option linter.unusedSimpArgs false
set_option linter.unusedVariables false

def P1 : Pr := ⟨⟨#[97]⟩, ⟨#[49, 32, 50]⟩⟩
def P2 : Pr := ⟨⟨#[98]⟩, ⟨#[195, 169]⟩⟩
abbrev TX : BA := ⟨#[97, 61, 49, 43, 50, 38, 98, 61, 37, 67, 51, 37, 65, 57]⟩
theorem txt2 : txt [P1, P2] = [97, 61, 49, 43, 50, 38, 98, 61, 37, 67, 51, 37, 65, 57] := by decide +kernel
theorem txt1 : (txt [P1]).length = 5 := by decide +kernel
theorem par1 : parF ⟨#[97, 61, 37, 52]⟩ = ([], 2, 220) := by decide +kernel
theorem par2 : parF ⟨#[97, 61, 49, 38, 98]⟩ = ([([97], [49])], 5, 221) := by decide +kernel
theorem pn_lives {v : Value} (h : PnP [P1, P2] v) : v = .tuple #[.string TX, .nilIface] := by
  rcases h with ⟨h, _⟩ | ⟨_, i, hi, _, h, _⟩ | ⟨_, _, h⟩
  · simp at h
  · exfalso
    have hi2 : i = 0 ∨ i = 1 := by simp at hi; omega
    rcases hi2 with rfl | rfl
    · rw [show [P1, P2].take (0 + 1) = [P1] from rfl, txt1] at h; omega
    · rw [show [P1, P2].take (1 + 1) = [P1, P2] from rfl, txt2] at h; simp at h
  · rw [h, txt2]
theorem bd1 (W : World) : (Instr.build 49 #[(0, .string ⟨#[97]⟩), (1, .string ⟨#[49, 32, 50]⟩)]).run Tryd.prog W = .ok (.agg P1.cells.toArray) W := by kernel_rfl
theorem bd2 (W : World) : (Instr.build 49 #[(0, .string ⟨#[98]⟩), (1, .string ⟨#[195, 169]⟩)]).run Tryd.prog W = .ok (.agg P2.cells.toArray) W := by kernel_rfl
theorem bs2 (W : World) : (Instr.buildSlice 32 2 #[(0, .agg P1.cells.toArray), (1, .agg P2.cells.toArray)]).run Tryd.prog W = .ok (.slice (some ⟨W.heap.size, 0, none⟩) 2 2) (W.alloc (.cells (cellsP [P1, P2]).toArray 49)) := by kernel_rfl
theorem own2 (w : World) : OwP (w.alloc (.cells (cellsP [P1, P2]).toArray 49)) w.heap.size (.slice (some ⟨w.heap.size, 0, none⟩) 2 2) [P1, P2] := by
  refine ⟨⟨by simp [cellsP, Pr.cells], .inr ⟨w.heap.size, 2, (cellsP [P1, P2]).toArray, rfl, Nat.le_refl _, heap_alloc_new _ _, ?_⟩⟩, ?_⟩
  · refine ⟨by simp, by unfold maxLen; omega, by simp [cellsP, Pr.cells], by simp [cellsP, Pr.cells]⟩
  · intro e he
    simp only [List.mem_cons, List.not_mem_nil, or_false] at he
    rcases he with rfl | rfl
    · exact ⟨by decide, by decide⟩
    · exact ⟨by decide, by decide⟩
theorem wpList_b49 {ops : Array Oper} {rest : List Oper} {o : Oper} {a : Act} {w : World} {Q : Exit → Act → World → Prop} (hgd : o.guard = none) (x y : Value) (hop : o.op = .build 49 #[(0, .const x), (1, .const y)]) (v : Value) (hr : ∀ W, (Instr.build 49 #[(0, x), (1, y)]).run Tryd.prog W = .ok v W) (hk : wpList Tryd.prog ops Q rest (a.put o.dst v) w) : wpList Tryd.prog ops Q (o :: rest) a w := by
  refine wpList_plain hgd fun K hK => ?_
  have h := hr w
  unfold Oper.wp execOp
  simp only [hop, Sem.run_bind, Sem.run_pure, Result.andThen_ok, List.map_toArray, List.map_cons, List.map_nil, Act.eval, h]
  exact hK _ _ hk
theorem wpList_bs2 {ops : Array Oper} {rest : List Oper} {o : Oper} {a : Act} {w : World} {Q : Exit → Act → World → Prop} (hgd : o.guard = none) (x y : Operand) (hop : o.op = .buildSlice 32 2 #[(0, x), (1, y)]) (hx : a.eval x = .agg P1.cells.toArray) (hy : a.eval y = .agg P2.cells.toArray)
    (hk : wpList Tryd.prog ops Q rest (a.put o.dst (.slice (some ⟨w.heap.size, 0, none⟩) 2 2)) (w.alloc (.cells (cellsP [P1, P2]).toArray 49))) : wpList Tryd.prog ops Q (o :: rest) a w := by
  refine wpList_plain hgd fun K hK => ?_
  have h := bs2 w
  unfold Oper.wp execOp
  simp only [hop, Sem.run_bind, Sem.run_pure, Result.andThen_ok, List.map_toArray, List.map_cons, List.map_nil, hx, hy, h]
  exact hK _ _ hk
set_option maxRecDepth 100000 in
set_option maxHeartbeats 1000000 in
theorem lives_is (w : World) (hE : ET w) : Calls Tryd.prog 9 #[] w fun e w' => e = .returned (.bool true) ∧ Below w.heap.size w w' := by
  have HE : Hid (ET w) := hE
  obtain ⟨A, hA⟩ : ∃ A, w.alloc (.cells (cellsP [P1, P2]).toArray 49) = A := ⟨_, rfl⟩
  have HA : Hid (Below w.heap.size w A ∧ PsR A (.slice (some ⟨w.heap.size, 0, none⟩) 2 2) [P1, P2]) := ⟨by rw [← hA]; exact below_al _ _, by rw [← hA]; exact (own2 w).esr⟩
  clear hE
  go_enter Tryd.func9, Tryd.ntmps9
  go_wp2_with (with_reducible change wpList _ _ _ ({ dst := some 8, op := _, type := _, pos := _, after := _, guard := _ } :: _) _ _; refine Hid.out ?_)
  show wpList _ _ _ _ _ _
  refine wpList_b49 rfl _ _ rfl _ bd1 ?_
  go_wp2_with (with_reducible change wpList _ _ _ ({ dst := some 9, op := _, type := _, pos := _, after := _, guard := _ } :: _) _ _; refine Hid.out ?_)
  show wpList _ _ _ _ _ _
  refine wpList_b49 rfl _ _ rfl _ bd2 ?_
  go_wp2_with (with_reducible change wpList _ _ _ ({ dst := some 10, op := _, type := _, pos := _, after := _, guard := _ } :: _) _ _; refine Hid.out ?_)
  show wpList _ _ _ _ _ _
  refine wpList_bs2 rfl (.tmp 8) (.tmp 9) rfl rfl rfl ?_
  rw [hA]
  go_wp2_with fail
  refine (print_is HA.out.2 rfl).mono ?_
  rintro e W1 ⟨v1, rfl, hp, hb1⟩
  obtain rfl := pn_lives hp
  have H1 : Hid (Below w.heap.size w W1) := below_tr HA.out.1 hb1
  clear hp hb1 hA
  go_wp2_with fail
  refine (parse_is ⟨#[97, 61, 37, 52]⟩ (by decide) W1 (HE.out.below H1.out)).mono ?_
  intro e W2 h2
  rw [par1] at h2
  obtain ⟨h2, hb2⟩ := h2
  obtain rfl : e = .returned (.tuple #[.slice none 0 0, .iface 58 (fl 2 220)]) := by
    rcases h2 with ⟨h, _⟩ | ⟨_, h⟩
    · exact absurd h (by show ¬ (220 : Int) = 0; omega)
    · exact h
  have H2 : Hid (Below w.heap.size w W2) := below_tr H1.out hb2
  clear h2 hb2
  go_wp2_with fail
  refine (parse_is ⟨#[97, 61, 49, 38, 98]⟩ (by decide) W2 (HE.out.below H2.out)).mono ?_
  intro e W3 h3
  rw [par2] at h3
  obtain ⟨h3, hb3⟩ := h3
  obtain rfl : e = .returned (.tuple #[.slice none 0 0, .iface 58 (fl 5 221)]) := by
    rcases h3 with ⟨h, _⟩ | ⟨_, h⟩
    · exact absurd h (by show ¬ (221 : Int) = 0; omega)
    · exact h
  have H3 : Hid (Below w.heap.size w W3) := below_tr H2.out hb3
  clear h3 hb3
  go_wp2_with fail
  refine (fault_yes 2 220 (by omega) W3).mono ?_
  rintro e W4 ⟨rfl, hb4⟩
  have H4 : Hid (Below w.heap.size w W4) := below_tr H3.out hb4
  clear hb4
  go_wp2_with fail
  refine (fault_yes 5 221 (by omega) W4).mono ?_
  rintro e W5 ⟨rfl, hb5⟩
  have H5 : Hid (Below w.heap.size w W5) := below_tr H4.out hb5
  clear hb5
  go_wp2
  go_ret
  exact ⟨rfl, H5.out⟩
#print axioms lives_is
end Go.Proofs.YtlbcpbibcfolkaaDoor.Oct
