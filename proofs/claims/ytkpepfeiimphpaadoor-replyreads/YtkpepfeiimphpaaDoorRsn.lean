/-
  Layer 24 (reply): Reason.
-/
import Derived.Test.YtkpepfeiimphpaaDoorBlk
import Derived.Test.YtkpepfeiimphpaaDoorTyp
namespace Go.Proofs.YtkpepfeiimphpaaDoor.Oct
open Go.RowKit
set_option linter.unusedSimpArgs false
set_option linter.unusedVariables false

def tabC : List Value := tabR.flatMap fun r => [iv r.1, .string r.2]
theorem size42 : (Tryd.prog.info? 42).map (·.size) = some 28 := by kernel_rfl
theorem size41 : (Tryd.prog.info? 41).map (·.size) = some 2 := by kernel_rfl
theorem tab_one : ∀ v ∈ tabC, v.oneCell' = true := by
  intro v hv
  obtain ⟨r, _, hr⟩ := List.mem_flatMap.1 hv
  simp at hr
  rcases hr with rfl | rfl <;> rfl
theorem tab_len : tabC.length = 28 := rfl
set_option maxRecDepth 100000 in
theorem tab_idx (W : World) : ∀ (i : Nat) (r : Int × BA), tabR[i]? = some r → (Instr.index 42 (.agg tabC.toArray) (iv (i : Int))).run Tryd.prog W = .ok (.agg #[iv r.1, .string r.2]) W
  | 0, r, h => by simp only [tabR, List.getElem?_cons_succ, List.getElem?_cons_zero] at h; cases h; kernel_rfl
  | 1, r, h => by simp only [tabR, List.getElem?_cons_succ, List.getElem?_cons_zero] at h; cases h; kernel_rfl
  | 2, r, h => by simp only [tabR, List.getElem?_cons_succ, List.getElem?_cons_zero] at h; cases h; kernel_rfl
  | 3, r, h => by simp only [tabR, List.getElem?_cons_succ, List.getElem?_cons_zero] at h; cases h; kernel_rfl
  | 4, r, h => by simp only [tabR, List.getElem?_cons_succ, List.getElem?_cons_zero] at h; cases h; kernel_rfl
  | 5, r, h => by simp only [tabR, List.getElem?_cons_succ, List.getElem?_cons_zero] at h; cases h; kernel_rfl
  | 6, r, h => by simp only [tabR, List.getElem?_cons_succ, List.getElem?_cons_zero] at h; cases h; kernel_rfl
  | 7, r, h => by simp only [tabR, List.getElem?_cons_succ, List.getElem?_cons_zero] at h; cases h; kernel_rfl
  | 8, r, h => by simp only [tabR, List.getElem?_cons_succ, List.getElem?_cons_zero] at h; cases h; kernel_rfl
  | 9, r, h => by simp only [tabR, List.getElem?_cons_succ, List.getElem?_cons_zero] at h; cases h; kernel_rfl
  | 10, r, h => by simp only [tabR, List.getElem?_cons_succ, List.getElem?_cons_zero] at h; cases h; kernel_rfl
  | 11, r, h => by simp only [tabR, List.getElem?_cons_succ, List.getElem?_cons_zero] at h; cases h; kernel_rfl
  | 12, r, h => by simp only [tabR, List.getElem?_cons_succ, List.getElem?_cons_zero] at h; cases h; kernel_rfl
  | 13, r, h => by simp only [tabR, List.getElem?_cons_succ, List.getElem?_cons_zero] at h; cases h; kernel_rfl
  | n + 14, r, h => by simp [tabR] at h
theorem zero42_ex : ∃ Z : List Value, Z.length = 28 ∧ ∀ W, (zeroValue 42).run Tryd.prog W = .ok (.agg Z.toArray) W := by
  refine ⟨(List.replicate 14 [iv 0, .string ⟨#[]⟩]).flatten, rfl, fun W => ?_⟩
  kernel_rfl
theorem zero41 (W : World) : (zeroValue 41).run Tryd.prog W = .ok (.agg #[iv 0, .string ⟨#[]⟩]) W := by kernel_rfl
theorem wpList_run {ops : Array Oper} {rest : List Oper} {o : Oper} {a : Act} {w : World} {Q : Exit → Act → World → Prop} (hg : o.guard = none) (v : Value) (hrun : ∀ W, (execOp a.eval o).run Tryd.prog W = .ok (.value v) W)
    (hK : wpList Tryd.prog ops Q rest (a.put o.dst v) w) : wpList Tryd.prog ops Q (o :: rest) a w := by
  refine wpList_plain hg fun K hK' => ?_
  unfold Oper.wp
  rw [hrun]
  exact hK' _ _ hK
theorem tab_hit {n : Int} {i : Nat} {r : Int × BA} (h : tabR[i]? = some r) (hr : r.1 = n) (hn : ∀ (j : Nat) (y : Int × BA), j < i → tabR[j]? = some y → y.1 ≠ n) : reasonS n = r.2 := by
  unfold reasonS
  have : tabR.find? (fun r => r.1 == n) = some r := by
    rw [List.find?_eq_some_iff_getElem]
    obtain ⟨h1, h2⟩ := List.getElem?_eq_some_iff.1 h
    refine ⟨by simpa using hr, i, h1, h2, fun j hj => ?_⟩
    have := hn j tabR[j] hj (List.getElem?_eq_getElem (by omega))
    simpa using this
  rw [this]; rfl
set_option maxRecDepth 100000 in
set_option maxHeartbeats 4000000 in
theorem reason_is (n : Int) (w : World) : Calls Tryd.prog 10 #[iv n] w fun e w' => e = .returned (.string (reasonS n)) ∧ Below w.heap.size w w' := by
  obtain ⟨s, hs⟩ : ∃ s, reasonS n = s := ⟨_, rfl⟩
  have HS : Hid (reasonS n = s) := hs
  rw [hs]
  obtain ⟨Z, hZ, hz⟩ := zero42_ex
  have HZ : Hid (Z.length = 28) := hZ
  have hz41 := zero41
  obtain ⟨b, hb⟩ : ∃ b, w.heap.size = b := ⟨_, rfl⟩
  have HB : Hid (w.heap.size = b) := hb
  obtain ⟨T, hT⟩ : ∃ T, tabC = T := ⟨_, rfl⟩
  have HT : Hid (tabC = T ∧ T.length = 28 ∧ (∀ v ∈ T, v.oneCell' = true) ∧ ∀ W (i : Nat) (r : Int × BA), tabR[i]? = some r → (Instr.index 42 (.agg T.toArray) (iv (i : Int))).run Tryd.prog W = .ok (.agg #[iv r.1, .string r.2]) W) := by
    rw [← hT]; exact ⟨rfl, tab_len, tab_one, tab_idx⟩
  clear hs hZ hT
  go_enter Tryd.func10, Tryd.ntmps10
  go_wp2_with (with_reducible change wpList _ _ _ ({ dst := some 20, op := _, type := _, pos := _, after := _, guard := _ } :: _) _ _; refine Hid.out ?_)
  show wpList _ _ _ _ _ _
  refine wpList_run rfl (.agg T.toArray) (by intro W; rw [← HT.out.1]; kernel_rfl) ?_
  simp only [Act.put, List.setIfInBounds_toArray, List.set_cons_zero, List.set_cons_succ]
  go_wp2_with (with_reducible change wpList _ _ _ ({ dst := none, op := Op.store 42 _ _, type := _, pos := _, after := _, guard := _ } :: _) _ _; refine Hid.out ?_)
  show wpList _ _ _ _ _ _
  refine wpList_store_blk rfl 42 (.tmp 3) (.tmp 20) rfl b 0 42 Z T rfl rfl (by rw [← HB.out]; simpa using Blk.new w Z.toArray 42) (by rw [HZ.out, HT.out.2.1]; omega) (by rw [HT.out.2.1]; exact size42) HT.out.2.2.1 ?_
  intro V hb5 hg5
  have HV : Hid (Below w.heap.size w V ∧ Blk V b 42 T) := by
    refine ⟨(below_al w _).grown hg5.out (below_al w _).size (fun j hj => by cases hj; exact Nat.le_of_eq HB.out), ?_⟩
    have := hb5.out
    rw [List.take_zero, List.nil_append, List.drop_of_length_le (by rw [HZ.out, HT.out.2.1]; omega), List.append_nil] at this
    exact this
  clear hb5 hg5 hb
  simp only [Act.put, List.setIfInBounds_toArray, List.set_cons_zero, List.set_cons_succ]
  go_wp2_with (with_reducible change wpList _ _ _ ({ dst := some 21, op := _, type := _, pos := _, after := _, guard := _ } :: _) _ _; refine Hid.out ?_)
  show wpList _ _ _ _ _ _
  refine wpList_load_row rfl 42 (.tmp 3) rfl b rfl 42 T.toArray (0, 0) _ HV.out.2 Tryd.underlying42 rfl (by rw [List.size_toArray, HT.out.2.1]; exact size42) ?_
  simp only [Act.put, List.setIfInBounds_toArray, List.set_cons_zero, List.set_cons_succ]
  go_wp2
  go_loopw [22] (fun u wr => ∃ i : Nat, u = iv (i : Int) ∧ Hid (i ≤ 14 ∧ (∀ (j : Nat) (y : Int × BA), j < i → tabR[j]? = some y → y.1 ≠ n) ∧ Below w.heap.size w wr)) (fun u _ => 14 - (intOf u).toNat)
  case atStart => exact ⟨0, rfl, Nat.zero_le _, fun j y hj => absurd hj (by omega), HV.out.1⟩
  case round =>
    obtain ⟨i, rfl, HI⟩ := hrel
    by_cases hi : i = 14
    · have q1 : (14 : Int) ≤ (i : Int) := by omega
      have HF : Hid (s = ⟨#[83, 116, 97, 116, 117, 115]⟩ ∧ Below w.heap.size w wr) := by
        refine ⟨?_, HI.out.2.2⟩
        rw [← HS.out]
        refine reason_none fun r hr => ?_
        obtain ⟨j, hj⟩ := List.mem_iff_getElem?.1 hr
        have := (List.getElem?_eq_some_iff.1 hj).1
        exact HI.out.2.1 j r (by rw [hi]; exact this) hj
      clear hi
      go_wp2
      go_ret
      exact ⟨by rw [HF.out.1]; rfl, HF.out.2⟩
    · have q2 : i < 14 := by have := HI.out.1; omega
      have q1 : (i : Int) < 14 := by omega
      have HI2 : Hid (i < 14) := q2
      obtain ⟨r, hr⟩ : ∃ r, tabR[i]? = some r := ⟨_, List.getElem?_eq_getElem q2⟩
      have HRR : Hid (tabR[i]? = some r) := hr
      have hix := HT.out.2.2.2 wr i r hr
      obtain ⟨k, hk⟩ : ∃ k, r.1 = k := ⟨_, rfl⟩
      obtain ⟨t, ht⟩ : ∃ k, r.2 = k := ⟨_, rfl⟩
      have HKT : Hid (r.1 = k ∧ r.2 = t) := ⟨hk, ht⟩
      rw [hk, ht] at hix
      obtain ⟨q, hq⟩ : ∃ q, wr.heap.size = q := ⟨_, rfl⟩
      have HQ : Hid (wr.heap.size = q) := hq
      clear hi hr hk ht
      go_wp2_with (with_reducible change wpList _ _ _ ({ dst := none, op := Op.store 41 _ _, type := _, pos := _, after := _, guard := _ } :: _) _ _; refine Hid.out ?_)
      show wpList _ _ _ _ _ _
      refine wpList_store_blk rfl 41 (.tmp 5) (.tmp 24) rfl q 0 41 [iv 0, .string ⟨#[]⟩] [iv k, .string t] rfl rfl (by rw [← HQ.out]; simpa using Blk.new wr #[iv 0, .string ⟨#[]⟩] 41) (by simp) size41 (by intro v hv; simp at hv; rcases hv with rfl | rfl <;> rfl) ?_
      intro V2 hb6 hg6
      have HV2 : Hid (Below w.heap.size w V2) := below_tr HI.out.2.2 ((below_al wr _).grown hg6.out (below_al wr _).size (fun j hj => by cases hj; exact Nat.le_of_eq HQ.out))
      have hbk : Blk V2 q 41 [iv k, .string t] := by simpa using hb6.out
      have c0 : V2.cell? ⟨q, 0, none⟩ = some (iv k) := hbk.cell rfl
      have c1 : V2.cell? ⟨q, 1, none⟩ = some (.string t) := hbk.cell rfl
      clear hb6 hg6 hbk hq hix
      by_cases he : k = n
      · have e1 : (k == n) = true := by simpa using he
        have HF : Hid (s = t) := by show _ = _; rw [← HS.out, ← HKT.out.2]; exact tab_hit HRR.out (HKT.out.1.trans he) HI.out.2.1
        clear he
        go_wp2
        go_ret
        exact ⟨by rw [HF.out]; rfl, HV2.out⟩
      · have e1 : (k == n) = false := by simpa using he
        have HF : Hid (i + 1 ≤ 14 ∧ (∀ (j : Nat) (y : Int × BA), j < i + 1 → tabR[j]? = some y → y.1 ≠ n) ∧ Below w.heap.size w V2) := ⟨HI2.out, fun j y hj hy => by
          by_cases ej : j = i
          · subst ej; rw [HRR.out] at hy; cases hy; rw [HKT.out.1]; exact he
          · exact HI.out.2.1 j y (by omega) hy, HV2.out⟩
        clear he
        go_wp2
        go_roundw
        case rel => exact ⟨i + 1, by simp, HF.out⟩
        case measure =>
          have := HI2.out
          simp only [intOf]
          omega
#print axioms reason_is
end Go.Proofs.YtkpepfeiimphpaaDoor.Oct
