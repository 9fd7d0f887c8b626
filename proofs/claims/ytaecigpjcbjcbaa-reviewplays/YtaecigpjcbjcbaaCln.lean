/-
  Layer 20 (review): slices.Clone; Open.
-/
import Derived.Test.YtaecigpjcbjcbaaVtr
import Derived.Test.YtaecigpjcbjcbaaPps
namespace Go.Proofs.Ytaecigpjcbjcbaa.Oct
open Go.RowKit
set_option linter.unusedSimpArgs false

theorem empty_row (w : World) (e sz : Nat) : (w.alloc (.cells #[] e)).ownsRow w.heap.size e sz (.slice (some ⟨w.heap.size, 0, none⟩) 0 0) 0 [] :=
  ⟨by simp, .inr ⟨w.heap.size, 0, #[], rfl, Nat.le_refl _, heap_alloc_new w _, Nat.le_refl _, by unfold maxLen; omega, by simp, by simp⟩⟩
theorem run_bs38_0 (W : World) : (Instr.buildSlice 38 0 #[]).run Try.prog W = .ok (.slice (some ⟨W.heap.size, 0, none⟩) 0 0) (W.alloc (.cells #[] 3)) := by kernel_rfl
theorem nil38 (W : World) : (binOp BinOp.eql 38 (.slice none 0 0) (.slice none 0 0)).run Try.prog W = .ok (.bool true) W := by kernel_rfl
theorem some38 (g n c : Nat) (W : World) : (binOp BinOp.eql 38 (.slice (some ⟨g, 0, none⟩) n c) (.slice none 0 0)).run Try.prog W = .ok (.bool false) W := by kernel_rfl
set_option maxRecDepth 100000 in
set_option maxHeartbeats 1000000 in
theorem clone37_is {w : World} {v : Value} {n : Nat} {cs : List Value} (h : Ow w 3 1 v n cs) (h1 : ∀ u ∈ cs, u.oneCell' = true) (hn : n ≤ 1000) :
    Calls Try.prog 37 #[v] w fun e w' => ∃ v', e = .returned v' ∧ w'.ownsRow w.heap.size 3 1 v' n cs ∧ Below w.heap.size w w' := by
  rcases h.2 with ⟨rfl, rfl⟩ | ⟨g, cap, cur, rfl, hB, hb, hc1, hc2, hc3, ht⟩
  · have e : cs = [] := List.eq_nil_of_length_eq_zero (by have := h.1; omega)
    subst e
    have hq := nil38
    clear h h1 hn
    go_enter Try.func37, Try.ntmps37
    go_wp2
    go_ret
    exact ⟨_, rfl, ⟨by simp, .inl ⟨rfl, rfl⟩⟩, Below.refl _ _⟩
  · obtain ⟨a, c', hv, _, _, _, hr⟩ := h.read
    obtain ⟨i0, hi0, hs1, hby, z, hz, hzs⟩ := sized3
    have HI0 : Hid (Try.prog.info? 3 = some i0 ∧ i0.zero = some z ∧ i0.size = 1 ∧ i0.bytes ≤ 1000 ∧ z.cells.size = 1) := ⟨hi0, hz, hs1, by omega, hzs⟩
    have HR : Hid (cs.length = n * 1 ∧ w.rangeAt g 0 cs ∧ g < w.heap.size ∧ (∀ u ∈ cs, u.oneCell' = true) ∧ n ≤ 1000) := by
      refine ⟨h.1, fun j u hu => ?_, lt_of_block hb, h1, hn⟩
      rw [Nat.zero_add, cell_of_row w g j _ 3 (0, 0) hb]
      rw [← ht, List.getElem?_take] at hu
      split at hu
      · simpa using hu
      · cases hu
    have hbs := run_bs38_0
    have hq := some38 g n cap
    clear h h1 hn hB hb hc1 hc2 hc3 ht hv hr hi0 hs1 hby hz hzs
    go_enter Try.func37, Try.ntmps37
    go_wp2_with (with_reducible change wpList _ _ _ ({ dst := some 7, op := _, type := _, pos := _, after := _, guard := _ } :: _) _ _; refine Hid.out ?_)
    show wpList _ _ _ _ _ _
    refine wpList_append_own1 rfl (.tmp 5) (.tmp 6) 38 rfl _ 3 i0 z 1 w.heap.size Try.underlying38 HI0.out.1 HI0.out.2.1 HI0.out.2.2.1 HI0.out.2.2.2.1 HI0.out.2.2.2.2 (by omega) _ 0 [] (empty_row w 3 1) g n cap cs rfl rfl HR.out.1 (rangeAt_same HR.out.2.1 (Below.heap_alloc w _ g HR.out.2.2.1)) HR.out.2.2.2.1 (by simp) (by have := HR.out.2.2.2.2; omega) ?_
    intro v5 w5 ho5 hg5
    have HF : Hid (w5.ownsRow w.heap.size 3 1 v5 n cs ∧ Below w.heap.size w w5) := by
      refine ⟨by have := ho5.out; rw [Nat.zero_add, List.nil_append] at this; exact this, (below_al w _).grown hg5.out (below_al w _).size (fun j hj => ?_)⟩
      cases hj
      exact Nat.le_refl _
    clear ho5 hg5
    go_wp2
    go_ret
    exact ⟨_, rfl, HF.out.1, HF.out.2⟩
#print axioms clone37_is
theorem run_bs41_0 (W : World) : (Instr.buildSlice 41 0 #[]).run Try.prog W = .ok (.slice (some ⟨W.heap.size, 0, none⟩) 0 0) (W.alloc (.cells #[] 50)) := by kernel_rfl
theorem nil41 (W : World) : (binOp BinOp.eql 41 (.slice none 0 0) (.slice none 0 0)).run Try.prog W = .ok (.bool true) W := by kernel_rfl
theorem some41 (g n c : Nat) (W : World) : (binOp BinOp.eql 41 (.slice (some ⟨g, 0, none⟩) n c) (.slice none 0 0)).run Try.prog W = .ok (.bool false) W := by kernel_rfl
set_option maxRecDepth 100000 in
set_option maxHeartbeats 1000000 in
theorem clone42_is {w : World} {v : Value} {n : Nat} {cs : List Value} (h : Ow w 50 2 v n cs) (h1 : ∀ u ∈ cs, u.oneCell' = true) (hn : n ≤ 1000) :
    Calls Try.prog 42 #[v] w fun e w' => ∃ v', e = .returned v' ∧ w'.ownsRow w.heap.size 50 2 v' n cs ∧ Below w.heap.size w w' := by
  rcases h.2 with ⟨rfl, rfl⟩ | ⟨g, cap, cur, rfl, hB, hb, hc1, hc2, hc3, ht⟩
  · have e : cs = [] := List.eq_nil_of_length_eq_zero (by have := h.1; omega)
    subst e
    have hq := nil41
    clear h h1 hn
    go_enter Try.func42, Try.ntmps42
    go_wp2
    go_ret
    exact ⟨_, rfl, ⟨by simp, .inl ⟨rfl, rfl⟩⟩, Below.refl _ _⟩
  · obtain ⟨a, c', hv, _, _, _, hr⟩ := h.read
    obtain ⟨i0, hi0, hs1, hby, z, hz, hzs⟩ := sized50
    have HI0 : Hid (Try.prog.info? 50 = some i0 ∧ i0.zero = some z ∧ i0.size = 2 ∧ i0.bytes ≤ 1000 ∧ z.cells.size = 2) := ⟨hi0, hz, hs1, by omega, hzs⟩
    have HR : Hid (cs.length = n * 2 ∧ w.rangeAt g 0 cs ∧ g < w.heap.size ∧ (∀ u ∈ cs, u.oneCell' = true) ∧ n ≤ 1000) := by
      refine ⟨h.1, fun j u hu => ?_, lt_of_block hb, h1, hn⟩
      rw [Nat.zero_add, cell_of_row w g j _ 50 (0, 0) hb]
      rw [← ht, List.getElem?_take] at hu
      split at hu
      · simpa using hu
      · cases hu
    have hbs := run_bs41_0
    have hq := some41 g n cap
    clear h h1 hn hB hb hc1 hc2 hc3 ht hv hr hi0 hs1 hby hz hzs
    go_enter Try.func42, Try.ntmps42
    go_wp2_with (with_reducible change wpList _ _ _ ({ dst := some 7, op := _, type := _, pos := _, after := _, guard := _ } :: _) _ _; refine Hid.out ?_)
    show wpList _ _ _ _ _ _
    refine wpList_append_own1 rfl (.tmp 5) (.tmp 6) 41 rfl _ 50 i0 z 2 w.heap.size Try.underlying41 HI0.out.1 HI0.out.2.1 HI0.out.2.2.1 HI0.out.2.2.2.1 HI0.out.2.2.2.2 (by omega) _ 0 [] (empty_row w 50 2) g n cap cs rfl rfl HR.out.1 (rangeAt_same HR.out.2.1 (Below.heap_alloc w _ g HR.out.2.2.1)) HR.out.2.2.2.1 (by simp) (by have := HR.out.2.2.2.2; omega) ?_
    intro v5 w5 ho5 hg5
    have HF : Hid (w5.ownsRow w.heap.size 50 2 v5 n cs ∧ Below w.heap.size w w5) := by
      refine ⟨by have := ho5.out; rw [Nat.zero_add, List.nil_append] at this; exact this, (below_al w _).grown hg5.out (below_al w _).size (fun j hj => ?_)⟩
      cases hj
      exact Nat.le_refl _
    clear ho5 hg5
    go_wp2
    go_ret
    exact ⟨_, rfl, HF.out.1, HF.out.2⟩
#print axioms clone42_is
theorem opn_one (l : List Nat) : ∀ u ∈ opnC l, u.oneCell' = true := by
  intro u hu
  obtain ⟨k, _, rfl⟩ := List.mem_map.1 hu
  rfl
theorem talk_one (l : List (BA × BA)) : ∀ u ∈ talkC l, u.oneCell' = true := by
  intro u hu
  obtain ⟨k, _, hk⟩ := List.mem_flatMap.1 hu
  simp only [List.mem_cons, List.not_mem_nil, or_false] at hk
  rcases hk with rfl | rfl <;> rfl
set_option maxRecDepth 100000 in
theorem open_is {w : World} {b K : Nat} {M : Br} (h : BAt w b M K) : Calls Try.prog 14 #[.pointer (some ⟨b, 0, none⟩)] w fun e w' => ∃ v', e = .returned v' ∧ w'.ownsRow w.heap.size 3 1 v' M.opn.length (opnC M.opn) ∧ Below w.heap.size w w' := by
  have HM := made_is h.blk
  have HC := clone37_is h.orow (opn_one _) (by have := h.nopn; omega)
  have c2 : w.cell? ⟨b, 2, none⟩ = some M.ov := h.blk.cell rfl
  obtain ⟨a, c, hv, _⟩ := h.orow.read
  rw [hv] at c2 HC
  clear h hv
  go_enter Try.func14, Try.ntmps14
  go_wp2_with fail
  refine HM.mono ?_
  rintro e w1 ⟨rfl, rfl⟩
  clear HM
  go_wp2_with fail
  refine HC.mono ?_
  rintro e w1 ⟨v', rfl, h1, h2⟩
  have HF : Hid (w1.ownsRow w.heap.size 3 1 v' M.opn.length (opnC M.opn) ∧ Below w.heap.size w w1) := ⟨h1, h2⟩
  clear HC h1 h2
  go_wp2_with fail
  go_ret
  exact ⟨_, rfl, HF.out.1, HF.out.2⟩
#print axioms open_is
end Go.Proofs.Ytaecigpjcbjcbaa.Oct
