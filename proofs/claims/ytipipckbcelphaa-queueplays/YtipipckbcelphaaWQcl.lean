/-
  Layer 21 (queue): slices.Clone, Waiting, Ended, slices.Delete.
-/
import Derived.Test.YtipipckbcelphaaWQue
import Derived.Shelf.Slices.Delete
import Derived.Lib.OwnBridge
namespace Go.Proofs.Ytipipckbcelphaa.Oct
open Go.Shelf Go.RowKit Go.Sort Go.Lib
set_option linter.unusedSimpArgs false

theorem run_bs27_0 (W : World) : (Instr.buildSlice 27 0 #[]).run Try.prog W = .ok (.slice (some ⟨W.heap.size, 0, none⟩) 0 0) (W.alloc (.cells #[] 3)) := by kernel_rfl
theorem nil27 (W : World) : (binOp BinOp.eql 27 (.slice none 0 0) (.slice none 0 0)).run Try.prog W = .ok (.bool true) W := by kernel_rfl
theorem some27 (g n c : Nat) (W : World) : (binOp BinOp.eql 27 (.slice (some ⟨g, 0, none⟩) n c) (.slice none 0 0)).run Try.prog W = .ok (.bool false) W := by kernel_rfl
set_option maxRecDepth 100000 in
set_option maxHeartbeats 1000000 in
theorem clone42_is {w : World} {v : Value} {n : Nat} {cs : List Value} (h : Ow w 3 1 v n cs) (h1 : ∀ u ∈ cs, u.oneCell' = true) (hn : n ≤ 3000000000000) :
    Calls Try.prog 42 #[v] w fun e w' => ∃ v', e = .returned v' ∧ w'.ownsRow w.heap.size 3 1 v' n cs ∧ Below w.heap.size w w' := by
  rcases h.2 with ⟨rfl, rfl⟩ | ⟨g, cap, cur, rfl, hB, hb, hc1, hc2, hc3, ht⟩
  · have e : cs = [] := List.eq_nil_of_length_eq_zero (by have := h.1; omega)
    subst e
    have hq := nil27
    clear h h1 hn
    go_enter Try.func42, Try.ntmps42
    go_wp2
    go_ret
    exact ⟨_, rfl, ⟨by simp, .inl ⟨rfl, rfl⟩⟩, Below.refl _ _⟩
  · obtain ⟨a, c', hv, _, _, _, hr⟩ := h.read
    obtain ⟨i0, hi0, hs1, hby, z, hz, hzs⟩ := sized3
    have HI0 : Hid (Try.prog.info? 3 = some i0 ∧ i0.zero = some z ∧ i0.size = 1 ∧ i0.bytes ≤ 24 ∧ z.cells.size = 1) := ⟨hi0, hz, hs1, by omega, hzs⟩
    have HR : Hid (cs.length = n * 1 ∧ w.rangeAt g 0 cs ∧ g < w.heap.size ∧ (∀ u ∈ cs, u.oneCell' = true) ∧ n ≤ 3000000000000) := by
      refine ⟨h.1, fun j u hu => ?_, lt_of_block hb, h1, hn⟩
      rw [Nat.zero_add, cell_of_row w g j _ 3 (0, 0) hb]
      rw [← ht, List.getElem?_take] at hu
      split at hu
      · simpa using hu
      · cases hu
    have hbs := run_bs27_0
    have hq := some27 g n cap
    clear h h1 hn hB hb hc1 hc2 hc3 ht hv hr hi0 hs1 hby hz hzs
    go_enter Try.func42, Try.ntmps42
    go_wp2_with (with_reducible change wpList _ _ _ ({ dst := some 7, op := _, type := _, pos := _, after := _, guard := _ } :: _) _ _; refine Hid.out ?_)
    show wpList _ _ _ _ _ _
    refine wpList_append_own1 rfl (.tmp 5) (.tmp 6) 27 rfl _ 3 i0 z 1 w.heap.size Try.underlying27 HI0.out.1 HI0.out.2.1 HI0.out.2.2.1 HI0.out.2.2.2.1 HI0.out.2.2.2.2 (by omega) _ 0 [] (empty_row w 3 1) g n cap cs rfl rfl HR.out.1 (rangeAt_same HR.out.2.1 (Below.heap_alloc w _ g HR.out.2.2.1)) HR.out.2.2.2.1 (by simp) (by have := HR.out.2.2.2.2; omega) ?_
    intro v5 w5 ho5 hg5
    have HF : Hid (w5.ownsRow w.heap.size 3 1 v5 n cs ∧ Below w.heap.size w w5) := by
      refine ⟨by have := ho5.out; rw [Nat.zero_add, List.nil_append] at this; exact this, (below_al w _).grown hg5.out (below_al w _).size (fun j hj => ?_)⟩
      cases hj
      exact Nat.le_refl _
    clear ho5 hg5
    go_wp2
    go_ret
    exact ⟨_, rfl, HF.out.1, HF.out.2⟩
#print axioms clone42_is
theorem run_bs28_0 (W : World) : (Instr.buildSlice 28 0 #[]).run Try.prog W = .ok (.slice (some ⟨W.heap.size, 0, none⟩) 0 0) (W.alloc (.cells #[] 38)) := by kernel_rfl
theorem nil28 (W : World) : (binOp BinOp.eql 28 (.slice none 0 0) (.slice none 0 0)).run Try.prog W = .ok (.bool true) W := by kernel_rfl
theorem some28 (g n c : Nat) (W : World) : (binOp BinOp.eql 28 (.slice (some ⟨g, 0, none⟩) n c) (.slice none 0 0)).run Try.prog W = .ok (.bool false) W := by kernel_rfl
set_option maxRecDepth 100000 in
set_option maxHeartbeats 1000000 in
theorem clone43_is {w : World} {v : Value} {n : Nat} {cs : List Value} (h : Ow w 38 3 v n cs) (h1 : ∀ u ∈ cs, u.oneCell' = true) (hn : n ≤ 3000000000000) :
    Calls Try.prog 43 #[v] w fun e w' => ∃ v', e = .returned v' ∧ w'.ownsRow w.heap.size 38 3 v' n cs ∧ Below w.heap.size w w' := by
  rcases h.2 with ⟨rfl, rfl⟩ | ⟨g, cap, cur, rfl, hB, hb, hc1, hc2, hc3, ht⟩
  · have e : cs = [] := List.eq_nil_of_length_eq_zero (by have := h.1; omega)
    subst e
    have hq := nil28
    clear h h1 hn
    go_enter Try.func43, Try.ntmps43
    go_wp2
    go_ret
    exact ⟨_, rfl, ⟨by simp, .inl ⟨rfl, rfl⟩⟩, Below.refl _ _⟩
  · obtain ⟨a, c', hv, _, _, _, hr⟩ := h.read
    obtain ⟨i0, hi0, hs1, hby, z, hz, hzs⟩ := sized38
    have HI0 : Hid (Try.prog.info? 38 = some i0 ∧ i0.zero = some z ∧ i0.size = 3 ∧ i0.bytes ≤ 24 ∧ z.cells.size = 3) := ⟨hi0, hz, hs1, by omega, hzs⟩
    have HR : Hid (cs.length = n * 3 ∧ w.rangeAt g 0 cs ∧ g < w.heap.size ∧ (∀ u ∈ cs, u.oneCell' = true) ∧ n ≤ 3000000000000) := by
      refine ⟨h.1, fun j u hu => ?_, lt_of_block hb, h1, hn⟩
      rw [Nat.zero_add, cell_of_row w g j _ 38 (0, 0) hb]
      rw [← ht, List.getElem?_take] at hu
      split at hu
      · simpa using hu
      · cases hu
    have hbs := run_bs28_0
    have hq := some28 g n cap
    clear h h1 hn hB hb hc1 hc2 hc3 ht hv hr hi0 hs1 hby hz hzs
    go_enter Try.func43, Try.ntmps43
    go_wp2_with (with_reducible change wpList _ _ _ ({ dst := some 7, op := _, type := _, pos := _, after := _, guard := _ } :: _) _ _; refine Hid.out ?_)
    show wpList _ _ _ _ _ _
    refine wpList_append_own1 rfl (.tmp 5) (.tmp 6) 28 rfl _ 38 i0 z 3 w.heap.size Try.underlying28 HI0.out.1 HI0.out.2.1 HI0.out.2.2.1 HI0.out.2.2.2.1 HI0.out.2.2.2.2 (by omega) _ 0 [] (empty_row w 38 3) g n cap cs rfl rfl HR.out.1 (rangeAt_same HR.out.2.1 (Below.heap_alloc w _ g HR.out.2.2.1)) HR.out.2.2.2.1 (by simp) (by have := HR.out.2.2.2.2; omega) ?_
    intro v5 w5 ho5 hg5
    have HF : Hid (w5.ownsRow w.heap.size 38 3 v5 n cs ∧ Below w.heap.size w w5) := by
      refine ⟨by have := ho5.out; rw [Nat.zero_add, List.nil_append] at this; exact this, (below_al w _).grown hg5.out (below_al w _).size (fun j hj => ?_)⟩
      cases hj
      exact Nat.le_refl _
    clear ho5 hg5
    go_wp2
    go_ret
    exact ⟨_, rfl, HF.out.1, HF.out.2⟩
#print axioms clone43_is
set_option maxRecDepth 100000 in
theorem waiting_is {w : World} {b K : Nat} {M : Qu} {T : Value} (h : QAt w b M T K) : Calls Try.prog 23 #[.pointer (some ⟨b, 0, none⟩)] w fun e w' => ∃ v', e = .returned v' ∧ w'.ownsRow w.heap.size 3 1 v' M.W.length (ivs M.W) ∧ Below w.heap.size w w' := by
  have c0 : w.cell? ⟨b, 0, none⟩ = some (.bool true) := h.blk.cell rfl
  have HM := isMade_is c0
  have HC := clone42_is h.wrow (ivs_one _) (by have h1 := h.nW; have h2 := h.nE; have h3 := h.few; omega)
  have c2 : w.cell? ⟨b, 1, none⟩ = some M.wv := h.blk.cell rfl
  obtain ⟨a, c, hv, _⟩ := h.wrow.read
  rw [hv] at c2 HC
  clear h hv
  go_enter Try.func23, Try.ntmps23
  go_wp2_with fail
  refine HM.mono ?_
  rintro e w1 ⟨rfl, rfl⟩
  clear HM
  go_wp2_with fail
  refine HC.mono ?_
  rintro e w1 ⟨v', rfl, h1, h2⟩
  have HF : Hid (w1.ownsRow w.heap.size 3 1 v' M.W.length (ivs M.W) ∧ Below w.heap.size w w1) := ⟨h1, h2⟩
  clear HC h1 h2
  go_wp2_with fail
  go_ret
  exact ⟨_, rfl, HF.out.1, HF.out.2⟩
#print axioms waiting_is
set_option maxRecDepth 100000 in
theorem ended_is {w : World} {b K : Nat} {M : Qu} {T : Value} (h : QAt w b M T K) : Calls Try.prog 24 #[.pointer (some ⟨b, 0, none⟩)] w fun e w' => ∃ v', e = .returned v' ∧ w'.ownsRow w.heap.size 38 3 v' M.E.length (qdC M.E) ∧ Below w.heap.size w w' := by
  have c0 : w.cell? ⟨b, 0, none⟩ = some (.bool true) := h.blk.cell rfl
  have HM := isMade_is c0
  have HC := clone43_is h.erow (qdC_one _) (by have h1 := h.nW; have h2 := h.nE; have h3 := h.few; omega)
  have c2 : w.cell? ⟨b, 2, none⟩ = some M.ev := h.blk.cell rfl
  obtain ⟨a, c, hv, _⟩ := h.erow.read
  rw [hv] at c2 HC
  clear h hv
  go_enter Try.func24, Try.ntmps24
  go_wp2_with fail
  refine HM.mono ?_
  rintro e w1 ⟨rfl, rfl⟩
  clear HM
  go_wp2_with fail
  refine HC.mono ?_
  rintro e w1 ⟨v', rfl, h1, h2⟩
  have HF : Hid (w1.ownsRow w.heap.size 38 3 v' M.E.length (qdC M.E) ∧ Below w.heap.size w w1) := ⟨h1, h2⟩
  clear HC h1 h2
  go_wp2_with fail
  go_ret
  exact ⟨_, rfl, HF.out.1, HF.out.2⟩
#print axioms ended_is
def laysDel_ren : Go.Shelf.Ren := ⟨fun | 23 => 45 | n => n, fun | 22 => 27 | n => n, fun | n => n⟩
theorem laysDel : Go.Proofs.Lays2.n23 Try.prog laysDel_ren := {
  mixed := by kernel_rfl
  f23 := Try.func45.trans (congrArg some (by kernel_rfl))
  t0 := Try.underlying0
  a0 := Try.isAgg0
  z0 := Try.sizeOf0
  v0 := Try.zeroValue0
  t3 := Try.underlying3
  a3 := Try.isAgg3
  z3 := Try.sizeOf3
  v3 := Try.zeroValue3
  t4 := Try.underlying4
  a4 := Try.isAgg4
  z4 := Try.sizeOf4
  v4 := Try.zeroValue4
  t22 := Try.underlying27
  a22 := Try.isAgg27
  z22 := Try.sizeOf27
  v22 := Try.zeroValue27
  i3 := by kernel_rfl }
theorem grown_putRow {w : World} {g q : Nat} {d : Array Int} : w.grownBy (putRow (Value.int .i64) (Sort.ahead w q) g 0 d) (some g) :=
  ⟨rfl, rfl, rfl, by simp [putRow, mapBlock, Sort.ahead], fun k _ hne => by
    have : g ≠ k := fun e => hne (by rw [e])
    simp [putRow, mapBlock, Sort.ahead, Array.getElem?_modify, this]⟩
/-- a number taken out of a row of the call's own -/
theorem delete_is {w : World} {v : Value} {l : List Int} {k : Nat} (h : Ow w 3 1 v l.length (ivs l)) (hk : k < l.length) :
    Calls Try.prog 45 #[v, iv (k : Int), iv ((k + 1 : Nat) : Int)] w fun e w' => ∃ v', e = .returned v' ∧ v'.ownBlock = v.ownBlock ∧ Ow w' 3 1 v' (l.length - 1) (ivs (l.eraseIdx k)) ∧ w.grownBy w' v.ownBlock := by
  rcases h.2 with ⟨_, h0⟩ | ⟨g, cap, cur, rfl, hB, hb, hnc, hcm, hcs, ht⟩
  · omega
  have hH : Holds (Value.int .i64) w g 0 l.toArray := by
    intro j hj
    have hj' : j < l.length := by simpa using hj
    refine ⟨?_, by simp [World.frozen?, hb]⟩
    have h1 : (cur.toList.take (l.length * 1))[j]? = (ivs l)[j]? := by rw [ht]
    rw [List.getElem?_take_of_lt (by omega)] at h1
    rw [Nat.zero_add, cell_of_row w g j _ 3 (0, 0) hb, ← Array.getElem?_toList, h1]
    simp [ivs, hj']
  have hc := Any.slices_Delete_int laysDel g 0 cap k (k + 1) l w hH hnc (by unfold maxLen at hcm; omega) (by omega) (by omega)
  refine (show Calls Try.prog 45 _ _ _ from hc).mono ?_
  rintro e w' ⟨rfl, q, rfl⟩
  refine ⟨_, rfl, rfl, ?_, grown_putRow⟩
  have hle : (l.eraseIdx k).length = l.length - 1 := by rw [List.length_eraseIdx, if_pos hk]
  have := ownsRow_putRow (q := q) (k := (l.eraseIdx k).length) (ys := l.eraseIdx k ++ List.replicate 1 0) (enc := Value.int .i64) (zs := l) h (by simp; omega) (by omega)
  rw [List.take_left] at this
  rw [show k + 1 - k = 1 by omega, ← List.eraseIdx_eq_take_drop_succ, ← hle]
  exact this
#print axioms delete_is
end Go.Proofs.Ytipipckbcelphaa.Oct
