/-
  Layer 24 (reply): the law ReplyReads.
-/
import Derived.Test.YtkpepfeiimphpaaDoorRde
import Derived.Test.YtkpepfeiimphpaaDoorPLw
namespace Go.Proofs.YtkpepfeiimphpaaDoor.Oct
open Go.RowKit
set_option linter.unusedSimpArgs false
set_option linter.unusedVariables false

theorem rd_form {l : List UInt8} {e : Ending} (h : RdP l e) : ∃ (st : Int) (ty bo : BA) (cl : Bool) (n k : Int), e = .returned (.tuple #[.agg (rpc st ty bo cl).toArray, iv n, iv k]) := by
  rcases h with ⟨st, ty, bo, cl, rfl, _⟩ | ⟨rfl, _⟩
  · exact ⟨st, ty, bo, cl, _, _, rfl⟩
  · exact ⟨0, e0, e0, false, _, _, rfl⟩
set_option maxRecDepth 100000 in
set_option maxHeartbeats 1000000 in
theorem reads_law (s : BA) (hs : s.size ≤ 140737488355328) (w : World) (hp : PT w) (hm : MX w) (hx : SX w) : Calls Tryd.prog 4 #[.string s] w fun e w' => e = .returned (.bool true) ∧ Below w.heap.size w w' := by
  obtain ⟨n, hn⟩ : ∃ n, s.size = n := ⟨_, rfl⟩
  have HN : Hid (s.size = n) := hn
  have HP : Hid (PT w ∧ MX w ∧ SX w) := ⟨hp, hm, hx⟩
  have qn : (n : Int) ≤ 140737488355328 := by omega
  clear hp hm hx hs
  by_cases h1 : (140000 : Int) < (n : Int)
  · have HLV := lives_is w HP.out.1
    go_enter Tryd.func4, Tryd.ntmps4
    go_wp2_with fail
    refine HLV.mono ?_
    rintro e V ⟨rfl, hb⟩
    have HB : Hid (Below w.heap.size w V) := hb
    clear HLV hb
    go_wp2
    go_ret
    exact ⟨rfl, HB.out⟩
  · have q1 : (n : Int) ≤ 140000 := by omega
    have HS : Hid (s.size ≤ 140000) := by show _ ≤ _; omega
    clear h1
    go_enter Tryd.func4, Tryd.ntmps4
    go_wp2_with fail
    refine (read_is s HS.out w HP.out.1 HP.out.2.1 HP.out.2.2).mono ?_
    rintro e W1 ⟨hr, hb⟩
    obtain ⟨st, ty, bo, cl, n1, k1, rfl⟩ := rd_form hr
    have HR : Hid (RdP s.data.toList (.returned (.tuple #[.agg (rpc st ty bo cl).toArray, iv n1, iv k1]))) := hr
    have HB : Hid (Below w.heap.size w W1) := hb
    clear hr hb
    go_wp2_with (with_reducible change wpList _ _ _ ({ dst := none, op := Op.store 23 _ _, type := _, pos := _, after := _, guard := _ } :: _) _ _; refine Hid.out ?_)
    show wpList _ _ _ _ _ _
    refine wpList_store_blk rfl 23 (.tmp 3) (.tmp 16) rfl W1.heap.size 0 23 _ (rpc st ty bo cl) rfl rfl (Blk.new W1 _ _) (by show 4 ≤ 4; exact Nat.le_refl _) size23 (rpc_one _ _ _ _) ?_
    intro W2 hx2 hg2
    obtain ⟨b2, hb2⟩ : ∃ b, W1.heap.size = b := ⟨_, rfl⟩
    rw [hb2] at hx2 hg2 ⊢
    have H2 : Hid (Below w.heap.size w W2 ∧ Blk W2 b2 23 (rpc st ty bo cl) ∧ w.heap.size ≤ b2) := by
      have e := below_tr HB.out (below_al W1 (Obj.cells #[iv 0, .string ⟨#[]⟩, .string ⟨#[]⟩, .bool false] 23))
      refine ⟨?_, by simpa using hx2.out, by rw [← hb2]; exact HB.out.size⟩
      obtain ⟨a1, a2, a3, a4, a5⟩ := hg2.out
      obtain ⟨b1, c2, b3, b4, b5⟩ := e
      exact ⟨a1.trans b1, a2.trans c2, a3.trans b3, Nat.le_trans b4 a4, fun k hk => (a5 k (Nat.lt_of_lt_of_le hk b4) (by have := HB.out.size; simp; omega)).trans (b5 k hk)⟩
    clear hx2 hg2 HB hb2
    go_wp2_with fail
    refine (rread_is s (Nat.le_trans HS.out (by decide)) W2 (HP.out.1.below H2.out.1)).mono ?_
    rintro e W3 ⟨hr, hb⟩
    obtain rfl := rd_one HR.out hr
    have H3 : Hid (Below w.heap.size w W3 ∧ Blk W3 b2 23 (rpc st ty bo cl)) := ⟨below_tr H2.out.1 hb, H2.out.2.1.below hb H2.out.2.1.lt⟩
    have HL : Hid (w.heap.size ≤ b2) := H2.out.2.2
    clear hr hb H2 HR
    go_wp2_with (with_reducible change wpList _ _ _ ({ dst := none, op := Op.store 23 _ _, type := _, pos := _, after := _, guard := _ } :: _) _ _; refine Hid.out ?_)
    show wpList _ _ _ _ _ _
    refine wpList_store_blk rfl 23 (.tmp 6) (.tmp 22) rfl W3.heap.size 0 23 _ (rpc st ty bo cl) rfl rfl (Blk.new W3 _ _) (by show 4 ≤ 4; exact Nat.le_refl _) size23 (rpc_one _ _ _ _) ?_
    intro W4 hx2 hg2
    obtain ⟨b4, hb4⟩ : ∃ b, W3.heap.size = b := ⟨_, rfl⟩
    rw [hb4] at hx2 hg2 ⊢
    have H4 : Hid (Below w.heap.size w W4 ∧ Blk W4 b2 23 (rpc st ty bo cl) ∧ Blk W4 b4 23 (rpc st ty bo cl)) := by
      have e1 := below_al W3 (Obj.cells #[iv 0, .string ⟨#[]⟩, .string ⟨#[]⟩, .bool false] 23)
      have e := below_tr H3.out.1 e1
      have l1 := H3.out.2.lt
      refine ⟨?_, (H3.out.2.below e1 l1).kept hg2.out (by simp; omega), by simpa using hx2.out⟩
      obtain ⟨a1, a2, a3, a4, a5⟩ := hg2.out
      obtain ⟨b1, c2, b3, b4, b5⟩ := e
      exact ⟨a1.trans b1, a2.trans c2, a3.trans b3, Nat.le_trans b4 a4, fun k hk => (a5 k (Nat.lt_of_lt_of_le hk b4) (by have := H3.out.1.size; simp; omega)).trans (b5 k hk)⟩
    clear hx2 hg2 H3 hb4
    have HLV := lives_is W4 (HP.out.1.below H4.out.1)
    go_wp2_with (with_reducible change wpList _ _ _ ({ dst := some 25, op := _, type := _, pos := _, after := _, guard := _ } :: _) _ _; refine Hid.out ?_)
    show wpList _ _ _ _ _ _
    refine wpList_load_row rfl 23 (.tmp 3) rfl b2 rfl 23 (rpc st ty bo cl).toArray (0, 0) _ H4.out.2.1 Tryd.underlying23 rfl size23 ?_
    go_wp2_with (with_reducible change wpList _ _ _ ({ dst := some 26, op := _, type := _, pos := _, after := _, guard := _ } :: _) _ _; refine Hid.out ?_)
    show wpList _ _ _ _ _ _
    refine wpList_load_row rfl 23 (.tmp 6) rfl b4 rfl 23 (rpc st ty bo cl).toArray (0, 0) _ H4.out.2.2 Tryd.underlying23 rfl size23 ?_
    go_wp2_with fail
    refine HLV.mono ?_
    rintro e V ⟨rfl, hb⟩
    have HB : Hid (Below w.heap.size w V) := below_tr H4.out.1 hb
    clear HLV hb
    go_wp2
    go_ret
    exact ⟨rfl, HB.out⟩
#print axioms reads_law
end Go.Proofs.YtkpepfeiimphpaaDoor.Oct
