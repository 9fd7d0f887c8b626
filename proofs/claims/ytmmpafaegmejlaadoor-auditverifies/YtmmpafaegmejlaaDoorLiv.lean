/-
  Layer 19 (audit): the chapter's example.
-/
import Derived.Test.YtmmpafaegmejlaaDoorLvr
namespace Go.Proofs.YtmmpafaegmejlaaDoor.Oct
open Go.RowKit Sha
set_option linter.unusedSimpArgs false
set_option linter.unusedVariables false

theorem dg_eq (D : List UInt8) (h : D.length = 32) (W : World) : (binOp .eql 35 (.agg (U D).toArray) (.agg (U D).toArray)).run Tryd.prog W = .ok (.bool true) W := by
  rw [eqHb D D h h]
  simp
theorem en_eq (x : En) (h : x.ok) (W : World) : (binOp .eql 37 (.agg x.cells.toArray) (.agg x.cells.toArray)).run Tryd.prog W = .ok (.bool true) W := by
  rw [eqB x x h h, (eqEn_iff x x).2 rfl]
theorem kt_lt {w : World} (h : ST w) : 0 < w.heap.size := h.1
set_option maxRecDepth 100000 in
set_option maxHeartbeats 2000000 in
theorem lives_is (w : World) (hk : KT w) (hs : ST w) : Calls Tryd.prog 10 #[] w fun e w' => e = .returned (.bool true) ∧ Below w.heap.size w w' := by
  have HK : Hid (KT w ∧ ST w) := ⟨hk, hs⟩
  obtain ⟨Z, hZ, HZ⟩ := zero37
  have HZL : Hid (Z.length = 36) := by show _ = _; rw [HZ.out]; exact En.len zE_ok
  clear hk hs HZ
  go_enter Tryd.func10, Tryd.ntmps10
  go_wp2_with fail
  refine (new_log w).mono ?_
  rintro e W1 ⟨L, c, rfl, hl, hb⟩
  have H1 : Hid (Lg W1 w.heap.size L c (.slice none 0 0) [] ∧ Below w.heap.size w W1) := ⟨hl.out, hb⟩
  clear hl hb
  go_wp2_with fail
  refine (append_is H1.out.1 (HK.out.1.below H1.out.2) (HK.out.2.below H1.out.2) H1.out.2.size 1 ⟨#[97, 110, 110]⟩ ⟨#[109, 97, 100, 101, 32, 111, 114, 103]⟩ (by decide) (by decide) (by decide)).mono ?_
  rintro e W2 ⟨rfl, v2, hl2, hp2, hk2⟩
  rw [nx1] at hl2 ⊢
  have H2 : Hid (Lg W2 w.heap.size L c v2 [xA] ∧ Below w.heap.size w W2) := by
    refine ⟨hl2, ?_⟩
    exact H1.out.2.trans (hk2.toBelow H1.out.2.size (fun k hk => hk.elim (fun e => by rw [e]; exact H1.out.1.bc) (fun e => (H1.out.1.row.lt e).1)))
  obtain ⟨g, hg⟩ : ∃ g, W2.heap.size = g := ⟨_, rfl⟩
  have HG : Hid (W2.heap.size = g ∧ w.heap.size ≤ g) := ⟨hg, by have := H2.out.2.size; omega⟩
  dsimp only
  obtain ⟨x, hx⟩ : ∃ x, xA = x := ⟨_, rfl⟩
  have HX : Hid (xA = x ∧ x.ok ∧ x.sz) := ⟨hx, by rw [← hx]; exact xA_ok.1, by rw [← hx]; exact xA_ok.2⟩
  rw [hx]
  clear hl2 hp2 hk2 H1 hx
  go_wp2_with (with_reducible change wpList _ _ _ ({ dst := none, op := Op.store 37 _ _, type := _, pos := _, after := _, guard := _ } :: _) _ _; refine Hid.out ?_)
  show wpList _ _ _ _ _ _
  refine wpList_store_blk rfl 37 (.tmp 2) (.tmp 10) rfl g 0 37 Z x.cells rfl rfl (by rw [← HG.out.1]; exact Blk.new W2 _ _) (by rw [HZL.out, En.len HX.out.2.1]; exact Nat.le_refl _) (info37 HX.out.2.1) (En.one _) ?_
  intro W3 hx3 hg3
  have H3 : Hid (Lg W3 w.heap.size L c v2 [xA] ∧ Below w.heap.size w W3 ∧ Blk W3 g 37 x.cells) := by
    have e := below_al W2 (.cells Z.toArray 37)
    have hgr := hg3.out
    have l1 := H2.out.1.below e
    have sz1 := HG.out.1
    refine ⟨l1.same (hgr.block L l1.lg.lt ?_) (hgr.block c l1.ch.lt ?_) (fun j hj => hgr.block j (l1.row.lt hj).2 ?_), below_gr (below_tr H2.out.2 e) hgr HG.out.2, blk_all hx3.out (by rw [HZL.out, En.len HX.out.2.1])⟩
    · have := H2.out.1.lg.lt; simp; omega
    · have := H2.out.1.ch.lt; simp; omega
    · have := (H2.out.1.row.lt hj).2; simp; omega
  have HLT : Hid (L < g ∧ c < g ∧ ∀ j, v2.ownBlock = some j → j < g) := by
    have sz1 := HG.out.1
    exact ⟨by have := H2.out.1.lg.lt; omega, by have := H2.out.1.ch.lt; omega, fun j hj => by have := (H2.out.1.row.lt hj).2; omega⟩
  clear hx3 hg3 hg H2
  go_wp2_with fail
  refine (append_is H3.out.1 (HK.out.1.below H3.out.2.1) (HK.out.2.below H3.out.2.1) H3.out.2.1.size 1 ⟨#[98, 111, 98]⟩ e0 (by decide) (by decide) (by decide)).mono ?_
  rintro e W4 ⟨rfl, v4, hl4, hp4, hk4⟩
  rw [nx2] at hl4 ⊢
  dsimp only
  obtain ⟨y, hy⟩ : ∃ y, yA = y := ⟨_, rfl⟩
  have HY : Hid (yA = y ∧ y.ok ∧ y.sz) := ⟨hy, by rw [← hy]; exact yA_ok.1, by rw [← hy]; exact yA_ok.2⟩
  have H4 : Hid (Below w.heap.size w W4 ∧ Blk W4 g 37 x.cells) := by
    refine ⟨H3.out.2.1.trans (hk4.toBelow H3.out.2.1.size (fun k hk => hk.elim (fun e => by rw [e]; exact H3.out.1.bc) (fun e => (H3.out.1.row.lt e).1))), hk4.blk H3.out.2.2 (fun k => k.elim (fun e => ?_) (fun e => ?_))⟩
    · have := HLT.out.2.1; omega
    · have := HLT.out.2.2 g e; omega
  obtain ⟨g4, hg4⟩ : ∃ g, W4.heap.size = g := ⟨_, rfl⟩
  have HG4 : Hid (W4.heap.size = g4 ∧ w.heap.size ≤ g4 ∧ g < g4) := ⟨hg4, by have := H4.out.1.size; omega, by have := H4.out.2.lt; omega⟩
  rw [hy]
  clear hl4 hp4 hk4 hy H3
  go_wp2_with (with_reducible change wpList _ _ _ ({ dst := none, op := Op.store 37 _ _, type := _, pos := _, after := _, guard := _ } :: _) _ _; refine Hid.out ?_)
  show wpList _ _ _ _ _ _
  refine wpList_store_blk rfl 37 (.tmp 4) (.tmp 15) rfl g4 0 37 Z y.cells rfl rfl (by rw [← HG4.out.1]; exact Blk.new W4 _ _) (by rw [HZL.out, En.len HY.out.2.1]; exact Nat.le_refl _) (info37 HY.out.2.1) (En.one _) ?_
  intro W5 hx5 hg5
  have H5 : Hid (Below w.heap.size w W5 ∧ Blk W5 g 37 x.cells ∧ Blk W5 g4 37 y.cells) := by
    have e := below_al W4 (.cells Z.toArray 37)
    exact ⟨below_gr (below_tr H4.out.1 e) hg5.out HG4.out.2.1, (H4.out.2.below e H4.out.2.lt).kept hg5.out (by have := HG4.out.2.2; simp; omega), blk_all hx5.out (by rw [HZL.out, En.len HY.out.2.1])⟩
  clear hx5 hg5 hg4 H4
  obtain ⟨D, hD⟩ : ∃ D, dgE x = D := ⟨_, rfl⟩
  have HD : Hid (dgE x = D ∧ D.length = 32 ∧ y.prev = D) := ⟨hD, by rw [← hD]; exact dgE_len x, by rw [← hD, ← HY.out.1, ← HX.out.1]; rfl⟩
  clear hD
  go_wp2_with fail
  refine lv4 (p := g) (q := g4) (x := x) (y := y) (D := D) ⟨H5.out.2.1, H5.out.2.2⟩ ⟨HX.out.2.1, HY.out.2.1, HD.out.2.1, trivial⟩ ?_ (fun W => by rw [← HX.out.1]; exact run_buildX W) (en_eq x HX.out.2.1) (dg_eq D HD.out.2.1) (fun V hV => ?_) (fun V hV v hv => ?_) (fun V hV v hv => ?_) ?_
  · have := H5.out.2.2.range 4 32
    rw [show (y.cells.drop 4).take 32 = U D from ?_] at this
    · exact this
    · rw [← HD.out.2.2]
      show (U y.prev).take 32 = U y.prev
      rw [List.take_of_length_le (by rw [U_length, HY.out.2.1.1]; omega)]
  · have hb := below_tr H5.out.1 hV
    exact digest_is x HX.out.2.1 HX.out.2.2 D HD.out.1 V (HK.out.1.below hb) (HK.out.2.below hb)
  · have hb := below_tr H5.out.1 hV
    refine verify_k ?_ hv (fun e he => ?_) (by simp) (HK.out.1.below hb) (HK.out.2.below hb)
    · rw [← HX.out.1, ← HY.out.1]; exact vf1
    · simp only [List.mem_cons, List.not_mem_nil, or_false] at he
      rcases he with rfl | rfl
      · exact HX.out.2.2
      · exact HY.out.2.2
  · have hb := below_tr H5.out.1 hV
    refine verify_k ?_ hv (fun e he => ?_) (by simp) (HK.out.1.below hb) (HK.out.2.below hb)
    · rw [← HY.out.1]; exact vf2
    · rw [List.mem_singleton.1 he]; exact HY.out.2.2
  intro W6 n2 n1 hb6
  have HF : Hid (Below w.heap.size w W6) := below_tr H5.out.1 hb6
  clear hb6
  go_wp2
  go_ret
  exact ⟨rfl, HF.out⟩
#print axioms lives_is
end Go.Proofs.YtmmpafaegmejlaaDoor.Oct
