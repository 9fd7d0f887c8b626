/-
  Layer 20 (review): a call of both.
  Layer 20 (review): ReviewPlays: its drawn regions.
  Layer 20 (review): ReviewPlays: what its loops keep.
  Layer 20 (review): ReviewPlays: the law.
-/
import Derived.Test.YtaecigpjcbjcbaaPkE
import Derived.Test.YtaecigpjcbjcbaaNbL
/- Layer 20 (review): a call of both. -/
namespace Go.Proofs.Ytaecigpjcbjcbaa.Oct
open Go.RowKit
set_option linter.unusedSimpArgs false
set_option linter.unusedVariables false

theorem sz_vote (R : Rb) (x : Int) (u : BA) (y : Bool) : (rVote R x u y).1.L.length ≤ R.L.length + 1 ∧ (rVote R x u y).1.D.length ≤ R.D.length + 1 := by
  unfold rVote
  split
  · exact ⟨Nat.le_succ _, Nat.le_succ _⟩
  · split
    · exact ⟨Nat.le_succ _, Nat.le_succ _⟩
    · exact ⟨Nat.le_succ _, by simp⟩
theorem sz_unvote (R : Rb) (x : Int) (u : BA) : (rUnvote R x u).1.L.length ≤ R.L.length + 1 ∧ (rUnvote R x u).1.D.length ≤ R.D.length + 1 := by
  unfold rUnvote
  split
  · exact ⟨Nat.le_succ _, Nat.le_succ _⟩
  · split
    · exact ⟨Nat.le_succ _, Nat.le_succ _⟩
    · exact ⟨Nat.le_succ _, by simp⟩
theorem sz_say (R : Rb) (x : Int) (u t : BA) : (rSay R x u t).1.L.length ≤ R.L.length + 1 ∧ (rSay R x u t).1.D.length ≤ R.D.length + 1 := by
  unfold rSay
  split
  · exact ⟨Nat.le_succ _, Nat.le_succ _⟩
  · split
    · exact ⟨Nat.le_succ _, Nat.le_succ _⟩
    · exact ⟨Nat.le_succ _, by simp⟩
theorem sz_close (R : Rb) (x : Int) : (rClose R x).1.L.length ≤ R.L.length + 1 ∧ (rClose R x).1.D.length ≤ R.D.length + 1 := by
  unfold rClose
  split
  · exact ⟨Nat.le_succ _, Nat.le_succ _⟩
  · exact ⟨Nat.le_succ _, by simp⟩
theorem sz_propose (R : Rb) (au ch : BA) (h : Hs) : (rPropose R au ch h).1.L.length ≤ R.L.length + 1 ∧ (rPropose R au ch h).1.D.length ≤ R.D.length + 1 := by
  unfold rPropose
  split
  · exact ⟨Nat.le_succ _, Nat.le_succ _⟩
  · split
    · exact ⟨Nat.le_succ _, Nat.le_succ _⟩
    · exact ⟨by simp, Nat.le_succ _⟩
theorem BAfter.box {w V V2 : World} {b c : Nat} {M M' : Br} (h : BAfter w b M M' V) (hg : V.grownBy V2 (some c)) (hc : w.heap.size ≤ c) : BAfter w b M M' V2 := ⟨h.1, h.2.trans (Keep.grown (S := fun j => j = c) hg rfl) (fun j hj hl => by omega)⟩
theorem RBt.box {V V2 : World} {lv dv l0 d0 : Value} {R R0 : Rb} {c : Nat} {T : TypeId} (h : RBt V lv dv R) (hs : l0.ownBlock = l0.ownBlock) (hb : Blk V c T [l0, d0]) (hl : ∃ a n k, l0 = .slice a n k) (hg : V.grownBy V2 (some c)) : RBt V2 lv dv R := by
  obtain ⟨a, n, k, rfl⟩ := hl
  exact rb_other h hb hg
theorem RBt.sl {V : World} {lv dv : Value} {R : Rb} (h : RBt V lv dv R) : ∃ a n k, lv = .slice a n k := by
  obtain ⟨a, c, e, _⟩ := h.l
  exact ⟨a, _, c, e⟩
theorem BM.box {w V V2 : World} {b K c : Nat} {M : Br} {lv dv l0 d0 : Value} {R : Rb} {T : TypeId} (h : BM w V b K M lv dv R) (hb : Blk V c T [l0, d0]) (hl : ∃ a n k, l0 = .slice a n k) (hg : V.grownBy V2 (some c)) (hc : w.heap.size ≤ c) (hn : c ∉ M.bl b) : BM w V2 b K M lv dv R := by
  refine ⟨h.brd.same (fun k hk => hg.block k (h.brd.lt k hk) (fun e => by cases e; exact hn hk)), ?_, h.bel.grown hg h.bel.size (fun j hj => by cases hj; exact hc), h.blo, h.la, h.da, h.nl, h.nd⟩
  obtain ⟨a, n, k, rfl⟩ := hl
  exact rb_other h.rb hb hg
set_option maxRecDepth 100000 in
set_option maxHeartbeats 8000000 in
theorem both_is {w wr : World} {b K : Nat} {M : Br} {lv dv : Value} {R : Rb} (h : BM w wr b K M lv dv R) (hr : Rel M R) (hK : K + 1 ≤ 1000) (x : ActV) (hx : x.ok) :
    Calls Try.prog 12 #[.pointer (some ⟨b, 0, none⟩), .agg #[lv, dv], .agg x.cells.toArray] wr fun e w' => ∃ M' lv' dv' R', e = .returned (.tuple #[.agg #[lv', dv'], .bool true]) ∧ Hid (BM w w' b (K + 1) M' lv' dv' R' ∧ Rel M' R' ∧ BAfter wr b M M' w') := by
  obtain ⟨cx, hcx⟩ : ∃ cx, x.cells = cx := ⟨_, rfl⟩
  have HCX : Hid (x.cells = cx ∧ True ∧ x.user.size ≤ 140737488355328 ∧ x.text.size ≤ 140737488355328 ∧ True ∧ x.patch.length = 32) := ⟨hcx, trivial, hx.2.2.1, hx.2.2.2.1, trivial, hx.2.2.2.2⟩
  have hz30 := zero30
  obtain ⟨c, hc⟩ : ∃ c, wr.heap.size = c := ⟨_, rfl⟩
  obtain ⟨A, hA⟩ : ∃ A, ((wr.alloc (.cells #[lv, dv] 30)).alloc (.cells cx.toArray 34)).alloc (.cells #[.slice none 0 0, .slice none 0 0] 30) = A := ⟨_, rfl⟩
  have hB : Below wr.heap.size wr A := by rw [← hA]; exact (((Below.refl _ wr).alloc (Nat.le_refl _) _).alloc (by simp) _).alloc (by simp; omega) _
  have h2 : Blk A c 30 [lv, dv] := by rw [← hA, ← hc]; exact ((Blk.new wr _ _).alloc _).alloc _
  have h3 : Blk A (c + 1) 34 cx := by
    rw [← hA, ← hc]
    have := (Blk.new (wr.alloc (.cells #[lv, dv] 30)) cx.toArray 34).alloc (.cells #[.slice none 0 0, .slice none 0 0] 30)
    rw [World.size_alloc] at this
    simpa using this
  have h4 : Blk A (c + 1 + 1) 30 [.slice none 0 0, .slice none 0 0] := by
    rw [← hA, ← hc]
    have := Blk.new ((wr.alloc (.cells #[lv, dv] 30)).alloc (.cells cx.toArray 34)) #[.slice none 0 0, .slice none 0 0] 30
    rwa [World.size_alloc, World.size_alloc] at this
  have HA0 : Hid (BM w wr b K M lv dv R) := h
  have HA : Hid (BM w A b K M lv dv R ∧ Blk A c 30 [lv, dv] ∧ Blk A (c + 1) 34 cx ∧ Blk A (c + 1 + 1) 30 [Value.slice none 0 0, Value.slice none 0 0]) := ⟨h.below hB, h2, h3, h4⟩
  have HBA : Hid (Below wr.heap.size wr A) := hB
  have HLT : Hid (∀ j ∈ M.bl b, j < c) := fun j hj => by rw [← hc]; exact h.brd.lt j hj
  have HLC : Hid (w.heap.size ≤ c ∧ wr.heap.size = c) := ⟨by rw [← hc]; exact h.bel.size, hc⟩
  have HR : Hid (Rel M R) := hr
  have HK : Hid (K + 1 ≤ 1000) := hK
  have HDN : Hid (R.D.length + 1 ≤ 1000 ∧ R.L.length + 1 ≤ 1000) := ⟨by have := h.nd; omega, by have := h.nl; omega⟩
  rw [hcx]
  clear h hr hK hx hB h2 h3 h4 hcx
  go_enter Try.func12, Try.ntmps12
  have HXA : Hid (Blk A (c + 1) 34 x.cells) := by show Blk _ _ _ _; rw [HCX.out.1]; exact HA.out.2.2.1
  obtain ⟨d0A, d1A, d2A, d3A, d4A, d5A⟩ := ActV.cell (o := 0) HCX.out.2.2.2.2.2 HXA.out.range0
  rw [Nat.zero_add] at d1A d2A d3A d4A d5A
  have D4A : Hid (A.rangeAt (c + 1) 4 (U x.patch)) := d4A
  clear d4A
  by_cases t0 : x.kind = 0
  · have e0 : (x.kind == 0) = true := by simpa using t0
    clear t0
    obtain ⟨q, hq⟩ : ∃ q, rPropose R x.user x.text x.patch = q := ⟨_, rfl⟩
    have HQ : Hid (rPropose R x.user x.text x.patch = q) := hq
    clear hq
    have HSZ : Hid (q.1.L.length ≤ R.L.length + 1 ∧ q.1.D.length ≤ R.D.length + 1) := by rw [← HQ.out]; exact sz_propose R x.user x.text x.patch
    have HP := propose_b HA.out.1.brd HR.out HK.out x.user x.text x.patch HCX.out.2.2.2.2.2
    rw [HQ.out] at HP
    go_wp2_with (with_reducible change wpList _ _ _ ({ dst := some 34, op := _, type := _, pos := _, after := _, guard := _ } :: _) _ _; refine Hid.out ?_)
    show wpList _ _ _ _ _ _
    refine wpList_load_want rfl 32 (.tmp 33) rfl (c + 1) 4 rfl (U x.patch) _ D4A.out Try.underlying32 rfl (info32 _ HCX.out.2.2.2.2.2) ?_
    simp only [Act.put, List.setIfInBounds_toArray, List.set_cons_zero, List.set_cons_succ]
    go_wp2_with fail
    refine HP.mono ?_
    rintro e W1 ⟨M', rfl, hp1⟩
    obtain ⟨p1, p2, p3⟩ := hp1.out
    have oc := fun j (h1 : j < A.heap.size) (h2 : j ∉ M.bl b) => p2.other h1 h2
    have H1 : Hid ((BM w W1 b (K + 1) M' lv dv R ∧ Blk W1 c 30 [lv, dv] ∧ Blk W1 (c + 1) 34 cx ∧ Blk W1 (c + 1 + 1) 30 [Value.slice none 0 0, Value.slice none 0 0]) ∧ Rel M' q.1 ∧ BAfter wr b M M' W1 ∧ c ∉ M'.bl b ∧ c + 1 + 1 ∉ M'.bl b) := by
      have n0 : c ∉ M.bl b := fun h => by have := HLT.out c h; omega
      have n1 : c + 1 ∉ M.bl b := fun h => by have := HLT.out _ h; omega
      have n2 : c + 1 + 1 ∉ M.bl b := fun h => by have := HLT.out _ h; omega
      exact ⟨⟨HA.out.1.call p1 p2, (oc c HA.out.2.1.lt n0).1.trans HA.out.2.1, (oc _ HA.out.2.2.1.lt n1).1.trans HA.out.2.2.1, (oc _ HA.out.2.2.2.lt n2).1.trans HA.out.2.2.2⟩, p3, BAfter.first HBA.out p2, (oc c HA.out.2.1.lt n0).2.1, (oc _ HA.out.2.2.2.lt n2).2.1⟩
    clear hp1 p1 p2 p3 oc HP hA hc
    clear d0A d1A d2A d3A d5A HXA D4A
    have HXW1 : Hid (Blk W1 (c + 1) 34 x.cells) := by show Blk _ _ _ _; rw [HCX.out.1]; exact H1.out.1.2.2.1
    obtain ⟨d0W1, d1W1, d2W1, d3W1, d4W1, d5W1⟩ := ActV.cell (o := 0) HCX.out.2.2.2.2.2 HXW1.out.range0
    rw [Nat.zero_add] at d1W1 d2W1 d3W1 d4W1 d5W1
    have D4W1 : Hid (W1.rangeAt (c + 1) 4 (U x.patch)) := d4W1
    clear d4W1
    have HRR := rpropose_is H1.out.1.1.rb x.user x.text x.patch HCX.out.2.2.2.2.2 HDN.out.2
    rw [HQ.out] at HRR
    go_wp2_with (with_reducible change wpList _ _ _ ({ dst := some 39, op := _, type := _, pos := _, after := _, guard := _ } :: _) _ _; refine Hid.out ?_)
    show wpList _ _ _ _ _ _
    refine wpList_load_row rfl 30 (.tmp 4) rfl c rfl 30 #[lv, dv] (0, 0) _ H1.out.1.2.1 Try.underlying30 rfl size30 ?_
    simp only [Act.put, List.setIfInBounds_toArray, List.set_cons_zero, List.set_cons_succ]
    go_wp2_with (with_reducible change wpList _ _ _ ({ dst := some 45, op := _, type := _, pos := _, after := _, guard := _ } :: _) _ _; refine Hid.out ?_)
    show wpList _ _ _ _ _ _
    refine wpList_load_want rfl 32 (.tmp 44) rfl (c + 1) 4 rfl (U x.patch) _ D4W1.out Try.underlying32 rfl (info32 _ HCX.out.2.2.2.2.2) ?_
    simp only [Act.put, List.setIfInBounds_toArray, List.set_cons_zero, List.set_cons_succ]
    go_wp2_with fail
    refine HRR.mono ?_
    rintro e W2 ⟨lv', dv', rfl, hro⟩
    obtain ⟨r1, r2, r3, r4⟩ := hro.out
    have H2 : Hid (BM w W2 b (K + 1) M' lv' dv' q.1 ∧ Blk W2 c 30 [lv, dv] ∧ Blk W2 (c + 1 + 1) 30 [Value.slice none 0 0, Value.slice none 0 0] ∧ BAfter wr b M M' W2) := ⟨H1.out.1.1.ref r1 r2 r3 r4 (by have := HSZ.out; have := HA.out.1.nl; omega) (by have := HSZ.out; have := HA.out.1.nd; omega), H1.out.1.2.1.below r2 H1.out.1.2.1.lt, H1.out.1.2.2.2.below r2 H1.out.1.2.2.2.lt, H1.out.2.2.1.then r2⟩
    clear hro r1 r2 r3 r4 HRR
    clear d0W1 d1W1 d2W1 d3W1 d5W1 HXW1 D4W1
    go_wp2_with (with_reducible change wpList _ _ _ ({ dst := none, op := Op.store 30 _ _, type := _, pos := _, after := _, guard := _ } :: _) _ _; refine Hid.out ?_)
    show wpList _ _ _ _ _ _
    refine wpList_store_blk rfl 30 (.tmp 4) (.tmp 47) rfl c 0 30 [lv, dv] [lv', dv'] rfl rfl H2.out.2.1 (by simp) size30 (two H2.out.1.rb) ?_
    intro W3 hb3 hg3
    have H3 : Hid (BM w W3 b (K + 1) M' lv' dv' q.1 ∧ Blk W3 c 30 [lv', dv'] ∧ Blk W3 (c + 1 + 1) 30 [Value.slice none 0 0, Value.slice none 0 0] ∧ BAfter wr b M M' W3) := ⟨H2.out.1.box H2.out.2.1 HA0.out.rb.sl hg3.out (by have := HLC.out; omega) H1.out.2.2.2.1, by simpa using hb3.out, H2.out.2.2.1.kept hg3.out (fun e => by simp at e; omega), H2.out.2.2.2.box hg3.out (by have := HLC.out; omega)⟩
    clear hb3 hg3
    simp only [Act.put, List.setIfInBounds_toArray, List.set_cons_zero, List.set_cons_succ]
    go_wp2_with (with_reducible change wpList _ _ _ ({ dst := some 113, op := _, type := _, pos := _, after := _, guard := _ } :: _) _ _; refine Hid.out ?_)
    show wpList _ _ _ _ _ _
    refine wpList_load_row rfl 30 (.tmp 4) rfl c rfl 30 #[lv', dv'] (0, 0) _ H3.out.2.1 Try.underlying30 rfl size30 ?_
    simp only [Act.put, List.setIfInBounds_toArray, List.set_cons_zero, List.set_cons_succ]
    go_wp2_with (with_reducible change wpList _ _ _ ({ dst := none, op := Op.store 30 _ _, type := _, pos := _, after := _, guard := _ } :: _) _ _; refine Hid.out ?_)
    show wpList _ _ _ _ _ _
    refine wpList_store_blk rfl 30 (.tmp 6) (.tmp 113) rfl (c + 1 + 1) 0 30 [Value.slice none 0 0, Value.slice none 0 0] [lv', dv'] rfl rfl H3.out.2.2.1 (by simp) size30 (two H3.out.1.rb) ?_
    intro W4 hb4 hg4
    have H4 : Hid (BM w W4 b (K + 1) M' lv' dv' q.1 ∧ Blk W4 (c + 1 + 1) 30 [lv', dv'] ∧ BAfter wr b M M' W4) := ⟨H3.out.1.box H3.out.2.2.1 ⟨_, _, _, rfl⟩ hg4.out (by have := HLC.out; omega) H1.out.2.2.2.2, by simpa using hb4.out, H3.out.2.2.2.box hg4.out (by have := HLC.out; omega)⟩
    clear hb4 hg4
    simp only [Act.put, List.setIfInBounds_toArray, List.set_cons_zero, List.set_cons_succ]
    go_wp2_with fail
    refine rret30u rfl rfl rfl rfl H4.out.2.1 ?_
    exact ⟨M', lv', dv', q.1, by simp, H4.out.1, H1.out.2.1, H4.out.2.2⟩
  · have e0 : (x.kind == 0) = false := by simpa using t0
    clear t0
    by_cases t1 : x.kind = 1
    · have e1 : (x.kind == 1) = true := by simpa using t1
      clear t1
      obtain ⟨q, hq⟩ : ∃ q, rVote R x.id x.user x.yes = q := ⟨_, rfl⟩
      have HQ : Hid (rVote R x.id x.user x.yes = q) := hq
      clear hq
      have HSZ : Hid (q.1.L.length ≤ R.L.length + 1 ∧ q.1.D.length ≤ R.D.length + 1) := by rw [← HQ.out]; exact sz_vote R x.id x.user x.yes
      have HP := vote_b HA.out.1.brd HR.out HK.out x.id x.user HCX.out.2.2.1 x.yes
      rw [HQ.out] at HP
      go_wp2_with fail
      refine HP.mono ?_
      rintro e W1 ⟨M', rfl, hp1⟩
      obtain ⟨p1, p2, p3⟩ := hp1.out
      have oc := fun j (h1 : j < A.heap.size) (h2 : j ∉ M.bl b) => p2.other h1 h2
      have H1 : Hid ((BM w W1 b (K + 1) M' lv dv R ∧ Blk W1 c 30 [lv, dv] ∧ Blk W1 (c + 1) 34 cx ∧ Blk W1 (c + 1 + 1) 30 [Value.slice none 0 0, Value.slice none 0 0]) ∧ Rel M' q.1 ∧ BAfter wr b M M' W1 ∧ c ∉ M'.bl b ∧ c + 1 + 1 ∉ M'.bl b) := by
        have n0 : c ∉ M.bl b := fun h => by have := HLT.out c h; omega
        have n1 : c + 1 ∉ M.bl b := fun h => by have := HLT.out _ h; omega
        have n2 : c + 1 + 1 ∉ M.bl b := fun h => by have := HLT.out _ h; omega
        exact ⟨⟨HA.out.1.call p1 p2, (oc c HA.out.2.1.lt n0).1.trans HA.out.2.1, (oc _ HA.out.2.2.1.lt n1).1.trans HA.out.2.2.1, (oc _ HA.out.2.2.2.lt n2).1.trans HA.out.2.2.2⟩, p3, BAfter.first HBA.out p2, (oc c HA.out.2.1.lt n0).2.1, (oc _ HA.out.2.2.2.lt n2).2.1⟩
      clear hp1 p1 p2 p3 oc HP hA hc
      clear d0A d1A d2A d3A d5A HXA D4A
      have HXW1 : Hid (Blk W1 (c + 1) 34 x.cells) := by show Blk _ _ _ _; rw [HCX.out.1]; exact H1.out.1.2.2.1
      obtain ⟨d0W1, d1W1, d2W1, d3W1, d4W1, d5W1⟩ := ActV.cell (o := 0) HCX.out.2.2.2.2.2 HXW1.out.range0
      rw [Nat.zero_add] at d1W1 d2W1 d3W1 d4W1 d5W1
      have D4W1 : Hid (W1.rangeAt (c + 1) 4 (U x.patch)) := d4W1
      clear d4W1
      have HRR := rvote_is H1.out.1.1.rb x.id x.user x.yes HDN.out.1
      rw [HQ.out] at HRR
      go_wp2_with (with_reducible change wpList _ _ _ ({ dst := some 65, op := _, type := _, pos := _, after := _, guard := _ } :: _) _ _; refine Hid.out ?_)
      show wpList _ _ _ _ _ _
      refine wpList_load_row rfl 30 (.tmp 4) rfl c rfl 30 #[lv, dv] (0, 0) _ H1.out.1.2.1 Try.underlying30 rfl size30 ?_
      simp only [Act.put, List.setIfInBounds_toArray, List.set_cons_zero, List.set_cons_succ]
      go_wp2_with fail
      refine HRR.mono ?_
      rintro e W2 ⟨lv', dv', rfl, hro⟩
      obtain ⟨r1, r2, r3, r4⟩ := hro.out
      have H2 : Hid (BM w W2 b (K + 1) M' lv' dv' q.1 ∧ Blk W2 c 30 [lv, dv] ∧ Blk W2 (c + 1 + 1) 30 [Value.slice none 0 0, Value.slice none 0 0] ∧ BAfter wr b M M' W2) := ⟨H1.out.1.1.ref r1 r2 r3 r4 (by have := HSZ.out; have := HA.out.1.nl; omega) (by have := HSZ.out; have := HA.out.1.nd; omega), H1.out.1.2.1.below r2 H1.out.1.2.1.lt, H1.out.1.2.2.2.below r2 H1.out.1.2.2.2.lt, H1.out.2.2.1.then r2⟩
      clear hro r1 r2 r3 r4 HRR
      clear d0W1 d1W1 d2W1 d3W1 d5W1 HXW1 D4W1
      go_wp2_with (with_reducible change wpList _ _ _ ({ dst := none, op := Op.store 30 _ _, type := _, pos := _, after := _, guard := _ } :: _) _ _; refine Hid.out ?_)
      show wpList _ _ _ _ _ _
      refine wpList_store_blk rfl 30 (.tmp 4) (.tmp 73) rfl c 0 30 [lv, dv] [lv', dv'] rfl rfl H2.out.2.1 (by simp) size30 (two H2.out.1.rb) ?_
      intro W3 hb3 hg3
      have H3 : Hid (BM w W3 b (K + 1) M' lv' dv' q.1 ∧ Blk W3 c 30 [lv', dv'] ∧ Blk W3 (c + 1 + 1) 30 [Value.slice none 0 0, Value.slice none 0 0] ∧ BAfter wr b M M' W3) := ⟨H2.out.1.box H2.out.2.1 HA0.out.rb.sl hg3.out (by have := HLC.out; omega) H1.out.2.2.2.1, by simpa using hb3.out, H2.out.2.2.1.kept hg3.out (fun e => by simp at e; omega), H2.out.2.2.2.box hg3.out (by have := HLC.out; omega)⟩
      clear hb3 hg3
      simp only [Act.put, List.setIfInBounds_toArray, List.set_cons_zero, List.set_cons_succ]
      go_wp2_with (with_reducible change wpList _ _ _ ({ dst := some 113, op := _, type := _, pos := _, after := _, guard := _ } :: _) _ _; refine Hid.out ?_)
      show wpList _ _ _ _ _ _
      refine wpList_load_row rfl 30 (.tmp 4) rfl c rfl 30 #[lv', dv'] (0, 0) _ H3.out.2.1 Try.underlying30 rfl size30 ?_
      simp only [Act.put, List.setIfInBounds_toArray, List.set_cons_zero, List.set_cons_succ]
      go_wp2_with (with_reducible change wpList _ _ _ ({ dst := none, op := Op.store 30 _ _, type := _, pos := _, after := _, guard := _ } :: _) _ _; refine Hid.out ?_)
      show wpList _ _ _ _ _ _
      refine wpList_store_blk rfl 30 (.tmp 6) (.tmp 113) rfl (c + 1 + 1) 0 30 [Value.slice none 0 0, Value.slice none 0 0] [lv', dv'] rfl rfl H3.out.2.2.1 (by simp) size30 (two H3.out.1.rb) ?_
      intro W4 hb4 hg4
      have H4 : Hid (BM w W4 b (K + 1) M' lv' dv' q.1 ∧ Blk W4 (c + 1 + 1) 30 [lv', dv'] ∧ BAfter wr b M M' W4) := ⟨H3.out.1.box H3.out.2.2.1 ⟨_, _, _, rfl⟩ hg4.out (by have := HLC.out; omega) H1.out.2.2.2.2, by simpa using hb4.out, H3.out.2.2.2.box hg4.out (by have := HLC.out; omega)⟩
      clear hb4 hg4
      simp only [Act.put, List.setIfInBounds_toArray, List.set_cons_zero, List.set_cons_succ]
      go_wp2_with fail
      refine rret30u rfl rfl rfl rfl H4.out.2.1 ?_
      exact ⟨M', lv', dv', q.1, by simp, H4.out.1, H1.out.2.1, H4.out.2.2⟩
    · have e1 : (x.kind == 1) = false := by simpa using t1
      clear t1
      by_cases t2 : x.kind = 2
      · have e2 : (x.kind == 2) = true := by simpa using t2
        clear t2
        obtain ⟨q, hq⟩ : ∃ q, rUnvote R x.id x.user = q := ⟨_, rfl⟩
        have HQ : Hid (rUnvote R x.id x.user = q) := hq
        clear hq
        have HSZ : Hid (q.1.L.length ≤ R.L.length + 1 ∧ q.1.D.length ≤ R.D.length + 1) := by rw [← HQ.out]; exact sz_unvote R x.id x.user
        have HP := unvote_b HA.out.1.brd HR.out HK.out x.id x.user HCX.out.2.2.1
        rw [HQ.out] at HP
        go_wp2_with fail
        refine HP.mono ?_
        rintro e W1 ⟨M', rfl, hp1⟩
        obtain ⟨p1, p2, p3⟩ := hp1.out
        have oc := fun j (h1 : j < A.heap.size) (h2 : j ∉ M.bl b) => p2.other h1 h2
        have H1 : Hid ((BM w W1 b (K + 1) M' lv dv R ∧ Blk W1 c 30 [lv, dv] ∧ Blk W1 (c + 1) 34 cx ∧ Blk W1 (c + 1 + 1) 30 [Value.slice none 0 0, Value.slice none 0 0]) ∧ Rel M' q.1 ∧ BAfter wr b M M' W1 ∧ c ∉ M'.bl b ∧ c + 1 + 1 ∉ M'.bl b) := by
          have n0 : c ∉ M.bl b := fun h => by have := HLT.out c h; omega
          have n1 : c + 1 ∉ M.bl b := fun h => by have := HLT.out _ h; omega
          have n2 : c + 1 + 1 ∉ M.bl b := fun h => by have := HLT.out _ h; omega
          exact ⟨⟨HA.out.1.call p1 p2, (oc c HA.out.2.1.lt n0).1.trans HA.out.2.1, (oc _ HA.out.2.2.1.lt n1).1.trans HA.out.2.2.1, (oc _ HA.out.2.2.2.lt n2).1.trans HA.out.2.2.2⟩, p3, BAfter.first HBA.out p2, (oc c HA.out.2.1.lt n0).2.1, (oc _ HA.out.2.2.2.lt n2).2.1⟩
        clear hp1 p1 p2 p3 oc HP hA hc
        clear d0A d1A d2A d3A d5A HXA D4A
        have HXW1 : Hid (Blk W1 (c + 1) 34 x.cells) := by show Blk _ _ _ _; rw [HCX.out.1]; exact H1.out.1.2.2.1
        obtain ⟨d0W1, d1W1, d2W1, d3W1, d4W1, d5W1⟩ := ActV.cell (o := 0) HCX.out.2.2.2.2.2 HXW1.out.range0
        rw [Nat.zero_add] at d1W1 d2W1 d3W1 d4W1 d5W1
        have D4W1 : Hid (W1.rangeAt (c + 1) 4 (U x.patch)) := d4W1
        clear d4W1
        have HRR := runvote_is H1.out.1.1.rb x.id x.user HDN.out.1
        rw [HQ.out] at HRR
        go_wp2_with (with_reducible change wpList _ _ _ ({ dst := some 84, op := _, type := _, pos := _, after := _, guard := _ } :: _) _ _; refine Hid.out ?_)
        show wpList _ _ _ _ _ _
        refine wpList_load_row rfl 30 (.tmp 4) rfl c rfl 30 #[lv, dv] (0, 0) _ H1.out.1.2.1 Try.underlying30 rfl size30 ?_
        simp only [Act.put, List.setIfInBounds_toArray, List.set_cons_zero, List.set_cons_succ]
        go_wp2_with fail
        refine HRR.mono ?_
        rintro e W2 ⟨lv', dv', rfl, hro⟩
        obtain ⟨r1, r2, r3, r4⟩ := hro.out
        have H2 : Hid (BM w W2 b (K + 1) M' lv' dv' q.1 ∧ Blk W2 c 30 [lv, dv] ∧ Blk W2 (c + 1 + 1) 30 [Value.slice none 0 0, Value.slice none 0 0] ∧ BAfter wr b M M' W2) := ⟨H1.out.1.1.ref r1 r2 r3 r4 (by have := HSZ.out; have := HA.out.1.nl; omega) (by have := HSZ.out; have := HA.out.1.nd; omega), H1.out.1.2.1.below r2 H1.out.1.2.1.lt, H1.out.1.2.2.2.below r2 H1.out.1.2.2.2.lt, H1.out.2.2.1.then r2⟩
        clear hro r1 r2 r3 r4 HRR
        clear d0W1 d1W1 d2W1 d3W1 d5W1 HXW1 D4W1
        go_wp2_with (with_reducible change wpList _ _ _ ({ dst := none, op := Op.store 30 _ _, type := _, pos := _, after := _, guard := _ } :: _) _ _; refine Hid.out ?_)
        show wpList _ _ _ _ _ _
        refine wpList_store_blk rfl 30 (.tmp 4) (.tmp 90) rfl c 0 30 [lv, dv] [lv', dv'] rfl rfl H2.out.2.1 (by simp) size30 (two H2.out.1.rb) ?_
        intro W3 hb3 hg3
        have H3 : Hid (BM w W3 b (K + 1) M' lv' dv' q.1 ∧ Blk W3 c 30 [lv', dv'] ∧ Blk W3 (c + 1 + 1) 30 [Value.slice none 0 0, Value.slice none 0 0] ∧ BAfter wr b M M' W3) := ⟨H2.out.1.box H2.out.2.1 HA0.out.rb.sl hg3.out (by have := HLC.out; omega) H1.out.2.2.2.1, by simpa using hb3.out, H2.out.2.2.1.kept hg3.out (fun e => by simp at e; omega), H2.out.2.2.2.box hg3.out (by have := HLC.out; omega)⟩
        clear hb3 hg3
        simp only [Act.put, List.setIfInBounds_toArray, List.set_cons_zero, List.set_cons_succ]
        go_wp2_with (with_reducible change wpList _ _ _ ({ dst := some 113, op := _, type := _, pos := _, after := _, guard := _ } :: _) _ _; refine Hid.out ?_)
        show wpList _ _ _ _ _ _
        refine wpList_load_row rfl 30 (.tmp 4) rfl c rfl 30 #[lv', dv'] (0, 0) _ H3.out.2.1 Try.underlying30 rfl size30 ?_
        simp only [Act.put, List.setIfInBounds_toArray, List.set_cons_zero, List.set_cons_succ]
        go_wp2_with (with_reducible change wpList _ _ _ ({ dst := none, op := Op.store 30 _ _, type := _, pos := _, after := _, guard := _ } :: _) _ _; refine Hid.out ?_)
        show wpList _ _ _ _ _ _
        refine wpList_store_blk rfl 30 (.tmp 6) (.tmp 113) rfl (c + 1 + 1) 0 30 [Value.slice none 0 0, Value.slice none 0 0] [lv', dv'] rfl rfl H3.out.2.2.1 (by simp) size30 (two H3.out.1.rb) ?_
        intro W4 hb4 hg4
        have H4 : Hid (BM w W4 b (K + 1) M' lv' dv' q.1 ∧ Blk W4 (c + 1 + 1) 30 [lv', dv'] ∧ BAfter wr b M M' W4) := ⟨H3.out.1.box H3.out.2.2.1 ⟨_, _, _, rfl⟩ hg4.out (by have := HLC.out; omega) H1.out.2.2.2.2, by simpa using hb4.out, H3.out.2.2.2.box hg4.out (by have := HLC.out; omega)⟩
        clear hb4 hg4
        simp only [Act.put, List.setIfInBounds_toArray, List.set_cons_zero, List.set_cons_succ]
        go_wp2_with fail
        refine rret30u rfl rfl rfl rfl H4.out.2.1 ?_
        exact ⟨M', lv', dv', q.1, by simp, H4.out.1, H1.out.2.1, H4.out.2.2⟩
      · have e2 : (x.kind == 2) = false := by simpa using t2
        clear t2
        by_cases t3 : x.kind = 3
        · have e3 : (x.kind == 3) = true := by simpa using t3
          clear t3
          obtain ⟨q, hq⟩ : ∃ q, rSay R x.id x.user x.text = q := ⟨_, rfl⟩
          have HQ : Hid (rSay R x.id x.user x.text = q) := hq
          clear hq
          have HSZ : Hid (q.1.L.length ≤ R.L.length + 1 ∧ q.1.D.length ≤ R.D.length + 1) := by rw [← HQ.out]; exact sz_say R x.id x.user x.text
          have HP := say_b HA.out.1.brd HR.out HK.out x.id x.user x.text HCX.out.2.2.1 HCX.out.2.2.2.1
          rw [HQ.out] at HP
          go_wp2_with fail
          refine HP.mono ?_
          rintro e W1 ⟨M', rfl, hp1⟩
          obtain ⟨p1, p2, p3⟩ := hp1.out
          have oc := fun j (h1 : j < A.heap.size) (h2 : j ∉ M.bl b) => p2.other h1 h2
          have H1 : Hid ((BM w W1 b (K + 1) M' lv dv R ∧ Blk W1 c 30 [lv, dv] ∧ Blk W1 (c + 1) 34 cx ∧ Blk W1 (c + 1 + 1) 30 [Value.slice none 0 0, Value.slice none 0 0]) ∧ Rel M' q.1 ∧ BAfter wr b M M' W1 ∧ c ∉ M'.bl b ∧ c + 1 + 1 ∉ M'.bl b) := by
            have n0 : c ∉ M.bl b := fun h => by have := HLT.out c h; omega
            have n1 : c + 1 ∉ M.bl b := fun h => by have := HLT.out _ h; omega
            have n2 : c + 1 + 1 ∉ M.bl b := fun h => by have := HLT.out _ h; omega
            exact ⟨⟨HA.out.1.call p1 p2, (oc c HA.out.2.1.lt n0).1.trans HA.out.2.1, (oc _ HA.out.2.2.1.lt n1).1.trans HA.out.2.2.1, (oc _ HA.out.2.2.2.lt n2).1.trans HA.out.2.2.2⟩, p3, BAfter.first HBA.out p2, (oc c HA.out.2.1.lt n0).2.1, (oc _ HA.out.2.2.2.lt n2).2.1⟩
          clear hp1 p1 p2 p3 oc HP hA hc
          clear d0A d1A d2A d3A d5A HXA D4A
          have HXW1 : Hid (Blk W1 (c + 1) 34 x.cells) := by show Blk _ _ _ _; rw [HCX.out.1]; exact H1.out.1.2.2.1
          obtain ⟨d0W1, d1W1, d2W1, d3W1, d4W1, d5W1⟩ := ActV.cell (o := 0) HCX.out.2.2.2.2.2 HXW1.out.range0
          rw [Nat.zero_add] at d1W1 d2W1 d3W1 d4W1 d5W1
          have D4W1 : Hid (W1.rangeAt (c + 1) 4 (U x.patch)) := d4W1
          clear d4W1
          have HRR := rsay_is H1.out.1.1.rb x.id x.user x.text HDN.out.1 HCX.out.2.2.2.1
          rw [HQ.out] at HRR
          go_wp2_with (with_reducible change wpList _ _ _ ({ dst := some 103, op := _, type := _, pos := _, after := _, guard := _ } :: _) _ _; refine Hid.out ?_)
          show wpList _ _ _ _ _ _
          refine wpList_load_row rfl 30 (.tmp 4) rfl c rfl 30 #[lv, dv] (0, 0) _ H1.out.1.2.1 Try.underlying30 rfl size30 ?_
          simp only [Act.put, List.setIfInBounds_toArray, List.set_cons_zero, List.set_cons_succ]
          go_wp2_with fail
          refine HRR.mono ?_
          rintro e W2 ⟨lv', dv', rfl, hro⟩
          obtain ⟨r1, r2, r3, r4⟩ := hro.out
          have H2 : Hid (BM w W2 b (K + 1) M' lv' dv' q.1 ∧ Blk W2 c 30 [lv, dv] ∧ Blk W2 (c + 1 + 1) 30 [Value.slice none 0 0, Value.slice none 0 0] ∧ BAfter wr b M M' W2) := ⟨H1.out.1.1.ref r1 r2 r3 r4 (by have := HSZ.out; have := HA.out.1.nl; omega) (by have := HSZ.out; have := HA.out.1.nd; omega), H1.out.1.2.1.below r2 H1.out.1.2.1.lt, H1.out.1.2.2.2.below r2 H1.out.1.2.2.2.lt, H1.out.2.2.1.then r2⟩
          clear hro r1 r2 r3 r4 HRR
          clear d0W1 d1W1 d2W1 d3W1 d5W1 HXW1 D4W1
          go_wp2_with (with_reducible change wpList _ _ _ ({ dst := none, op := Op.store 30 _ _, type := _, pos := _, after := _, guard := _ } :: _) _ _; refine Hid.out ?_)
          show wpList _ _ _ _ _ _
          refine wpList_store_blk rfl 30 (.tmp 4) (.tmp 111) rfl c 0 30 [lv, dv] [lv', dv'] rfl rfl H2.out.2.1 (by simp) size30 (two H2.out.1.rb) ?_
          intro W3 hb3 hg3
          have H3 : Hid (BM w W3 b (K + 1) M' lv' dv' q.1 ∧ Blk W3 c 30 [lv', dv'] ∧ Blk W3 (c + 1 + 1) 30 [Value.slice none 0 0, Value.slice none 0 0] ∧ BAfter wr b M M' W3) := ⟨H2.out.1.box H2.out.2.1 HA0.out.rb.sl hg3.out (by have := HLC.out; omega) H1.out.2.2.2.1, by simpa using hb3.out, H2.out.2.2.1.kept hg3.out (fun e => by simp at e; omega), H2.out.2.2.2.box hg3.out (by have := HLC.out; omega)⟩
          clear hb3 hg3
          simp only [Act.put, List.setIfInBounds_toArray, List.set_cons_zero, List.set_cons_succ]
          go_wp2_with (with_reducible change wpList _ _ _ ({ dst := some 113, op := _, type := _, pos := _, after := _, guard := _ } :: _) _ _; refine Hid.out ?_)
          show wpList _ _ _ _ _ _
          refine wpList_load_row rfl 30 (.tmp 4) rfl c rfl 30 #[lv', dv'] (0, 0) _ H3.out.2.1 Try.underlying30 rfl size30 ?_
          simp only [Act.put, List.setIfInBounds_toArray, List.set_cons_zero, List.set_cons_succ]
          go_wp2_with (with_reducible change wpList _ _ _ ({ dst := none, op := Op.store 30 _ _, type := _, pos := _, after := _, guard := _ } :: _) _ _; refine Hid.out ?_)
          show wpList _ _ _ _ _ _
          refine wpList_store_blk rfl 30 (.tmp 6) (.tmp 113) rfl (c + 1 + 1) 0 30 [Value.slice none 0 0, Value.slice none 0 0] [lv', dv'] rfl rfl H3.out.2.2.1 (by simp) size30 (two H3.out.1.rb) ?_
          intro W4 hb4 hg4
          have H4 : Hid (BM w W4 b (K + 1) M' lv' dv' q.1 ∧ Blk W4 (c + 1 + 1) 30 [lv', dv'] ∧ BAfter wr b M M' W4) := ⟨H3.out.1.box H3.out.2.2.1 ⟨_, _, _, rfl⟩ hg4.out (by have := HLC.out; omega) H1.out.2.2.2.2, by simpa using hb4.out, H3.out.2.2.2.box hg4.out (by have := HLC.out; omega)⟩
          clear hb4 hg4
          simp only [Act.put, List.setIfInBounds_toArray, List.set_cons_zero, List.set_cons_succ]
          go_wp2_with fail
          refine rret30u rfl rfl rfl rfl H4.out.2.1 ?_
          exact ⟨M', lv', dv', q.1, by simp, H4.out.1, H1.out.2.1, H4.out.2.2⟩
        · have e3 : (x.kind == 3) = false := by simpa using t3
          clear t3
          obtain ⟨q, hq⟩ : ∃ q, rClose R x.id = q := ⟨_, rfl⟩
          have HQ : Hid (rClose R x.id = q) := hq
          clear hq
          have HSZ : Hid (q.1.L.length ≤ R.L.length + 1 ∧ q.1.D.length ≤ R.D.length + 1) := by rw [← HQ.out]; exact sz_close R x.id
          have HP := close_b HA.out.1.brd HR.out HK.out x.id
          rw [HQ.out] at HP
          go_wp2_with fail
          refine HP.mono ?_
          rintro e W1 ⟨M', rfl, hp1⟩
          obtain ⟨p1, p2, p3⟩ := hp1.out
          have oc := fun j (h1 : j < A.heap.size) (h2 : j ∉ M.bl b) => p2.other h1 h2
          have H1 : Hid ((BM w W1 b (K + 1) M' lv dv R ∧ Blk W1 c 30 [lv, dv] ∧ Blk W1 (c + 1) 34 cx ∧ Blk W1 (c + 1 + 1) 30 [Value.slice none 0 0, Value.slice none 0 0]) ∧ Rel M' q.1 ∧ BAfter wr b M M' W1 ∧ c ∉ M'.bl b ∧ c + 1 + 1 ∉ M'.bl b) := by
            have n0 : c ∉ M.bl b := fun h => by have := HLT.out c h; omega
            have n1 : c + 1 ∉ M.bl b := fun h => by have := HLT.out _ h; omega
            have n2 : c + 1 + 1 ∉ M.bl b := fun h => by have := HLT.out _ h; omega
            exact ⟨⟨HA.out.1.call p1 p2, (oc c HA.out.2.1.lt n0).1.trans HA.out.2.1, (oc _ HA.out.2.2.1.lt n1).1.trans HA.out.2.2.1, (oc _ HA.out.2.2.2.lt n2).1.trans HA.out.2.2.2⟩, p3, BAfter.first HBA.out p2, (oc c HA.out.2.1.lt n0).2.1, (oc _ HA.out.2.2.2.lt n2).2.1⟩
          clear hp1 p1 p2 p3 oc HP hA hc
          clear d0A d1A d2A d3A d5A HXA D4A
          have HXW1 : Hid (Blk W1 (c + 1) 34 x.cells) := by show Blk _ _ _ _; rw [HCX.out.1]; exact H1.out.1.2.2.1
          obtain ⟨d0W1, d1W1, d2W1, d3W1, d4W1, d5W1⟩ := ActV.cell (o := 0) HCX.out.2.2.2.2.2 HXW1.out.range0
          rw [Nat.zero_add] at d1W1 d2W1 d3W1 d4W1 d5W1
          have D4W1 : Hid (W1.rangeAt (c + 1) 4 (U x.patch)) := d4W1
          clear d4W1
          have HRR := rclose_is H1.out.1.1.rb x.id HDN.out.1
          rw [HQ.out] at HRR
          go_wp2_with (with_reducible change wpList _ _ _ ({ dst := some 19, op := _, type := _, pos := _, after := _, guard := _ } :: _) _ _; refine Hid.out ?_)
          show wpList _ _ _ _ _ _
          refine wpList_load_row rfl 30 (.tmp 4) rfl c rfl 30 #[lv, dv] (0, 0) _ H1.out.1.2.1 Try.underlying30 rfl size30 ?_
          simp only [Act.put, List.setIfInBounds_toArray, List.set_cons_zero, List.set_cons_succ]
          go_wp2_with fail
          refine HRR.mono ?_
          rintro e W2 ⟨lv', dv', rfl, hro⟩
          obtain ⟨r1, r2, r3, r4⟩ := hro.out
          have H2 : Hid (BM w W2 b (K + 1) M' lv' dv' q.1 ∧ Blk W2 c 30 [lv, dv] ∧ Blk W2 (c + 1 + 1) 30 [Value.slice none 0 0, Value.slice none 0 0] ∧ BAfter wr b M M' W2) := ⟨H1.out.1.1.ref r1 r2 r3 r4 (by have := HSZ.out; have := HA.out.1.nl; omega) (by have := HSZ.out; have := HA.out.1.nd; omega), H1.out.1.2.1.below r2 H1.out.1.2.1.lt, H1.out.1.2.2.2.below r2 H1.out.1.2.2.2.lt, H1.out.2.2.1.then r2⟩
          clear hro r1 r2 r3 r4 HRR
          clear d0W1 d1W1 d2W1 d3W1 d5W1 HXW1 D4W1
          go_wp2_with (with_reducible change wpList _ _ _ ({ dst := none, op := Op.store 30 _ _, type := _, pos := _, after := _, guard := _ } :: _) _ _; refine Hid.out ?_)
          show wpList _ _ _ _ _ _
          refine wpList_store_blk rfl 30 (.tmp 4) (.tmp 23) rfl c 0 30 [lv, dv] [lv', dv'] rfl rfl H2.out.2.1 (by simp) size30 (two H2.out.1.rb) ?_
          intro W3 hb3 hg3
          have H3 : Hid (BM w W3 b (K + 1) M' lv' dv' q.1 ∧ Blk W3 c 30 [lv', dv'] ∧ Blk W3 (c + 1 + 1) 30 [Value.slice none 0 0, Value.slice none 0 0] ∧ BAfter wr b M M' W3) := ⟨H2.out.1.box H2.out.2.1 HA0.out.rb.sl hg3.out (by have := HLC.out; omega) H1.out.2.2.2.1, by simpa using hb3.out, H2.out.2.2.1.kept hg3.out (fun e => by simp at e; omega), H2.out.2.2.2.box hg3.out (by have := HLC.out; omega)⟩
          clear hb3 hg3
          simp only [Act.put, List.setIfInBounds_toArray, List.set_cons_zero, List.set_cons_succ]
          go_wp2_with (with_reducible change wpList _ _ _ ({ dst := some 113, op := _, type := _, pos := _, after := _, guard := _ } :: _) _ _; refine Hid.out ?_)
          show wpList _ _ _ _ _ _
          refine wpList_load_row rfl 30 (.tmp 4) rfl c rfl 30 #[lv', dv'] (0, 0) _ H3.out.2.1 Try.underlying30 rfl size30 ?_
          simp only [Act.put, List.setIfInBounds_toArray, List.set_cons_zero, List.set_cons_succ]
          go_wp2_with (with_reducible change wpList _ _ _ ({ dst := none, op := Op.store 30 _ _, type := _, pos := _, after := _, guard := _ } :: _) _ _; refine Hid.out ?_)
          show wpList _ _ _ _ _ _
          refine wpList_store_blk rfl 30 (.tmp 6) (.tmp 113) rfl (c + 1 + 1) 0 30 [Value.slice none 0 0, Value.slice none 0 0] [lv', dv'] rfl rfl H3.out.2.2.1 (by simp) size30 (two H3.out.1.rb) ?_
          intro W4 hb4 hg4
          have H4 : Hid (BM w W4 b (K + 1) M' lv' dv' q.1 ∧ Blk W4 (c + 1 + 1) 30 [lv', dv'] ∧ BAfter wr b M M' W4) := ⟨H3.out.1.box H3.out.2.2.1 ⟨_, _, _, rfl⟩ hg4.out (by have := HLC.out; omega) H1.out.2.2.2.2, by simpa using hb4.out, H3.out.2.2.2.box hg4.out (by have := HLC.out; omega)⟩
          clear hb4 hg4
          simp only [Act.put, List.setIfInBounds_toArray, List.set_cons_zero, List.set_cons_succ]
          go_wp2_with fail
          refine rret30u rfl rfl rfl rfl H4.out.2.1 ?_
          exact ⟨M', lv', dv', q.1, by simp, H4.out.1, H1.out.2.1, H4.out.2.2⟩
end Go.Proofs.Ytaecigpjcbjcbaa.Oct

/- Layer 20 (review): ReviewPlays: its drawn regions. -/
namespace Go.Proofs.Ytaecigpjcbjcbaa.Oct
open Go.RowKit
set_option linter.unusedSimpArgs false
set_option linter.unusedVariables false

set_option maxRecDepth 100000 in
set_option maxHeartbeats 4000000 in
theorem rv9 {Q : Exit → Act → World → Prop} {x0 x1 x2 x5 x6 x8 x9 x10 x11 x12 x13 x14 x15 x16 x17 x18 x19 x20 x21 x22 x23 x24 x25 x26 x27 x28 x29 x30 x31 x32 x33 x34 x35 x36 x37 x38 x39 x40 x41 x42 x43 x44 x45 x46 x47 x48 x49 x50 x51 x52 x53 x54 x55 x56 x57 x58 x59 x60 x61 x62 x63 x64 x65 x66 x67 x68 x69 x70 x71 x72 x73 x74 x75 x76 x77 x78 x79 x80 x81 x82 x83 x84 x85 x86 x87 x88 x89 x90 x91 x92 x93 x94 x95 x96 x97 x98 x99 x100 x101 x102 x103 x104 x105 x106 x107 x108 x109 x110 x111 x112 x113 x114 x115 x116 x117 : Value} {ds : List Deferred} {A : World} {b c no : Nat} {lv dv : Value} {l : List Nat}
    (HB2 : Hid (Blk A c 30 [lv, dv])) (HNO : Hid (no ≤ 140737488355328)) (HO : Hid (∀ V, Below A.heap.size A V → Calls Try.prog 14 #[.pointer (some ⟨b, 0, none⟩)] V fun e V2 => ∃ a1 c1, e = .returned (.slice a1 no c1) ∧ Nums V2 a1 no l ∧ Below V.heap.size V V2)) (HO2 : Hid (∀ V, Below A.heap.size A V → Calls Try.prog 15 #[.agg #[lv, dv]] V fun e V2 => ∃ a1 c1, e = .returned (.slice a1 no c1) ∧ Nums V2 a1 no l ∧ Below V.heap.size V V2))
    (hQ : ∀ V1 a1 a2 c1 c2, Below A.heap.size A V1 → Q .normal { tmps := #[x0, x1, x2, .pointer (some ⟨b, 0, none⟩), .pointer (some ⟨c, 0, none⟩), x5, x6, .bool true, x8, x9, x10, x11, x12, x13, x14, x15, x16, x17, x18, x19, x20, x21, x22, x23, x24, x25, x26, x27, x28, x29, x30, x31, x32, x33, .bool true, .bool false, .bool false, .pointer (some ⟨b, 0, none⟩), .slice a1 no c1, .agg [lv, dv].toArray, .slice a2 no c2, .bool true, .bool false, .bool false, x44, x45, x46, x47, x48, x49, x50, x51, x52, x53, x54, x55, x56, x57, x58, x59, x60, x61, x62, x63, x64, x65, x66, x67, x68, x69, x70, x71, x72, x73, x74, x75, x76, x77, x78, x79, x80, x81, x82, x83, x84, x85, x86, x87, x88, x89, x90, x91, x92, x93, x94, x95, x96, x97, x98, x99, x100, x101, x102, x103, x104, x105, x106, x107, x108, x109, x110, x111, x112, x113, x114, x115, x116, x117], defers := ds } V1) :
    (Code.region 9 #[{ dst := some 34, op := Op.move (Operand.tmp 7), type := 4, pos := "law.go:89", after := #[], guard := none }, { dst := some 35, op := Op.unOp UnOp.not 4 (Operand.tmp 34), type := 4, pos := "law.go:89", after := #[{ on := 0, ground := Ground.data }], guard := none }, { dst := some 36, op := Op.move (Operand.tmp 35), type := 4, pos := "law.go:89", after := #[{ on := 1, ground := Ground.data }], guard := none }, { dst := some 37, op := Op.move (Operand.tmp 3), type := 25, pos := "law.go:89", after := #[{ on := 2, ground := Ground.guard }], guard := some (2, false) }, { dst := some 38, op := Op.call { callee := Callee.value (Operand.func 14), args := #[Operand.tmp 37], argTypes := #[25] }, type := 38, pos := "law.go:89", after := #[{ on := 3, ground := Ground.data }, { on := 2, ground := Ground.chain }, { on := 2, ground := Ground.guard }], guard := some (2, false) }, { dst := some 39, op := Op.load 30 (Operand.tmp 4), type := 30, pos := "law.go:89", after := #[{ on := 2, ground := Ground.guard }], guard := some (2, false) }, { dst := some 40, op := Op.call { callee := Callee.value (Operand.func 15), args := #[Operand.tmp 39], argTypes := #[30] }, type := 38, pos := "law.go:89", after := #[{ on := 5, ground := Ground.data }, { on := 4, ground := Ground.chain }, { on := 2, ground := Ground.guard }], guard := some (2, false) }, { dst := some 41, op := Op.call { callee := Callee.value (Operand.func 13), args := #[Operand.tmp 38, Operand.tmp 40], argTypes := #[38, 38] }, type := 4, pos := "law.go:89", after := #[{ on := 4, ground := Ground.data }, { on := 6, ground := Ground.data }, { on := 6, ground := Ground.chain }, { on := 2, ground := Ground.guard }], guard := some (2, false) }, { dst := some 42, op := Op.unOp UnOp.not 4 (Operand.tmp 41), type := 4, pos := "law.go:89", after := #[{ on := 7, ground := Ground.data }, { on := 2, ground := Ground.guard }], guard := some (2, false) }, { dst := some 43, op := Op.pick (Operand.tmp 36) (Operand.const (Value.bool true)) (Operand.tmp 42), type := 4, pos := "law.go:89", after := #[{ on := 2, ground := Ground.data }, { on := 8, ground := Ground.data }], guard := none }] true).wp Try.prog Q { tmps := #[x0, x1, x2, .pointer (some ⟨b, 0, none⟩), .pointer (some ⟨c, 0, none⟩), x5, x6, .bool true, x8, x9, x10, x11, x12, x13, x14, x15, x16, x17, x18, x19, x20, x21, x22, x23, x24, x25, x26, x27, x28, x29, x30, x31, x32, x33, x34, x35, x36, x37, x38, x39, x40, x41, x42, x43, x44, x45, x46, x47, x48, x49, x50, x51, x52, x53, x54, x55, x56, x57, x58, x59, x60, x61, x62, x63, x64, x65, x66, x67, x68, x69, x70, x71, x72, x73, x74, x75, x76, x77, x78, x79, x80, x81, x82, x83, x84, x85, x86, x87, x88, x89, x90, x91, x92, x93, x94, x95, x96, x97, x98, x99, x100, x101, x102, x103, x104, x105, x106, x107, x108, x109, x110, x111, x112, x113, x114, x115, x116, x117], defers := ds } A := by
  refine Code.wp_mono (Q := fun x a' w' => match x with | .normal => Q .normal a' w' | _ => False) (by intro x a' w' h; cases x <;> first | exact h | exact h.elim) ?_
  refine wp_region_held (S := fun V => Below A.heap.size A V) (by kernel_rfl) ?_
  have hS0 : Hid (Below A.heap.size A A.drew) := below_drew0 A
  change wpAnyH Try.prog .any _ _ (fun V => Below A.heap.size A V) 10 (Array.replicate 10 false) _ A.drew
  obtain ⟨V0, hV0⟩ : ∃ V0, A.drew = V0 := ⟨_, rfl⟩
  rw [hV0]
  rw [hV0] at hS0
  clear hV0
  refine wpAnyH_take (i := 0) (oi := { dst := some 34, op := Op.move (Operand.tmp 7), type := 4, pos := "law.go:89", after := #[], guard := none }) (v := .bool true) rfl (by kernel_rfl) (by kernel_rfl) (by kernel_rfl) (fun _ _ _ h => h.elim) (Or.inl ⟨by rfl, ?y1⟩) hS0.out ?_
  case y1 =>
    intro V hV
    go_simp
  simp only [Act.put, List.setIfInBounds_toArray, List.set_cons_zero, List.set_cons_succ]
  refine wpAnyH_take (i := 1) (oi := { dst := some 35, op := Op.unOp UnOp.not 4 (Operand.tmp 34), type := 4, pos := "law.go:89", after := #[{ on := 0, ground := Ground.data }], guard := none }) (v := .bool false) rfl (by kernel_rfl) (by kernel_rfl) (by kernel_rfl) (fun _ _ _ h => h.elim) (Or.inl ⟨by rfl, ?y2⟩) hS0.out ?_
  case y2 =>
    intro V hV
    go_simp
  simp only [Act.put, List.setIfInBounds_toArray, List.set_cons_zero, List.set_cons_succ]
  refine wpAnyH_take (i := 2) (oi := { dst := some 36, op := Op.move (Operand.tmp 35), type := 4, pos := "law.go:89", after := #[{ on := 1, ground := Ground.data }], guard := none }) (v := .bool false) rfl (by kernel_rfl) (by kernel_rfl) (by kernel_rfl) (fun _ _ _ h => h.elim) (Or.inl ⟨by rfl, ?y3⟩) hS0.out ?_
  case y3 =>
    intro V hV
    go_simp
  simp only [Act.put, List.setIfInBounds_toArray, List.set_cons_zero, List.set_cons_succ]
  refine wpAnyH_take (i := 3) (oi := { dst := some 37, op := Op.move (Operand.tmp 3), type := 25, pos := "law.go:89", after := #[{ on := 2, ground := Ground.guard }], guard := some (2, false) }) (v := .pointer (some ⟨b, 0, none⟩)) rfl (by kernel_rfl) (by kernel_rfl) (by kernel_rfl) (fun _ _ _ h => h.elim) (Or.inl ⟨by rfl, ?y4⟩) hS0.out ?_
  case y4 =>
    intro V hV
    go_simp
  simp only [Act.put, List.setIfInBounds_toArray, List.set_cons_zero, List.set_cons_succ]
  refine wpAnyH_take (i := 5) (oi := { dst := some 39, op := Op.load 30 (Operand.tmp 4), type := 30, pos := "law.go:89", after := #[{ on := 2, ground := Ground.guard }], guard := some (2, false) }) (v := .agg [lv, dv].toArray) rfl (by kernel_rfl) (by kernel_rfl) (by kernel_rfl) (fun _ _ _ h => h.elim) (yieldsIf_load_mid (by rfl) _ _ rfl _ _ rfl ([lv, dv]) _ (fun V hV => rangeAt_same (HB2.out.range0) ((show Below A.heap.size A V from hV).block _ (HB2.out.lt))) Try.underlying30 rfl (size30)) hS0.out ?_
  simp only [Act.put, List.setIfInBounds_toArray, List.set_cons_zero, List.set_cons_succ]
  refine wpAnyH_ready (rs := [4]) (by kernel_rfl) (by simp) (AllReadyH.cons (i := 4) (o := { dst := some 38, op := Op.call { callee := Callee.value (Operand.func 14), args := #[Operand.tmp 37], argTypes := #[25] }, type := 38, pos := "law.go:89", after := #[{ on := 3, ground := Ground.data }, { on := 2, ground := Ground.chain }, { on := 2, ground := Ground.guard }], guard := some (2, false) }) rfl ?_ AllReadyH.nil)
  · intro K1 hK1
    rw [if_pos (by rfl)]
    have HC1 := HO.out V0 hS0.out
    go_wp2_with fail
    refine HC1.mono ?_
    rintro e V1 ⟨a1, c1, rfl, hN1, hb1⟩
    dsimp only
    clear HC1
    have hS1 : Hid (Below A.heap.size A V1) := hS0.out.trans (hb1.mono hS0.out.size)
    have hN11 : Hid (Nums V1 a1 no l) := hN1
    clear hb1
    refine hK1.out _ _ hS1.out ?_
    clear hK1
    intro _
    try simp only [Act.put, List.setIfInBounds_toArray, List.set_cons_zero, List.set_cons_succ]
    refine wpAnyH_ready (rs := [6]) (by kernel_rfl) (by simp) (AllReadyH.cons (i := 6) (o := { dst := some 40, op := Op.call { callee := Callee.value (Operand.func 15), args := #[Operand.tmp 39], argTypes := #[30] }, type := 38, pos := "law.go:89", after := #[{ on := 5, ground := Ground.data }, { on := 4, ground := Ground.chain }, { on := 2, ground := Ground.guard }], guard := some (2, false) }) rfl ?_ AllReadyH.nil)
    · intro K1 hK1
      rw [if_pos (by rfl)]
      have HC2 := HO2.out V1 hS1.out
      go_wp2_with fail
      refine HC2.mono ?_
      rintro e V2 ⟨a2, c2, rfl, hN2, hb2⟩
      dsimp only
      clear HC2
      have hS2 : Hid (Below A.heap.size A V2) := hS1.out.trans (hb2.mono hS1.out.size)
      have hN12 : Hid (Nums V2 a1 no l) := hN11.out.below hb2
      have hN22 : Hid (Nums V2 a2 no l) := hN2
      clear hb2
      refine hK1.out _ _ hS2.out ?_
      clear hK1
      intro _
      try simp only [Act.put, List.setIfInBounds_toArray, List.set_cons_zero, List.set_cons_succ]
      refine wpAnyH_ready (rs := [7]) (by kernel_rfl) (by simp) (AllReadyH.cons (i := 7) (o := { dst := some 41, op := Op.call { callee := Callee.value (Operand.func 13), args := #[Operand.tmp 38, Operand.tmp 40], argTypes := #[38, 38] }, type := 4, pos := "law.go:89", after := #[{ on := 4, ground := Ground.data }, { on := 6, ground := Ground.data }, { on := 6, ground := Ground.chain }, { on := 2, ground := Ground.guard }], guard := some (2, false) }) rfl ?_ AllReadyH.nil)
      · intro K1 hK1
        rw [if_pos (by rfl)]
        have HC3 := ints_same l a1 a2 no c1 c2 V2 hN12.out hN22.out HNO.out
        go_wp2_with fail
        refine HC3.mono ?_
        rintro e V3 ⟨rfl, hb3⟩
        dsimp only
        clear HC3
        have hS3 : Hid (Below A.heap.size A V3) := hS2.out.trans (hb3.mono hS2.out.size)
        clear hb3
        refine hK1.out _ _ hS3.out ?_
        clear hK1
        intro _
        try simp only [Act.put, List.setIfInBounds_toArray, List.set_cons_zero, List.set_cons_succ]
        refine wpAnyH_take (i := 8) (oi := { dst := some 42, op := Op.unOp UnOp.not 4 (Operand.tmp 41), type := 4, pos := "law.go:89", after := #[{ on := 7, ground := Ground.data }, { on := 2, ground := Ground.guard }], guard := some (2, false) }) (v := .bool false) rfl (by kernel_rfl) (by kernel_rfl) (by kernel_rfl) (fun _ _ _ h => h.elim) (Or.inl ⟨by rfl, ?y5⟩) hS3.out ?_
        case y5 =>
          intro V hV
          go_simp
        simp only [Act.put, List.setIfInBounds_toArray, List.set_cons_zero, List.set_cons_succ]
        refine wpAnyH_take (i := 9) (oi := { dst := some 43, op := Op.pick (Operand.tmp 36) (Operand.const (Value.bool true)) (Operand.tmp 42), type := 4, pos := "law.go:89", after := #[{ on := 2, ground := Ground.data }, { on := 8, ground := Ground.data }], guard := none }) (v := .bool false) rfl (by kernel_rfl) (by kernel_rfl) (by kernel_rfl) (fun _ _ _ h => h.elim) (Or.inl ⟨by rfl, ?y6⟩) hS3.out ?_
        case y6 =>
          intro V hV
          go_simp
        simp only [Act.put, List.setIfInBounds_toArray, List.set_cons_zero, List.set_cons_succ]
        refine wpAnyH_done (by kernel_rfl) ?_ _
        exact hQ V3 a1 a2 c1 c2 hS3.out
set_option maxRecDepth 100000 in
set_option maxHeartbeats 4000000 in
theorem rv12 {Q : Exit → Act → World → Prop} {x0 x1 x2 x5 x7 x10 x11 x12 x13 x14 x15 x16 x17 x18 x19 x20 x21 x22 x23 x24 x25 x26 x27 x28 x29 x30 x31 x32 x33 x34 x35 x36 x37 x38 x39 x40 x41 x42 x43 x44 x45 x46 x47 x48 x49 x50 x51 x52 x53 x54 x55 x56 x57 x58 x59 x60 x61 x62 x63 x64 x65 x66 x67 x68 x69 x70 x71 x72 x73 x74 x75 x76 x77 x78 x79 x80 x81 x82 x83 x84 x85 x86 x87 x88 x89 x90 x91 x92 x93 x94 x95 x96 x97 x98 x99 x100 x101 x102 x103 x104 x105 x106 x107 x108 x109 x110 x111 x112 x113 x114 x115 x116 x117 : Value} {ds : List Deferred} {A : World} {b c q6 q8 : Nat} {lv dv : Value} {R : Rb} {x : Int} {pp : Pp} {is : Bool}
    (HB2 : Hid (Blk A c 30 [lv, dv])) (HB8 : Hid (Blk A q8 43 pp.cells ∧ pp.patch.length = 32)) (k1 : A.cell? ⟨q6, 1, none⟩ = some (iv x)) (HL6 : Hid (q6 < A.heap.size)) (HTH : Hid (∀ V, Below A.heap.size A V → Calls Try.prog 17 #[.agg #[lv, dv], iv x] V fun e V2 => e = .returned (.bool is) ∧ Below V.heap.size V V2)) (HPR : Hid (∀ V, Below A.heap.size A V → Calls Try.prog 19 #[.agg #[lv, dv], iv x] V fun e V2 => ∃ p' : Pp, e = .returned (.agg p'.cells.toArray) ∧ RTold V2 R x p' ∧ Below V.heap.size V V2)) (HSA : Hid (∀ V p', Below A.heap.size A V → RTold V R x p' → Calls Try.prog 18 #[.agg pp.cells.toArray, .agg p'.cells.toArray] V fun e V2 => e = .returned (.bool true) ∧ Below V.heap.size V V2))
    (hQ : ∀ V1 (p' : Pp), Below A.heap.size A V1 → Q .normal { tmps := #[x0, x1, x2, .pointer (some ⟨b, 0, none⟩), .pointer (some ⟨c, 0, none⟩), x5, .pointer (some ⟨q6, 0, none⟩), x7, .pointer (some ⟨q8, 0, none⟩), .bool is, x10, x11, x12, x13, x14, x15, x16, x17, x18, x19, x20, x21, x22, x23, x24, x25, x26, x27, x28, x29, x30, x31, x32, x33, x34, x35, x36, x37, x38, x39, x40, x41, x42, x43, x44, x45, x46, x47, x48, x49, x50, .bool is, .agg [lv, dv].toArray, .pointer (some ⟨q6, 1, none⟩), iv x, .bool is, .bool false, .bool false, .agg pp.cells.toArray, .agg [lv, dv].toArray, .pointer (some ⟨q6, 1, none⟩), iv x, .agg p'.cells.toArray, .bool true, .bool false, .bool false, x66, x67, x68, x69, x70, x71, x72, x73, x74, x75, x76, x77, x78, x79, x80, x81, x82, x83, x84, x85, x86, x87, x88, x89, x90, x91, x92, x93, x94, x95, x96, x97, x98, x99, x100, x101, x102, x103, x104, x105, x106, x107, x108, x109, x110, x111, x112, x113, x114, x115, x116, x117], defers := ds } V1) :
    (Code.region 12 #[{ dst := some 51, op := Op.move (Operand.tmp 9), type := 4, pos := "law.go:93", after := #[], guard := none }, { dst := some 52, op := Op.load 30 (Operand.tmp 4), type := 30, pos := "law.go:93", after := #[], guard := none }, { dst := some 53, op := Op.fieldAddr 34 (Operand.tmp 6) 1, type := 0, pos := "law.go:93", after := #[], guard := none }, { dst := some 54, op := Op.load 3 (Operand.tmp 53), type := 3, pos := "law.go:93", after := #[{ on := 2, ground := Ground.data }], guard := none }, { dst := some 55, op := Op.call { callee := Callee.value (Operand.func 17), args := #[Operand.tmp 52, Operand.tmp 54], argTypes := #[30, 3] }, type := 4, pos := "law.go:93", after := #[{ on := 1, ground := Ground.data }, { on := 3, ground := Ground.data }], guard := none }, { dst := some 56, op := Op.binOp BinOp.neq 4 (Operand.tmp 51) (Operand.tmp 55) 4, type := 4, pos := "law.go:93", after := #[{ on := 0, ground := Ground.data }, { on := 4, ground := Ground.data }], guard := none }, { dst := some 57, op := Op.move (Operand.tmp 56), type := 4, pos := "law.go:93", after := #[{ on := 5, ground := Ground.data }, { on := 4, ground := Ground.chain }], guard := none }, { dst := some 58, op := Op.load 43 (Operand.tmp 8), type := 43, pos := "law.go:93", after := #[{ on := 6, ground := Ground.guard }], guard := some (6, false) }, { dst := some 59, op := Op.load 30 (Operand.tmp 4), type := 30, pos := "law.go:93", after := #[{ on := 6, ground := Ground.guard }], guard := some (6, false) }, { dst := some 60, op := Op.fieldAddr 34 (Operand.tmp 6) 1, type := 0, pos := "law.go:93", after := #[{ on := 6, ground := Ground.guard }], guard := some (6, false) }, { dst := some 61, op := Op.load 3 (Operand.tmp 60), type := 3, pos := "law.go:93", after := #[{ on := 9, ground := Ground.data }, { on := 6, ground := Ground.guard }], guard := some (6, false) }, { dst := some 62, op := Op.call { callee := Callee.value (Operand.func 19), args := #[Operand.tmp 59, Operand.tmp 61], argTypes := #[30, 3] }, type := 43, pos := "law.go:93", after := #[{ on := 8, ground := Ground.data }, { on := 10, ground := Ground.data }, { on := 6, ground := Ground.chain }, { on := 6, ground := Ground.guard }], guard := some (6, false) }, { dst := some 63, op := Op.call { callee := Callee.value (Operand.func 18), args := #[Operand.tmp 58, Operand.tmp 62], argTypes := #[43, 43] }, type := 4, pos := "law.go:93", after := #[{ on := 7, ground := Ground.data }, { on := 11, ground := Ground.data }, { on := 11, ground := Ground.chain }, { on := 6, ground := Ground.guard }], guard := some (6, false) }, { dst := some 64, op := Op.unOp UnOp.not 4 (Operand.tmp 63), type := 4, pos := "law.go:93", after := #[{ on := 12, ground := Ground.data }, { on := 6, ground := Ground.guard }], guard := some (6, false) }, { dst := some 65, op := Op.pick (Operand.tmp 57) (Operand.const (Value.bool true)) (Operand.tmp 64), type := 4, pos := "law.go:93", after := #[{ on := 6, ground := Ground.data }, { on := 13, ground := Ground.data }], guard := none }] true).wp Try.prog Q { tmps := #[x0, x1, x2, .pointer (some ⟨b, 0, none⟩), .pointer (some ⟨c, 0, none⟩), x5, .pointer (some ⟨q6, 0, none⟩), x7, .pointer (some ⟨q8, 0, none⟩), .bool is, x10, x11, x12, x13, x14, x15, x16, x17, x18, x19, x20, x21, x22, x23, x24, x25, x26, x27, x28, x29, x30, x31, x32, x33, x34, x35, x36, x37, x38, x39, x40, x41, x42, x43, x44, x45, x46, x47, x48, x49, x50, x51, x52, x53, x54, x55, x56, x57, x58, x59, x60, x61, x62, x63, x64, x65, x66, x67, x68, x69, x70, x71, x72, x73, x74, x75, x76, x77, x78, x79, x80, x81, x82, x83, x84, x85, x86, x87, x88, x89, x90, x91, x92, x93, x94, x95, x96, x97, x98, x99, x100, x101, x102, x103, x104, x105, x106, x107, x108, x109, x110, x111, x112, x113, x114, x115, x116, x117], defers := ds } A := by
  refine Code.wp_mono (Q := fun x a' w' => match x with | .normal => Q .normal a' w' | _ => False) (by intro x a' w' h; cases x <;> first | exact h | exact h.elim) ?_
  refine wp_region_held (S := fun V => Below A.heap.size A V) (by kernel_rfl) ?_
  have hS0 : Hid (Below A.heap.size A A.drew) := below_drew0 A
  change wpAnyH Try.prog .any _ _ (fun V => Below A.heap.size A V) 15 (Array.replicate 15 false) _ A.drew
  obtain ⟨V0, hV0⟩ : ∃ V0, A.drew = V0 := ⟨_, rfl⟩
  rw [hV0]
  rw [hV0] at hS0
  clear hV0
  refine wpAnyH_take (i := 0) (oi := { dst := some 51, op := Op.move (Operand.tmp 9), type := 4, pos := "law.go:93", after := #[], guard := none }) (v := .bool is) rfl (by kernel_rfl) (by kernel_rfl) (by kernel_rfl) (fun _ _ _ h => h.elim) (Or.inl ⟨by rfl, ?y1⟩) hS0.out ?_
  case y1 =>
    intro V hV
    go_simp
  simp only [Act.put, List.setIfInBounds_toArray, List.set_cons_zero, List.set_cons_succ]
  refine wpAnyH_take (i := 1) (oi := { dst := some 52, op := Op.load 30 (Operand.tmp 4), type := 30, pos := "law.go:93", after := #[], guard := none }) (v := .agg [lv, dv].toArray) rfl (by kernel_rfl) (by kernel_rfl) (by kernel_rfl) (fun _ _ _ h => h.elim) (yieldsIf_load_mid (by rfl) _ _ rfl _ _ rfl ([lv, dv]) _ (fun V hV => rangeAt_same (HB2.out.range0) ((show Below A.heap.size A V from hV).block _ (HB2.out.lt))) Try.underlying30 rfl (size30)) hS0.out ?_
  simp only [Act.put, List.setIfInBounds_toArray, List.set_cons_zero, List.set_cons_succ]
  refine wpAnyH_take (i := 2) (oi := { dst := some 53, op := Op.fieldAddr 34 (Operand.tmp 6) 1, type := 0, pos := "law.go:93", after := #[], guard := none }) (v := .pointer (some ⟨q6, 1, none⟩)) rfl (by kernel_rfl) (by kernel_rfl) (by kernel_rfl) (fun _ _ _ h => h.elim) (Or.inl ⟨by rfl, ?y2⟩) hS0.out ?_
  case y2 =>
    intro V hV
    go_simp
  simp only [Act.put, List.setIfInBounds_toArray, List.set_cons_zero, List.set_cons_succ]
  refine wpAnyH_take (i := 3) (oi := { dst := some 54, op := Op.load 3 (Operand.tmp 53), type := 3, pos := "law.go:93", after := #[{ on := 2, ground := Ground.data }], guard := none }) (v := iv x) rfl (by kernel_rfl) (by kernel_rfl) (by kernel_rfl) (fun _ _ _ h => h.elim) (Or.inl ⟨by rfl, ?y3⟩) hS0.out ?_
  case y3 =>
    intro V hV
    have hc : V.cell? ⟨q6, 1, none⟩ = some (iv x) := ((show Below A.heap.size A V from hV).cell (p := ⟨q6, 1, none⟩) (HL6.out)).trans k1
    go_simp
  simp only [Act.put, List.setIfInBounds_toArray, List.set_cons_zero, List.set_cons_succ]
  refine wpAnyH_ready (rs := [4]) (by kernel_rfl) (by simp) (AllReadyH.cons (i := 4) (o := { dst := some 55, op := Op.call { callee := Callee.value (Operand.func 17), args := #[Operand.tmp 52, Operand.tmp 54], argTypes := #[30, 3] }, type := 4, pos := "law.go:93", after := #[{ on := 1, ground := Ground.data }, { on := 3, ground := Ground.data }], guard := none }) rfl ?_ AllReadyH.nil)
  · intro K1 hK1
    rw [if_pos (by rfl)]
    have HC1 := HTH.out V0 hS0.out
    go_wp2_with fail
    refine HC1.mono ?_
    rintro e V1 ⟨rfl, hb1⟩
    dsimp only
    clear HC1
    have hS1 : Hid (Below A.heap.size A V1) := hS0.out.trans (hb1.mono hS0.out.size)
    clear hb1
    refine hK1.out _ _ hS1.out ?_
    clear hK1
    intro _
    try simp only [Act.put, List.setIfInBounds_toArray, List.set_cons_zero, List.set_cons_succ]
    refine wpAnyH_take (i := 5) (oi := { dst := some 56, op := Op.binOp BinOp.neq 4 (Operand.tmp 51) (Operand.tmp 55) 4, type := 4, pos := "law.go:93", after := #[{ on := 0, ground := Ground.data }, { on := 4, ground := Ground.data }], guard := none }) (v := .bool false) rfl (by kernel_rfl) (by kernel_rfl) (by kernel_rfl) (fun _ _ _ h => h.elim) (Or.inl ⟨by rfl, ?y4⟩) hS1.out ?_
    case y4 =>
      intro V hV
      cases is <;> go_simp
    simp only [Act.put, List.setIfInBounds_toArray, List.set_cons_zero, List.set_cons_succ]
    refine wpAnyH_take (i := 6) (oi := { dst := some 57, op := Op.move (Operand.tmp 56), type := 4, pos := "law.go:93", after := #[{ on := 5, ground := Ground.data }, { on := 4, ground := Ground.chain }], guard := none }) (v := .bool false) rfl (by kernel_rfl) (by kernel_rfl) (by kernel_rfl) (fun _ _ _ h => h.elim) (Or.inl ⟨by rfl, ?y5⟩) hS1.out ?_
    case y5 =>
      intro V hV
      go_simp
    simp only [Act.put, List.setIfInBounds_toArray, List.set_cons_zero, List.set_cons_succ]
    refine wpAnyH_take (i := 7) (oi := { dst := some 58, op := Op.load 43 (Operand.tmp 8), type := 43, pos := "law.go:93", after := #[{ on := 6, ground := Ground.guard }], guard := some (6, false) }) (v := .agg pp.cells.toArray) rfl (by kernel_rfl) (by kernel_rfl) (by kernel_rfl) (fun _ _ _ h => h.elim) (yieldsIf_load_mid (by rfl) _ _ rfl _ _ rfl (pp.cells) _ (fun V hV => rangeAt_same (HB8.out.1.range0) ((show Below A.heap.size A V from hV).block _ (HB8.out.1.lt))) Try.underlying43 rfl (by rw [Pp.length HB8.out.2]; exact size43)) hS1.out ?_
    simp only [Act.put, List.setIfInBounds_toArray, List.set_cons_zero, List.set_cons_succ]
    refine wpAnyH_take (i := 8) (oi := { dst := some 59, op := Op.load 30 (Operand.tmp 4), type := 30, pos := "law.go:93", after := #[{ on := 6, ground := Ground.guard }], guard := some (6, false) }) (v := .agg [lv, dv].toArray) rfl (by kernel_rfl) (by kernel_rfl) (by kernel_rfl) (fun _ _ _ h => h.elim) (yieldsIf_load_mid (by rfl) _ _ rfl _ _ rfl ([lv, dv]) _ (fun V hV => rangeAt_same (HB2.out.range0) ((show Below A.heap.size A V from hV).block _ (HB2.out.lt))) Try.underlying30 rfl (size30)) hS1.out ?_
    simp only [Act.put, List.setIfInBounds_toArray, List.set_cons_zero, List.set_cons_succ]
    refine wpAnyH_take (i := 9) (oi := { dst := some 60, op := Op.fieldAddr 34 (Operand.tmp 6) 1, type := 0, pos := "law.go:93", after := #[{ on := 6, ground := Ground.guard }], guard := some (6, false) }) (v := .pointer (some ⟨q6, 1, none⟩)) rfl (by kernel_rfl) (by kernel_rfl) (by kernel_rfl) (fun _ _ _ h => h.elim) (Or.inl ⟨by rfl, ?y6⟩) hS1.out ?_
    case y6 =>
      intro V hV
      go_simp
    simp only [Act.put, List.setIfInBounds_toArray, List.set_cons_zero, List.set_cons_succ]
    refine wpAnyH_take (i := 10) (oi := { dst := some 61, op := Op.load 3 (Operand.tmp 60), type := 3, pos := "law.go:93", after := #[{ on := 9, ground := Ground.data }, { on := 6, ground := Ground.guard }], guard := some (6, false) }) (v := iv x) rfl (by kernel_rfl) (by kernel_rfl) (by kernel_rfl) (fun _ _ _ h => h.elim) (Or.inl ⟨by rfl, ?y7⟩) hS1.out ?_
    case y7 =>
      intro V hV
      have hc : V.cell? ⟨q6, 1, none⟩ = some (iv x) := ((show Below A.heap.size A V from hV).cell (p := ⟨q6, 1, none⟩) (HL6.out)).trans k1
      go_simp
    simp only [Act.put, List.setIfInBounds_toArray, List.set_cons_zero, List.set_cons_succ]
    refine wpAnyH_ready (rs := [11]) (by kernel_rfl) (by simp) (AllReadyH.cons (i := 11) (o := { dst := some 62, op := Op.call { callee := Callee.value (Operand.func 19), args := #[Operand.tmp 59, Operand.tmp 61], argTypes := #[30, 3] }, type := 43, pos := "law.go:93", after := #[{ on := 8, ground := Ground.data }, { on := 10, ground := Ground.data }, { on := 6, ground := Ground.chain }, { on := 6, ground := Ground.guard }], guard := some (6, false) }) rfl ?_ AllReadyH.nil)
    · intro K1 hK1
      rw [if_pos (by rfl)]
      have HC2 := HPR.out V1 hS1.out
      go_wp2_with fail
      refine HC2.mono ?_
      rintro e V2 ⟨p', rfl, hR2, hb2⟩
      dsimp only
      clear HC2
      have hS2 : Hid (Below A.heap.size A V2) := hS1.out.trans (hb2.mono hS1.out.size)
      have hR2 : Hid (RTold V2 R x p') := hR2
      clear hb2
      refine hK1.out _ _ hS2.out ?_
      clear hK1
      intro _
      try simp only [Act.put, List.setIfInBounds_toArray, List.set_cons_zero, List.set_cons_succ]
      refine wpAnyH_ready (rs := [12]) (by kernel_rfl) (by simp) (AllReadyH.cons (i := 12) (o := { dst := some 63, op := Op.call { callee := Callee.value (Operand.func 18), args := #[Operand.tmp 58, Operand.tmp 62], argTypes := #[43, 43] }, type := 4, pos := "law.go:93", after := #[{ on := 7, ground := Ground.data }, { on := 11, ground := Ground.data }, { on := 11, ground := Ground.chain }, { on := 6, ground := Ground.guard }], guard := some (6, false) }) rfl ?_ AllReadyH.nil)
      · intro K1 hK1
        rw [if_pos (by rfl)]
        have HC3 := HSA.out V2 p' hS2.out hR2.out
        go_wp2_with fail
        refine HC3.mono ?_
        rintro e V3 ⟨rfl, hb3⟩
        dsimp only
        clear HC3
        have hS3 : Hid (Below A.heap.size A V3) := hS2.out.trans (hb3.mono hS2.out.size)
        clear hb3
        refine hK1.out _ _ hS3.out ?_
        clear hK1
        intro _
        try simp only [Act.put, List.setIfInBounds_toArray, List.set_cons_zero, List.set_cons_succ]
        refine wpAnyH_take (i := 13) (oi := { dst := some 64, op := Op.unOp UnOp.not 4 (Operand.tmp 63), type := 4, pos := "law.go:93", after := #[{ on := 12, ground := Ground.data }, { on := 6, ground := Ground.guard }], guard := some (6, false) }) (v := .bool false) rfl (by kernel_rfl) (by kernel_rfl) (by kernel_rfl) (fun _ _ _ h => h.elim) (Or.inl ⟨by rfl, ?y8⟩) hS3.out ?_
        case y8 =>
          intro V hV
          go_simp
        simp only [Act.put, List.setIfInBounds_toArray, List.set_cons_zero, List.set_cons_succ]
        refine wpAnyH_take (i := 14) (oi := { dst := some 65, op := Op.pick (Operand.tmp 57) (Operand.const (Value.bool true)) (Operand.tmp 64), type := 4, pos := "law.go:93", after := #[{ on := 6, ground := Ground.data }, { on := 13, ground := Ground.data }], guard := none }) (v := .bool false) rfl (by kernel_rfl) (by kernel_rfl) (by kernel_rfl) (fun _ _ _ h => h.elim) (Or.inl ⟨by rfl, ?y9⟩) hS3.out ?_
        case y9 =>
          intro V hV
          go_simp
        simp only [Act.put, List.setIfInBounds_toArray, List.set_cons_zero, List.set_cons_succ]
        refine wpAnyH_done (by kernel_rfl) ?_ _
        exact hQ V3 p' hS3.out
set_option maxRecDepth 100000 in
set_option maxHeartbeats 4000000 in
theorem rv29 {Q : Exit → Act → World → Prop} {x0 x1 x2 x5 x6 x7 x8 x9 x10 x11 x15 x16 x17 x18 x19 x20 x21 x22 x23 x24 x25 x26 x27 x28 x29 x30 x31 x32 x33 x34 x35 x36 x37 x38 x39 x40 x41 x42 x43 x44 x45 x46 x47 x48 x49 x50 x51 x52 x53 x54 x55 x56 x57 x58 x59 x60 x61 x62 x63 x64 x65 x66 x67 x68 x69 x70 x71 x72 x73 x74 x75 x76 x77 x78 x79 x80 x81 x82 x83 x84 x85 x86 x87 x88 x89 x90 x91 x92 x93 x94 x95 x96 x97 x98 x99 x100 x101 x102 x103 x104 x105 x106 x107 x108 x109 x110 x111 x112 x113 x114 x115 x116 x117 : Value} {ds : List Deferred} {A : World} {b c q8 : Nat} {lv dv : Value} {R : Rb} {x : Int} {pp : Pp} {is : Bool}
    (HB2 : Hid (Blk A c 30 [lv, dv])) (HB8 : Hid (Blk A q8 43 pp.cells ∧ pp.patch.length = 32)) (HTH : Hid (∀ V, Below A.heap.size A V → Calls Try.prog 17 #[.agg #[lv, dv], iv x] V fun e V2 => e = .returned (.bool is) ∧ Below V.heap.size V V2)) (HPR : Hid (∀ V, Below A.heap.size A V → Calls Try.prog 19 #[.agg #[lv, dv], iv x] V fun e V2 => ∃ p' : Pp, e = .returned (.agg p'.cells.toArray) ∧ RTold V2 R x p' ∧ Below V.heap.size V V2)) (HSA : Hid (∀ V p', Below A.heap.size A V → RTold V R x p' → Calls Try.prog 18 #[.agg pp.cells.toArray, .agg p'.cells.toArray] V fun e V2 => e = .returned (.bool true) ∧ Below V.heap.size V V2))
    (hQ : ∀ V1 (p' : Pp), Below A.heap.size A V1 → Q .normal { tmps := #[x0, x1, x2, .pointer (some ⟨b, 0, none⟩), .pointer (some ⟨c, 0, none⟩), x5, x6, x7, x8, x9, x10, x11, iv x, .pointer (some ⟨q8, 0, none⟩), .bool is, x15, x16, x17, x18, x19, x20, x21, x22, x23, x24, x25, x26, x27, x28, x29, x30, x31, x32, x33, x34, x35, x36, x37, x38, x39, x40, x41, x42, x43, x44, x45, x46, x47, x48, x49, x50, x51, x52, x53, x54, x55, x56, x57, x58, x59, x60, x61, x62, x63, x64, x65, x66, x67, x68, x69, x70, x71, x72, x73, x74, x75, x76, x77, x78, x79, x80, x81, x82, x83, x84, x85, x86, x87, x88, x89, x90, x91, x92, x93, x94, x95, x96, x97, x98, x99, x100, x101, x102, .bool is, .agg [lv, dv].toArray, iv x, .bool is, .bool false, .bool false, .agg pp.cells.toArray, .agg [lv, dv].toArray, iv x, .agg p'.cells.toArray, .bool true, .bool false, .bool false, x116, x117], defers := ds } V1) :
    (Code.region 29 #[{ dst := some 103, op := Op.move (Operand.tmp 14), type := 4, pos := "law.go:105", after := #[], guard := none }, { dst := some 104, op := Op.load 30 (Operand.tmp 4), type := 30, pos := "law.go:105", after := #[], guard := none }, { dst := some 105, op := Op.move (Operand.tmp 12), type := 3, pos := "law.go:105", after := #[], guard := none }, { dst := some 106, op := Op.call { callee := Callee.value (Operand.func 17), args := #[Operand.tmp 104, Operand.tmp 105], argTypes := #[30, 3] }, type := 4, pos := "law.go:105", after := #[{ on := 1, ground := Ground.data }, { on := 2, ground := Ground.data }], guard := none }, { dst := some 107, op := Op.binOp BinOp.neq 4 (Operand.tmp 103) (Operand.tmp 106) 4, type := 4, pos := "law.go:105", after := #[{ on := 0, ground := Ground.data }, { on := 3, ground := Ground.data }], guard := none }, { dst := some 108, op := Op.move (Operand.tmp 107), type := 4, pos := "law.go:105", after := #[{ on := 4, ground := Ground.data }, { on := 3, ground := Ground.chain }], guard := none }, { dst := some 109, op := Op.load 43 (Operand.tmp 13), type := 43, pos := "law.go:105", after := #[{ on := 5, ground := Ground.guard }], guard := some (5, false) }, { dst := some 110, op := Op.load 30 (Operand.tmp 4), type := 30, pos := "law.go:105", after := #[{ on := 5, ground := Ground.guard }], guard := some (5, false) }, { dst := some 111, op := Op.move (Operand.tmp 12), type := 3, pos := "law.go:105", after := #[{ on := 5, ground := Ground.guard }], guard := some (5, false) }, { dst := some 112, op := Op.call { callee := Callee.value (Operand.func 19), args := #[Operand.tmp 110, Operand.tmp 111], argTypes := #[30, 3] }, type := 43, pos := "law.go:105", after := #[{ on := 7, ground := Ground.data }, { on := 8, ground := Ground.data }, { on := 5, ground := Ground.chain }, { on := 5, ground := Ground.guard }], guard := some (5, false) }, { dst := some 113, op := Op.call { callee := Callee.value (Operand.func 18), args := #[Operand.tmp 109, Operand.tmp 112], argTypes := #[43, 43] }, type := 4, pos := "law.go:105", after := #[{ on := 6, ground := Ground.data }, { on := 9, ground := Ground.data }, { on := 9, ground := Ground.chain }, { on := 5, ground := Ground.guard }], guard := some (5, false) }, { dst := some 114, op := Op.unOp UnOp.not 4 (Operand.tmp 113), type := 4, pos := "law.go:105", after := #[{ on := 10, ground := Ground.data }, { on := 5, ground := Ground.guard }], guard := some (5, false) }, { dst := some 115, op := Op.pick (Operand.tmp 108) (Operand.const (Value.bool true)) (Operand.tmp 114), type := 4, pos := "law.go:105", after := #[{ on := 5, ground := Ground.data }, { on := 11, ground := Ground.data }], guard := none }] true).wp Try.prog Q { tmps := #[x0, x1, x2, .pointer (some ⟨b, 0, none⟩), .pointer (some ⟨c, 0, none⟩), x5, x6, x7, x8, x9, x10, x11, iv x, .pointer (some ⟨q8, 0, none⟩), .bool is, x15, x16, x17, x18, x19, x20, x21, x22, x23, x24, x25, x26, x27, x28, x29, x30, x31, x32, x33, x34, x35, x36, x37, x38, x39, x40, x41, x42, x43, x44, x45, x46, x47, x48, x49, x50, x51, x52, x53, x54, x55, x56, x57, x58, x59, x60, x61, x62, x63, x64, x65, x66, x67, x68, x69, x70, x71, x72, x73, x74, x75, x76, x77, x78, x79, x80, x81, x82, x83, x84, x85, x86, x87, x88, x89, x90, x91, x92, x93, x94, x95, x96, x97, x98, x99, x100, x101, x102, x103, x104, x105, x106, x107, x108, x109, x110, x111, x112, x113, x114, x115, x116, x117], defers := ds } A := by
  refine Code.wp_mono (Q := fun x a' w' => match x with | .normal => Q .normal a' w' | _ => False) (by intro x a' w' h; cases x <;> first | exact h | exact h.elim) ?_
  refine wp_region_held (S := fun V => Below A.heap.size A V) (by kernel_rfl) ?_
  have hS0 : Hid (Below A.heap.size A A.drew) := below_drew0 A
  change wpAnyH Try.prog .any _ _ (fun V => Below A.heap.size A V) 13 (Array.replicate 13 false) _ A.drew
  obtain ⟨V0, hV0⟩ : ∃ V0, A.drew = V0 := ⟨_, rfl⟩
  rw [hV0]
  rw [hV0] at hS0
  clear hV0
  refine wpAnyH_take (i := 0) (oi := { dst := some 103, op := Op.move (Operand.tmp 14), type := 4, pos := "law.go:105", after := #[], guard := none }) (v := .bool is) rfl (by kernel_rfl) (by kernel_rfl) (by kernel_rfl) (fun _ _ _ h => h.elim) (Or.inl ⟨by rfl, ?y1⟩) hS0.out ?_
  case y1 =>
    intro V hV
    go_simp
  simp only [Act.put, List.setIfInBounds_toArray, List.set_cons_zero, List.set_cons_succ]
  refine wpAnyH_take (i := 1) (oi := { dst := some 104, op := Op.load 30 (Operand.tmp 4), type := 30, pos := "law.go:105", after := #[], guard := none }) (v := .agg [lv, dv].toArray) rfl (by kernel_rfl) (by kernel_rfl) (by kernel_rfl) (fun _ _ _ h => h.elim) (yieldsIf_load_mid (by rfl) _ _ rfl _ _ rfl ([lv, dv]) _ (fun V hV => rangeAt_same (HB2.out.range0) ((show Below A.heap.size A V from hV).block _ (HB2.out.lt))) Try.underlying30 rfl (size30)) hS0.out ?_
  simp only [Act.put, List.setIfInBounds_toArray, List.set_cons_zero, List.set_cons_succ]
  refine wpAnyH_take (i := 2) (oi := { dst := some 105, op := Op.move (Operand.tmp 12), type := 3, pos := "law.go:105", after := #[], guard := none }) (v := iv x) rfl (by kernel_rfl) (by kernel_rfl) (by kernel_rfl) (fun _ _ _ h => h.elim) (Or.inl ⟨by rfl, ?y2⟩) hS0.out ?_
  case y2 =>
    intro V hV
    go_simp
  simp only [Act.put, List.setIfInBounds_toArray, List.set_cons_zero, List.set_cons_succ]
  refine wpAnyH_ready (rs := [3]) (by kernel_rfl) (by simp) (AllReadyH.cons (i := 3) (o := { dst := some 106, op := Op.call { callee := Callee.value (Operand.func 17), args := #[Operand.tmp 104, Operand.tmp 105], argTypes := #[30, 3] }, type := 4, pos := "law.go:105", after := #[{ on := 1, ground := Ground.data }, { on := 2, ground := Ground.data }], guard := none }) rfl ?_ AllReadyH.nil)
  · intro K1 hK1
    rw [if_pos (by rfl)]
    have HC1 := HTH.out V0 hS0.out
    go_wp2_with fail
    refine HC1.mono ?_
    rintro e V1 ⟨rfl, hb1⟩
    dsimp only
    clear HC1
    have hS1 : Hid (Below A.heap.size A V1) := hS0.out.trans (hb1.mono hS0.out.size)
    clear hb1
    refine hK1.out _ _ hS1.out ?_
    clear hK1
    intro _
    try simp only [Act.put, List.setIfInBounds_toArray, List.set_cons_zero, List.set_cons_succ]
    refine wpAnyH_take (i := 4) (oi := { dst := some 107, op := Op.binOp BinOp.neq 4 (Operand.tmp 103) (Operand.tmp 106) 4, type := 4, pos := "law.go:105", after := #[{ on := 0, ground := Ground.data }, { on := 3, ground := Ground.data }], guard := none }) (v := .bool false) rfl (by kernel_rfl) (by kernel_rfl) (by kernel_rfl) (fun _ _ _ h => h.elim) (Or.inl ⟨by rfl, ?y3⟩) hS1.out ?_
    case y3 =>
      intro V hV
      cases is <;> go_simp
    simp only [Act.put, List.setIfInBounds_toArray, List.set_cons_zero, List.set_cons_succ]
    refine wpAnyH_take (i := 5) (oi := { dst := some 108, op := Op.move (Operand.tmp 107), type := 4, pos := "law.go:105", after := #[{ on := 4, ground := Ground.data }, { on := 3, ground := Ground.chain }], guard := none }) (v := .bool false) rfl (by kernel_rfl) (by kernel_rfl) (by kernel_rfl) (fun _ _ _ h => h.elim) (Or.inl ⟨by rfl, ?y4⟩) hS1.out ?_
    case y4 =>
      intro V hV
      go_simp
    simp only [Act.put, List.setIfInBounds_toArray, List.set_cons_zero, List.set_cons_succ]
    refine wpAnyH_take (i := 6) (oi := { dst := some 109, op := Op.load 43 (Operand.tmp 13), type := 43, pos := "law.go:105", after := #[{ on := 5, ground := Ground.guard }], guard := some (5, false) }) (v := .agg pp.cells.toArray) rfl (by kernel_rfl) (by kernel_rfl) (by kernel_rfl) (fun _ _ _ h => h.elim) (yieldsIf_load_mid (by rfl) _ _ rfl _ _ rfl (pp.cells) _ (fun V hV => rangeAt_same (HB8.out.1.range0) ((show Below A.heap.size A V from hV).block _ (HB8.out.1.lt))) Try.underlying43 rfl (by rw [Pp.length HB8.out.2]; exact size43)) hS1.out ?_
    simp only [Act.put, List.setIfInBounds_toArray, List.set_cons_zero, List.set_cons_succ]
    refine wpAnyH_take (i := 7) (oi := { dst := some 110, op := Op.load 30 (Operand.tmp 4), type := 30, pos := "law.go:105", after := #[{ on := 5, ground := Ground.guard }], guard := some (5, false) }) (v := .agg [lv, dv].toArray) rfl (by kernel_rfl) (by kernel_rfl) (by kernel_rfl) (fun _ _ _ h => h.elim) (yieldsIf_load_mid (by rfl) _ _ rfl _ _ rfl ([lv, dv]) _ (fun V hV => rangeAt_same (HB2.out.range0) ((show Below A.heap.size A V from hV).block _ (HB2.out.lt))) Try.underlying30 rfl (size30)) hS1.out ?_
    simp only [Act.put, List.setIfInBounds_toArray, List.set_cons_zero, List.set_cons_succ]
    refine wpAnyH_take (i := 8) (oi := { dst := some 111, op := Op.move (Operand.tmp 12), type := 3, pos := "law.go:105", after := #[{ on := 5, ground := Ground.guard }], guard := some (5, false) }) (v := iv x) rfl (by kernel_rfl) (by kernel_rfl) (by kernel_rfl) (fun _ _ _ h => h.elim) (Or.inl ⟨by rfl, ?y5⟩) hS1.out ?_
    case y5 =>
      intro V hV
      go_simp
    simp only [Act.put, List.setIfInBounds_toArray, List.set_cons_zero, List.set_cons_succ]
    refine wpAnyH_ready (rs := [9]) (by kernel_rfl) (by simp) (AllReadyH.cons (i := 9) (o := { dst := some 112, op := Op.call { callee := Callee.value (Operand.func 19), args := #[Operand.tmp 110, Operand.tmp 111], argTypes := #[30, 3] }, type := 43, pos := "law.go:105", after := #[{ on := 7, ground := Ground.data }, { on := 8, ground := Ground.data }, { on := 5, ground := Ground.chain }, { on := 5, ground := Ground.guard }], guard := some (5, false) }) rfl ?_ AllReadyH.nil)
    · intro K1 hK1
      rw [if_pos (by rfl)]
      have HC2 := HPR.out V1 hS1.out
      go_wp2_with fail
      refine HC2.mono ?_
      rintro e V2 ⟨p', rfl, hR2, hb2⟩
      dsimp only
      clear HC2
      have hS2 : Hid (Below A.heap.size A V2) := hS1.out.trans (hb2.mono hS1.out.size)
      have hR2 : Hid (RTold V2 R x p') := hR2
      clear hb2
      refine hK1.out _ _ hS2.out ?_
      clear hK1
      intro _
      try simp only [Act.put, List.setIfInBounds_toArray, List.set_cons_zero, List.set_cons_succ]
      refine wpAnyH_ready (rs := [10]) (by kernel_rfl) (by simp) (AllReadyH.cons (i := 10) (o := { dst := some 113, op := Op.call { callee := Callee.value (Operand.func 18), args := #[Operand.tmp 109, Operand.tmp 112], argTypes := #[43, 43] }, type := 4, pos := "law.go:105", after := #[{ on := 6, ground := Ground.data }, { on := 9, ground := Ground.data }, { on := 9, ground := Ground.chain }, { on := 5, ground := Ground.guard }], guard := some (5, false) }) rfl ?_ AllReadyH.nil)
      · intro K1 hK1
        rw [if_pos (by rfl)]
        have HC3 := HSA.out V2 p' hS2.out hR2.out
        go_wp2_with fail
        refine HC3.mono ?_
        rintro e V3 ⟨rfl, hb3⟩
        dsimp only
        clear HC3
        have hS3 : Hid (Below A.heap.size A V3) := hS2.out.trans (hb3.mono hS2.out.size)
        clear hb3
        refine hK1.out _ _ hS3.out ?_
        clear hK1
        intro _
        try simp only [Act.put, List.setIfInBounds_toArray, List.set_cons_zero, List.set_cons_succ]
        refine wpAnyH_take (i := 11) (oi := { dst := some 114, op := Op.unOp UnOp.not 4 (Operand.tmp 113), type := 4, pos := "law.go:105", after := #[{ on := 10, ground := Ground.data }, { on := 5, ground := Ground.guard }], guard := some (5, false) }) (v := .bool false) rfl (by kernel_rfl) (by kernel_rfl) (by kernel_rfl) (fun _ _ _ h => h.elim) (Or.inl ⟨by rfl, ?y6⟩) hS3.out ?_
        case y6 =>
          intro V hV
          go_simp
        simp only [Act.put, List.setIfInBounds_toArray, List.set_cons_zero, List.set_cons_succ]
        refine wpAnyH_take (i := 12) (oi := { dst := some 115, op := Op.pick (Operand.tmp 108) (Operand.const (Value.bool true)) (Operand.tmp 114), type := 4, pos := "law.go:105", after := #[{ on := 5, ground := Ground.data }, { on := 11, ground := Ground.data }], guard := none }) (v := .bool false) rfl (by kernel_rfl) (by kernel_rfl) (by kernel_rfl) (fun _ _ _ h => h.elim) (Or.inl ⟨by rfl, ?y7⟩) hS3.out ?_
        case y7 =>
          intro V hV
          go_simp
        simp only [Act.put, List.setIfInBounds_toArray, List.set_cons_zero, List.set_cons_succ]
        refine wpAnyH_done (by kernel_rfl) ?_ _
        exact hQ V3 p' hS3.out
theorem Names.sl {B : Nat} {w w' : World} {s : Sl} {l : List Hs} (h : Names B w s l) (hb : Below w.heap.size w w') : Names B w' s l := h.below hb
theorem ToldB.below {B : Nat} {w w' : World} {M : Br} {x : Int} {pp : Pp} {is : Bool} (h : ToldB B w M x pp is) (hb : Below w.heap.size w w') : ToldB B w' M x pp is := by
  unfold ToldB at *
  cases hm : M.at? x with
  | none => rw [hm] at h; exact h
  | some p =>
    rw [hm] at h
    obtain ⟨h1, y, n, t, h2, h3, h4, h5, h6⟩ := h
    exact ⟨h1, y, n, t, h2, h3, h4.below hb, h5.below hb, ownsRow_below h6 hb⟩
theorem ToldB.patch {B : Nat} {w : World} {M : Br} {x : Int} {pp : Pp} {is : Bool} (h : ToldB B w M x pp is) : pp.patch.length = 32 := by
  unfold ToldB at h
  cases hm : M.at? x with
  | none => rw [hm] at h; rw [h.2]; simp [Pp.zero]
  | some p =>
    rw [hm] at h
    obtain ⟨h1, y, n, t, rfl, h3, _⟩ := h
    exact h3
theorem own_n {w : World} {B e sz n m c : Nat} {a : Option Addr} {cs : List Value} (h : w.ownsRow B e sz (.slice a m c) n cs) : m = n := by
  rcases h.2 with ⟨e1, e2⟩ | ⟨_, _, _, e1, _⟩
  · injection e1 with _ e3 _; omega
  · injection e1
/-- the rows of what is told are its own -/
theorem ToldB.rows {B : Nat} {w : World} {M : Br} {x : Int} {pp : Pp} {is : Bool} (h : ToldB B w M x pp is) : (∃ cs, w.ownsRow B 9 1 (.slice pp.y.a pp.y.n pp.y.c) pp.y.n cs) ∧ ∃ cs, w.ownsRow B 50 2 (.slice pp.t.a pp.t.n pp.t.c) pp.t.n cs := by
  have hn : ∀ {e sz n : Nat} {a : Option Addr} {m c : Nat} {cs : List Value}, w.ownsRow B e sz (.slice a m c) n cs → w.ownsRow B e sz (.slice a m c) m cs := fun h => by
    have e := own_n h
    subst e
    exact h
  unfold ToldB at h
  cases hm : M.at? x with
  | none =>
    rw [hm] at h
    rw [h.2]
    exact ⟨⟨[], ⟨rfl, .inl ⟨rfl, rfl⟩⟩⟩, ⟨[], ⟨rfl, .inl ⟨rfl, rfl⟩⟩⟩⟩
  | some p =>
    rw [hm] at h
    obtain ⟨h1, y, n, t, rfl, h3, h4, h5, h6⟩ := h
    exact ⟨⟨_, hn h4⟩, ⟨_, hn h6⟩⟩
end Go.Proofs.Ytaecigpjcbjcbaa.Oct

/- Layer 20 (review): ReviewPlays: what its loops keep. -/
namespace Go.Proofs.Ytaecigpjcbjcbaa.Oct
open Go.RowKit
set_option linter.unusedSimpArgs false
set_option linter.unusedVariables false

theorem run_build30_0 (W : World) : (Instr.build 30 #[]).run Try.prog W = .ok (.agg #[.slice none 0 0, .slice none 0 0]) W := by kernel_rfl
theorem size9 : (Try.prog.info? 9).map (·.size) = some 1 := by kernel_rfl
theorem own_put {w : World} {B e sz n g : Nat} {v : Value} {cs : List Value} (h : w.ownsRow B e sz v n cs) (hg : v.ownBlock = some g) (k : Nat) (x : Value) : (w.setCell ⟨g, k, none⟩ x).ownsRow B e sz v n (cs.set k x) := by
  refine ⟨by rw [List.length_set]; exact h.1, ?_⟩
  rcases h.2 with ⟨rfl, _⟩ | ⟨g', cap, cur, rfl, hB, hb, hn, hc, hsz, ht⟩
  · cases hg
  · cases hg
    have hb' : Blk w g' e cur.toList := by unfold Blk; rw [hb]
    refine .inr ⟨g', cap, (cur.toList.set k x).toArray, rfl, hB, hb'.set k x, hn, hc, by simpa using hsz, ?_⟩
    rw [List.toList_toArray, List.take_set, ht]
theorem own_at {w : World} {B e sz n m c : Nat} {a : Option Addr} {cs : List Value} (h : w.ownsRow B e sz (.slice a m c) n cs) (hp : 0 < n) : ∃ g L, a = some ⟨g, 0, none⟩ ∧ B ≤ g ∧ Blk w g e L ∧ n * sz ≤ L.length := by
  rcases h.2 with ⟨_, e⟩ | ⟨g', cap, cur, e, hB, hb, hn, hc, hsz, ht⟩
  · omega
  · injection e with e1 e2 e3
    refine ⟨g', cur.toList, e1, hB, by unfold Blk; rw [hb], ?_⟩
    rw [Array.length_toList, hsz]
    exact Nat.mul_le_mul_right _ hn
theorem own_max {w : World} {B e sz n m c : Nat} {a : Option Addr} {cs : List Value} (h : w.ownsRow B e sz (.slice a m c) n cs) : (n : Int) ≤ 9223372036854775807 := by
  rcases h.2 with ⟨_, e⟩ | ⟨g', cap, cur, e, hB, hb, hn, hc, hsz, ht⟩
  · omega
  · unfold maxLen at hc; omega
theorem own_sameO {w w' : World} {B e sz n : Nat} {v : Value} {cs : List Value} (h : w.ownsRow B e sz v n cs) (hs : ∀ g, v.ownBlock = some g → w'.heap[g]? = w.heap[g]?) : w'.ownsRow B e sz v n cs := by
  refine ⟨h.1, ?_⟩
  rcases h.2 with hn | ⟨g, cap, cur, rfl, hB, hb, hr⟩
  · exact .inl hn
  · exact .inr ⟨g, cap, cur, rfl, hB, (hs g rfl).trans hb, hr⟩
/-- what is told may be spoilt: the rest stays -/
structure SP (A V : World) (B q : Nat) (pp : Pp) : Prop where
  bel : Below B A V
  pat : pp.patch.length = 32
  blk : Blk V q 43 pp.cells
  yes : ∃ cs, V.ownsRow B 9 1 (.slice pp.y.a pp.y.n pp.y.c) pp.y.n cs
  talk : ∃ cs, V.ownsRow B 50 2 (.slice pp.t.a pp.t.n pp.t.c) pp.t.n cs
  lo : B ≤ V.heap.size
section
variable {A V V' : World} {B q g i : Nat} {pp : Pp} {L : List Value}
theorem SP.below (h : SP A V B q pp) (hb : Below V.heap.size V V') : SP A V' B q pp := by
  obtain ⟨cs, hy⟩ := h.yes
  obtain ⟨ds, ht⟩ := h.talk
  exact ⟨h.bel.trans (hb.mono h.lo), h.pat, h.blk.below hb h.blk.lt, ⟨cs, ownsRow_below hy hb⟩, ⟨ds, ownsRow_below ht hb⟩, Nat.le_trans h.lo hb.size⟩
theorem blk_ne {V : World} {a c S T : Nat} {L K : List Value} (h : Blk V a S L) (k : Blk V c T K) (hne : S ≠ T) : a ≠ c := by
  rintro rfl
  unfold Blk at h k
  rw [h] at k
  injection k with k
  injection k with k1 k2
  exact hne k2
theorem SP.yesd (h : SP A V B q pp) (ha : pp.y.a = some ⟨g, 0, none⟩) (hg : Blk V g 9 L) (hB : B ≤ g) (v : Value) : SP A (V.setCell ⟨g, i, none⟩ v) B q pp := by
  have hgr := grown_setCell V g i v
  obtain ⟨cs, hy⟩ := h.yes
  obtain ⟨ds, ht⟩ := h.talk
  refine ⟨h.bel.trans ⟨hgr.os, hgr.tape, hgr.output, hgr.size, fun k hk => hgr.block k (by have := h.lo; omega) (fun e => by cases e; omega)⟩, h.pat, h.blk.kept hgr (fun e => blk_ne h.blk hg (by decide) (by simpa using e)), ⟨_, own_put hy (by rw [ha]; rfl) i v⟩, ⟨ds, own_sameO ht fun k hk => hgr.block k (ht.lt k hk).2 (fun e => own_ne ht hg (by decide) (by rw [hk, e]))⟩, Nat.le_trans h.lo hgr.size⟩
theorem SP.talkd (h : SP A V B q pp) (ha : pp.t.a = some ⟨g, 0, none⟩) (hg : Blk V g 50 L) (hB : B ≤ g) (v : Value) : SP A (V.setCell ⟨g, i, none⟩ v) B q pp := by
  have hgr := grown_setCell V g i v
  obtain ⟨cs, hy⟩ := h.yes
  obtain ⟨ds, ht⟩ := h.talk
  refine ⟨h.bel.trans ⟨hgr.os, hgr.tape, hgr.output, hgr.size, fun k hk => hgr.block k (by have := h.lo; omega) (fun e => by cases e; omega)⟩, h.pat, h.blk.kept hgr (fun e => blk_ne h.blk hg (by decide) (by simpa using e)), ⟨cs, own_sameO hy fun k hk => hgr.block k (hy.lt k hk).2 (fun e => own_ne hy hg (by decide) (by rw [hk, e]))⟩, ⟨_, own_put ht (by rw [ha]; rfl) i v⟩, Nat.le_trans h.lo hgr.size⟩
end
/-- what the law's loops keep -/
structure LI (w wr : World) (b c K : Nat) (M : Br) (lv dv : Value) (R : Rb) : Prop where
  bm : BM w wr b K M lv dv R
  rel : Rel M R
  box : Blk wr c 30 [lv, dv]
  cn : c ∉ M.bl b
  lo : w.heap.size ≤ c
section
variable {w wr V : World} {b c K : Nat} {M : Br} {lv dv : Value} {R : Rb}
theorem LI.below (h : LI w wr b c K M lv dv R) (hb : Below wr.heap.size wr V) : LI w V b c K M lv dv R := ⟨h.bm.below hb, h.rel, h.box.below hb h.box.lt, h.cn, h.lo⟩
theorem LI.open (h : LI w wr b c K M lv dv R) : ∀ V, Below wr.heap.size wr V → Calls Try.prog 14 #[.pointer (some ⟨b, 0, none⟩)] V fun e V2 => ∃ a1 c1, e = .returned (.slice a1 M.opn.length c1) ∧ Nums V2 a1 M.opn.length M.opn ∧ Below V.heap.size V V2 := fun V hV => (open_is (h.below hV).bm.brd).mono (by
  rintro e V2 ⟨v', rfl, ho, hb⟩
  obtain ⟨a, c, rfl, _, hn⟩ := Ow.nums (own_base ho (Nat.zero_le _))
  exact ⟨a, c, rfl, hn, hb⟩)
theorem LI.ropen (h : LI w wr b c K M lv dv R) : ∀ V, Below wr.heap.size wr V → Calls Try.prog 15 #[.agg #[lv, dv]] V fun e V2 => ∃ a1 c1, e = .returned (.slice a1 M.opn.length c1) ∧ Nums V2 a1 M.opn.length M.opn ∧ Below V.heap.size V V2 := fun V hV => (rOpen_is (h.below hV).bm.rb).mono (by
  rintro e V2 ⟨v', rfl, ho, hb⟩
  rw [← h.rel.opn] at ho
  obtain ⟨a, c, rfl, _, hn⟩ := Ow.nums (own_base ho (Nat.zero_le _))
  exact ⟨a, c, rfl, hn, hb⟩)
theorem told_there {B : Nat} {x : Int} {pp : Pp} {is : Bool} (h : Rel M R) (hT : ToldB B V M x pp is) : is = thereR R x := by
  rw [h.there]
  unfold ToldB at hT
  cases hm : M.at? x with
  | none => rw [hm] at hT; exact hT.1
  | some p => rw [hm] at hT; exact hT.1
theorem LI.rthere (h : LI w wr b c K M lv dv R) {B : Nat} {x : Int} {pp : Pp} {is : Bool} (hT : ToldB B wr M x pp is) : ∀ V, Below wr.heap.size wr V → Calls Try.prog 17 #[.agg #[lv, dv], iv x] V fun e V2 => e = .returned (.bool is) ∧ Below V.heap.size V V2 := fun V hV => by
  rw [told_there h.rel hT]
  exact rthere_is (h.below hV).bm.rb x
theorem LI.rprop (h : LI w wr b c K M lv dv R) (x : Int) : ∀ V, Below wr.heap.size wr V → Calls Try.prog 19 #[.agg #[lv, dv], iv x] V fun e V2 => ∃ p' : Pp, e = .returned (.agg p'.cells.toArray) ∧ RTold V2 R x p' ∧ Below V.heap.size V V2 := fun V hV => (rprop_is (h.below hV).bm.rb x).mono (by
  rintro e V2 ⟨p, rfl, hp, hb⟩
  exact ⟨p, rfl, hp.out.1, hb⟩)
theorem LI.same (h : LI w wr b c K M lv dv R) {B : Nat} {x : Int} {pp : Pp} {is : Bool} (hT : ToldB B wr M x pp is) : ∀ V p', Below wr.heap.size wr V → RTold V R x p' → Calls Try.prog 18 #[.agg pp.cells.toArray, .agg p'.cells.toArray] V fun e V2 => e = .returned (.bool true) ∧ Below V.heap.size V V2 := fun V p' hV hR =>
  (same_told (h.below hV).bm.brd (h.below hV).bm.rb h.rel (hT.below hV) hR).2
end
end Go.Proofs.Ytaecigpjcbjcbaa.Oct

/- Layer 20 (review): ReviewPlays: the law. -/
namespace Go.Proofs.Ytaecigpjcbjcbaa.Oct
open Go.RowKit
set_option linter.unusedSimpArgs false
set_option linter.unusedVariables false

set_option maxRecDepth 100000 in
set_option maxHeartbeats 16000000 in
theorem plays_law (l : List ActV) (a : Option Addr) (n cp : Nat) (w : World) (hl : ArgA w a n cp l) :
    Calls Try.prog 3 #[.slice a n cp] w fun e w' => e = .returned (.bool true) ∧ Below w.heap.size w w' := by
  have HFEW := few_is l a n cp w hl
  have HL : Hid (ArgA w a n cp l) := hl
  have qn : (n : Int) ≤ 140737488355328 := by have := hl.2.1; omega
  have HLV := fun W => lives_is W
  obtain ⟨Z, hZ, hz⟩ := zero34_ex
  have HZ : Hid (Z.length = 37) := hZ
  obtain ⟨Z43, hZ43⟩ : ∃ Z, Pp.zero.cells = Z := ⟨_, rfl⟩
  have hz43 := zero43
  rw [hZ43] at hz43
  have HZ43 : Hid (Z43.length = 39) := by show _ = _; rw [← hZ43]; exact zero_len
  have hz30 := zero30
  clear hl hZ hZ43
  go_enter Try.func3, Try.ntmps3
  go_wp2_with fail
  refine HFEW.mono ?_
  rintro e w1 ⟨r, rfl, hr, hb1⟩
  have HB1 : Hid (Below w.heap.size w w1) := hb1
  cases r with
  | false =>
    have HLW := HLV w1
    clear HFEW hr hb1
    go_wp2_with fail
    refine HLW.mono ?_
    rintro e w2 ⟨rfl, hb2⟩
    have HB2 : Hid (Below w.heap.size w w2) := below_tr HB1.out hb2
    clear HLW hb2
    go_wp2_with fail
    go_ret
    exact ⟨rfl, HB2.out⟩
  | true =>
    have HN : Hid (n ≤ 150) := hr rfl
    have HNEW := new_is w1
    clear HFEW hr hb1
    go_wp2_with fail
    refine HNEW.mono ?_
    rintro e w2 ⟨rfl, hB0, hb2⟩
    obtain ⟨b, hbb⟩ : ∃ b, w1.heap.size = b := ⟨_, rfl⟩
    rw [hbb] at hB0 ⊢
    obtain ⟨c, hcc⟩ : ∃ c, w2.heap.size = c := ⟨_, rfl⟩
    have HC0 : Hid (w2.heap.size = c) := hcc
    go_wp2_with (with_reducible change wpList _ _ _ ({ dst := some 20, op := _, type := _, pos := _, after := _, guard := _ } :: _) _ _; refine Hid.out ?_)
    show wpList _ _ _ _ _ _
    refine wpList_b0R rfl 30 rfl _ run_build30_0 ?_
    simp only [Act.put, List.setIfInBounds_toArray, List.set_cons_zero, List.set_cons_succ]
    go_wp2_with (with_reducible change wpList _ _ _ ({ dst := none, op := Op.store 30 _ _, type := _, pos := _, after := _, guard := _ } :: _) _ _; refine Hid.out ?_)
    show wpList _ _ _ _ _ _
    refine wpList_store_blk rfl 30 (.tmp 4) (.tmp 20) rfl c 0 30 [.slice none 0 0, .slice none 0 0] [.slice none 0 0, .slice none 0 0] rfl rfl (by rw [← HC0.out]; simpa using Blk.new w2 #[.slice none 0 0, .slice none 0 0] 30) (by simp) size30 (by intro v hv; simp at hv; subst hv; rfl) ?_
    intro w3 hb3 hg3
    have HI0 : Hid (LI w w3 b c 0 ⟨.slice none 0 0, .slice none 0 0, [], []⟩ (.slice none 0 0) (.slice none 0 0) ⟨[], []⟩) := by
      have h23 : Below w2.heap.size w2 w3 := (below_al w2 _).grown hg3.out (below_al w2 _).size (fun j hj => by cases hj; exact Nat.le_of_eq HC0.out)
      have hbl : ∀ j, j ∈ Br.bl ⟨.slice none 0 0, .slice none 0 0, [], []⟩ b → j = b := fun j hj => by simpa [Br.bl, Value.ownBlock] using hj
      have hbc : b < c := by rw [← HC0.out]; exact hB0.blk.lt
      refine ⟨⟨hB0.below h23, ⟨SV.nil _ _, SV.nil _ _, by simp, by simp, by simp, by simp⟩, below_tr (below_tr HB1.out hb2) h23, fun j hj => by rw [hbl j hj, ← hbb]; exact HB1.out.size, fun g hg => (by cases hg), fun g hg => (by cases hg), Nat.le_refl _, Nat.le_refl _⟩, rel_new _ _, by simpa using hb3.out, fun hm => by have := hbl c hm; omega, by have := HB1.out.size; omega⟩
    clear HNEW hB0 hb2 hbb hcc hb3 hg3 HC0 HB1
    simp only [Act.put, List.setIfInBounds_toArray, List.set_cons_zero, List.set_cons_succ]
    go_wp2
    go_loopw [23] (fun u wr => ∃ (i : Nat) (M : Br) (lv dv : Value) (R : Rb), u = iv i ∧ Hid (i ≤ n) ∧ Hid (LI w wr b c i M lv dv R)) (fun u _ => n - (intOf u).toNat)
    case atStart => exact ⟨0, _, _, _, _, rfl, Nat.zero_le _, HI0.out⟩
    case round =>
      obtain ⟨i, M, lv, dv, R, rfl, HIN, HI⟩ := hrel
      by_cases hi : i = n
      · have q1 : (n : Int) ≤ (i : Int) := by omega
        clear hi
        obtain ⟨la, nl, lc, hlv⟩ := HI.out.bm.rb.sl
        subst hlv
        have HNL : Hid (nl = R.L.length ∧ nl ≤ 150) := by
          obtain ⟨a', c', e', _⟩ := HI.out.bm.rb.l
          injection e' with e1 e2 e3
          have := HI.out.bm.nl
          have := HIN.out
          have := HN.out
          exact ⟨e2, by omega⟩
        have qnl : (nl : Int) ≤ 150 := by have := HNL.out.2; omega
        have c0 : wr.cell? ⟨c, 0, none⟩ = some (.slice la nl lc) := HI.out.box.cell rfl
        have hdd : decide (i < n) = false := decide_eq_false (by omega)
        go_wp2
        try simp only [hdd]
        go_loopw [94] (fun u wr => ∃ k : Nat, u = iv k ∧ Hid (k ≤ nl + 2) ∧ Hid (LI w wr b c i M (.slice la nl lc) dv R)) (fun u _ => nl + 2 - (intOf u).toNat)
        case atStart => exact ⟨0, rfl, Nat.zero_le _, HI.out⟩
        case round =>
          obtain ⟨k, rfl, HKN, HJ⟩ := hrel
          by_cases hk : k = nl + 2
          · have q2 : (nl : Int) + 2 ≤ (k : Int) := by omega
            have HLW := HLV wr
            clear hk
            go_wp2_with fail
            refine HLW.mono ?_
            rintro e w9 ⟨rfl, hb9⟩
            have HB9 : Hid (Below w.heap.size w w9) := below_tr HJ.out.bm.bel hb9
            clear HLW hb9
            go_wp2_with fail
            go_ret
            exact ⟨rfl, HB9.out⟩
          · have q2 : (k : Int) < (nl : Int) + 2 := by have := HKN.out; omega
            have HK2 : Hid (k < nl + 2) := by show _ < _; have := HKN.out; omega
            clear hk c0
            have HPR := proposal_is HJ.out.bm.brd (k : Int)
            go_wp2_with fail
            refine HPR.mono ?_
            rintro e V4 ⟨pp, is, rfl, htold, hb4⟩
            obtain ⟨cpp, hcpp⟩ : ∃ c, pp.cells = c := ⟨_, rfl⟩
            have HCP : Hid (pp.cells = cpp ∧ cpp.length = 39 ∧ ∀ v ∈ cpp, v.oneCell' = true) := by rw [← hcpp]; exact ⟨rfl, Pp.length htold.patch, Pp.one _⟩
            rw [hcpp]
            obtain ⟨q8, hq8⟩ : ∃ q, V4.heap.size = q := ⟨_, rfl⟩
            have HQ8 : Hid (V4.heap.size = q8) := hq8
            have HT4 : Hid (ToldB wr.heap.size V4 M (k : Int) pp is ∧ Below wr.heap.size wr V4) := ⟨htold, hb4⟩
            clear HPR htold hb4 hcpp
            go_wp2_with (with_reducible change wpList _ _ _ ({ dst := none, op := Op.store 43 _ _, type := _, pos := _, after := _, guard := _ } :: _) _ _; refine Hid.out ?_)
            show wpList _ _ _ _ _ _
            refine wpList_store_blk rfl 43 (.tmp 13) (.tmp 101) rfl q8 0 43 Z43 cpp rfl rfl (by rw [← HQ8.out]; simpa using Blk.new V4 Z43.toArray 43) (by rw [HZ43.out, HCP.out.2.1]; omega) (by rw [HCP.out.2.1]; exact size43) HCP.out.2.2 ?_
            intro V5 hb5 hg5
            have H45 : Hid (Below V4.heap.size V4 V5) := (below_al V4 _).grown hg5.out (below_al V4 _).size (fun j hj => by cases hj; exact Nat.le_of_eq HQ8.out)
            have HB8 : Hid (Blk V5 q8 43 pp.cells ∧ pp.patch.length = 32) := by
              refine ⟨?_, HT4.out.1.patch⟩
              have := hb5.out
              rw [List.take_zero, List.nil_append, List.drop_of_length_le (by rw [HZ43.out, HCP.out.2.1]; omega), List.append_nil] at this
              rw [HCP.out.1]
              exact this
            have HT5 : Hid (ToldB wr.heap.size V5 M (k : Int) pp is) := HT4.out.1.below H45.out
            have H35 : Hid (Below wr.heap.size wr V5) := below_tr HT4.out.2 H45.out
            have HL5 : Hid (LI w V5 b c i M (.slice la nl lc) dv R) := HJ.out.below H35.out
            clear hb5 hg5 hq8
            simp only [Act.put, List.setIfInBounds_toArray, List.set_cons_zero, List.set_cons_succ]
            have HB2 : Hid (Blk V5 c 30 [.slice la nl lc, dv]) := HL5.out.box
            have HTH : Hid _ := HL5.out.rthere HT5.out
            have HPP : Hid _ := HL5.out.rprop (k : Int)
            have HSA : Hid _ := HL5.out.same HT5.out
            go_wp2_with fail
            refine rv29 HB2 HB8 HTH HPP HSA ?_
            intro V6 p' hb6
            have HF : Hid (LI w V6 b c i M (.slice la nl lc) dv R) := HL5.out.below hb6
            clear hb6 HB2 HTH HPP HSA HL5 HT5 HB8 HJ H35 H45 HT4
            go_wp2
            go_roundw
            case rel => exact ⟨k + 1, by simp, HK2.out, HF.out⟩
            case measure =>
              have := HK2.out
              simp only [intOf]
              omega
      · have q2 : i < n := by have := HIN.out; omega
        have q1 : (i : Int) < (n : Int) := by omega
        have HQ2 : Hid (i < n) := q2
        obtain ⟨ga, off, ha, hbl, hca⟩ := HL.out.2.2.2 (by omega)
        subst ha
        obtain ⟨x, hx⟩ : ∃ x, l[i]? = some x := ⟨_, List.getElem?_eq_getElem (by rw [HL.out.1]; exact q2)⟩
        have hok := HL.out.2.2.1 x (List.mem_of_getElem? hx)
        have hra : wr.rangeAt ga (off + i * 37) x.cells := rangeAt_same (hca i x hx) (HI.out.bm.bel.block ga hbl)
        obtain ⟨cx, hcx⟩ : ∃ cx, x.cells = cx := ⟨_, rfl⟩
        have HCX : Hid (wr.rangeAt ga (off + i * 37) cx ∧ cx.length = 37 ∧ (∀ v ∈ cx, v.oneCell' = true) ∧ x.cells = cx) := by rw [← hcx]; exact ⟨hra, ActV.length hok.2.2.2.2, ActV.one x, rfl⟩
        have HOK : Hid x.ok := hok
        obtain ⟨q6, hq6⟩ : ∃ q, wr.heap.size = q := ⟨_, rfl⟩
        have HQ6 : Hid (wr.heap.size = q6) := hq6
        clear hi hca hx hbl hra hok hcx
        go_wp2_with (with_reducible change wpList _ _ _ ({ dst := some 26, op := _, type := _, pos := _, after := _, guard := _ } :: _) _ _; refine Hid.out ?_)
        show wpList _ _ _ _ _ _
        refine wpList_load_want rfl 34 (.tmp 25) rfl ga (off + i * 37) rfl cx _ HCX.out.1 Try.underlying34 rfl (by rw [HCX.out.2.1]; exact size34) ?_
        simp only [Act.put, List.setIfInBounds_toArray, List.set_cons_zero, List.set_cons_succ]
        go_wp2_with (with_reducible change wpList _ _ _ ({ dst := none, op := Op.store 34 _ _, type := _, pos := _, after := _, guard := _ } :: _) _ _; refine Hid.out ?_)
        show wpList _ _ _ _ _ _
        refine wpList_store_blk rfl 34 (.tmp 6) (.tmp 26) rfl q6 0 34 Z cx rfl rfl (by rw [← HQ6.out]; simpa using Blk.new wr Z.toArray 34) (by rw [HZ.out, HCX.out.2.1]; omega) (by rw [HCX.out.2.1]; exact size34) HCX.out.2.2.1 ?_
        intro V hb5 hg5
        have h0 : Below wr.heap.size wr V := (below_al wr _).grown hg5.out (below_al wr _).size (fun j hj => by cases hj; exact Nat.le_of_eq HQ6.out)
        have HV : Hid (LI w V b c i M lv dv R) := HI.out.below h0
        have HB6 : Hid (Blk V q6 34 cx ∧ (∀ j ∈ M.bl b, j < q6)) := by
          refine ⟨?_, fun j hj => by rw [← HQ6.out]; exact HI.out.bm.brd.lt j hj⟩
          have := hb5.out
          rw [List.take_zero, List.nil_append, List.drop_of_length_le (by rw [HZ.out, HCX.out.2.1]; omega), List.append_nil] at this
          exact this
        have HBO := both_is HV.out.bm HV.out.rel (by have := HN.out; have := HQ2.out; omega) x HOK.out
        rw [HCX.out.2.2.2] at HBO
        clear hb5 hg5 h0 hq6 HI HQ6
        simp only [Act.put, List.setIfInBounds_toArray, List.set_cons_zero, List.set_cons_succ]
        go_wp2_with (with_reducible change wpList _ _ _ ({ dst := some 29, op := _, type := _, pos := _, after := _, guard := _ } :: _) _ _; refine Hid.out ?_)
        show wpList _ _ _ _ _ _
        refine wpList_load_row rfl 30 (.tmp 4) rfl c rfl 30 #[lv, dv] (0, 0) _ HV.out.box Try.underlying30 rfl size30 ?_
        simp only [Act.put, List.setIfInBounds_toArray, List.set_cons_zero, List.set_cons_succ]
        go_wp2_with (with_reducible change wpList _ _ _ ({ dst := some 30, op := _, type := _, pos := _, after := _, guard := _ } :: _) _ _; refine Hid.out ?_)
        show wpList _ _ _ _ _ _
        refine wpList_load_row rfl 34 (.tmp 6) rfl q6 rfl 34 cx.toArray (0, 0) _ HB6.out.1 Try.underlying34 rfl (by rw [List.size_toArray, HCX.out.2.1]; exact size34) ?_
        simp only [Act.put, List.setIfInBounds_toArray, List.set_cons_zero, List.set_cons_succ]
        go_wp2_with fail
        refine HBO.mono ?_
        rintro e W1 ⟨M', lv', dv', R', rfl, hbo⟩
        obtain ⟨o1, o2, o3⟩ := hbo.out
        have H1 : Hid (BM w W1 b (i + 1) M' lv' dv' R' ∧ Rel M' R' ∧ Blk W1 c 30 [lv, dv] ∧ c ∉ M'.bl b ∧ Blk W1 q6 34 cx) := by
          have n6 : q6 ∉ M.bl b := fun h => by have := HB6.out.2 q6 h; omega
          exact ⟨o1, o2, (o3.other HV.out.box.lt HV.out.cn).1.trans HV.out.box, (o3.other HV.out.box.lt HV.out.cn).2.1, (o3.other HB6.out.1.lt n6).1.trans HB6.out.1⟩
        have HSL0 : Hid (∃ a n k, lv = .slice a n k) := HV.out.bm.rb.sl
        have HLO : Hid (w.heap.size ≤ c) := HV.out.lo
        clear hbo o1 o2 o3 HBO HV HB6
        go_wp2_with (with_reducible change wpList _ _ _ ({ dst := none, op := Op.store 30 _ _, type := _, pos := _, after := _, guard := _ } :: _) _ _; refine Hid.out ?_)
        show wpList _ _ _ _ _ _
        refine wpList_store_blk rfl 30 (.tmp 4) (.tmp 32) rfl c 0 30 [lv, dv] [lv', dv'] rfl rfl H1.out.2.2.1 (by simp) size30 (two H1.out.1.rb) ?_
        intro W2 hb2 hg2
        have H2 : Hid (LI w W2 b c (i + 1) M' lv' dv' R' ∧ Blk W2 q6 34 cx) := by
          refine ⟨⟨H1.out.1.box H1.out.2.2.1 HSL0.out hg2.out HLO.out H1.out.2.2.2.1, H1.out.2.1, by simpa using hb2.out, H1.out.2.2.2.1, HLO.out⟩, H1.out.2.2.2.2.kept hg2.out (fun e => blk_ne H1.out.2.2.2.2 H1.out.2.2.1 (by decide) (by simpa using e))⟩
        clear hb2 hg2 H1 HSL0 HLO
        have HB2 : Hid (Blk W2 c 30 [lv', dv']) := H2.out.1.box
        have HNO : Hid (M'.opn.length ≤ 140737488355328) := by show _ ≤ _; have := H2.out.1.bm.brd.nopn; omega
        have HO : Hid _ := H2.out.1.open
        have HO2 : Hid _ := H2.out.1.ropen
        simp only [Act.put, List.setIfInBounds_toArray, List.set_cons_zero, List.set_cons_succ]
        go_wp2_with fail
        refine rv9 HB2 HNO HO HO2 ?_
        intro V3 a1 a2 c1 c2 hb3
        have H3 : Hid (LI w V3 b c (i + 1) M' lv' dv' R') := H2.out.1.below hb3
        have HX3 : Hid (Blk V3 q6 34 x.cells) := by show Blk _ _ _ _; rw [HCX.out.2.2.2]; exact H2.out.2.below hb3 H2.out.2.lt
        obtain ⟨_, d1, _, _, _, _⟩ := ActV.cell (o := 0) HOK.out.2.2.2.2 HX3.out.range0
        rw [Nat.zero_add] at d1
        clear hb3 H2 HB2 HNO HO HO2
        have HPR := proposal_is H3.out.bm.brd x.id
        go_wp2_with fail
        refine HPR.mono ?_
        rintro e V4 ⟨pp, is, rfl, htold, hb4⟩
        obtain ⟨cpp, hcpp⟩ : ∃ c, pp.cells = c := ⟨_, rfl⟩
        have HCP : Hid (pp.cells = cpp ∧ cpp.length = 39 ∧ ∀ v ∈ cpp, v.oneCell' = true) := by rw [← hcpp]; exact ⟨rfl, Pp.length htold.patch, Pp.one _⟩
        rw [hcpp]
        obtain ⟨q8, hq8⟩ : ∃ q, V4.heap.size = q := ⟨_, rfl⟩
        have HQ8 : Hid (V4.heap.size = q8) := hq8
        have HT4 : Hid (ToldB V3.heap.size V4 M' x.id pp is ∧ Below V3.heap.size V3 V4) := ⟨htold, hb4⟩
        clear HPR htold hb4 hcpp
        go_wp2_with (with_reducible change wpList _ _ _ ({ dst := none, op := Op.store 43 _ _, type := _, pos := _, after := _, guard := _ } :: _) _ _; refine Hid.out ?_)
        show wpList _ _ _ _ _ _
        refine wpList_store_blk rfl 43 (.tmp 8) (.tmp 49) rfl q8 0 43 Z43 cpp rfl rfl (by rw [← HQ8.out]; simpa using Blk.new V4 Z43.toArray 43) (by rw [HZ43.out, HCP.out.2.1]; omega) (by rw [HCP.out.2.1]; exact size43) HCP.out.2.2 ?_
        intro V5 hb5 hg5
        have H45 : Hid (Below V4.heap.size V4 V5) := (below_al V4 _).grown hg5.out (below_al V4 _).size (fun j hj => by cases hj; exact Nat.le_of_eq HQ8.out)
        have HB8 : Hid (Blk V5 q8 43 pp.cells ∧ pp.patch.length = 32) := by
          refine ⟨?_, HT4.out.1.patch⟩
          have := hb5.out
          rw [List.take_zero, List.nil_append, List.drop_of_length_le (by rw [HZ43.out, HCP.out.2.1]; omega), List.append_nil] at this
          rw [HCP.out.1]
          exact this
        have HT5 : Hid (ToldB V3.heap.size V5 M' x.id pp is) := HT4.out.1.below H45.out
        have H35 : Hid (Below V3.heap.size V3 V5) := below_tr HT4.out.2 H45.out
        have HL5 : Hid (LI w V5 b c (i + 1) M' lv' dv' R') := H3.out.below H35.out
        clear hb5 hg5 hq8
        simp only [Act.put, List.setIfInBounds_toArray, List.set_cons_zero, List.set_cons_succ]
        have HB2 : Hid (Blk V5 c 30 [lv', dv']) := HL5.out.box
        have HX5 : Hid (Blk V5 q6 34 x.cells) := HX3.out.below H35.out HX3.out.lt
        have HL6 : Hid (q6 < V5.heap.size) := HX5.out.lt
        obtain ⟨_, d15, _, _, _, _⟩ := ActV.cell (o := 0) HOK.out.2.2.2.2 HX5.out.range0
        rw [Nat.zero_add] at d15
        have HTH : Hid _ := HL5.out.rthere HT5.out
        have HPP : Hid _ := HL5.out.rprop x.id
        have HSA : Hid _ := HL5.out.same HT5.out
        obtain ⟨B, hBB⟩ : ∃ B, V3.heap.size = B := ⟨_, rfl⟩
        have HBB : Hid (V3.heap.size = B) := hBB
        have HSP : Hid (SP V3 V5 B q8 pp) := by
          rw [← HBB.out]
          exact ⟨H35.out, HB8.out.2, HB8.out.1, HT5.out.rows.1, HT5.out.rows.2, H35.out.size⟩
        clear d1 hBB
        go_wp2_with fail
        refine rv12 HB2 HB8 d15 HL6 HTH HPP HSA ?_
        intro V6 p' hb6
        have HS6 : Hid (SP V3 V6 B q8 pp) := HSP.out.below hb6
        have HF : Hid (∀ V, SP V3 V B q8 pp → LI w V b c (i + 1) M' lv' dv' R') := fun V hV => H3.out.below (by rw [HBB.out]; exact hV.bel)
        obtain ⟨yn, hyn⟩ : ∃ n, pp.y.n = n := ⟨_, rfl⟩
        obtain ⟨tn, htn⟩ : ∃ n, pp.t.n = n := ⟨_, rfl⟩
        have HYN : Hid (pp.y.n = yn ∧ pp.t.n = tn) := ⟨hyn, htn⟩
        have qy : (yn : Int) ≤ 9223372036854775807 := by rw [← hyn]; obtain ⟨cs, h⟩ := HS6.out.yes; exact own_max h
        have qt : (tn : Int) ≤ 9223372036854775807 := by rw [← htn]; obtain ⟨cs, h⟩ := HS6.out.talk; exact own_max h
        have c36 : V6.cell? ⟨q8, 36, none⟩ = some (.slice pp.y.a yn pp.y.c) := by rw [← hyn]; exact HS6.out.blk.cell (Pp.tail HS6.out.pat 1)
        have hdd : decide (i < n) = true := decide_eq_true HQ2.out
        clear hb6 HB2 HX5 HL6 d15 HTH HPP HSA HL5 HT5 HB8 HSP H3 HX3 H35 H45 HT4 HCP HQ8 hyn htn HBB
        go_wp2
        try simp only [hdd]
        go_loopw [69] (fun u wr => ∃ k : Nat, u = iv k ∧ Hid (k ≤ yn) ∧ Hid (SP V3 wr B q8 pp)) (fun u _ => yn - (intOf u).toNat)
        case atStart => exact ⟨0, rfl, Nat.zero_le _, HS6.out⟩
        case round =>
          obtain ⟨k, rfl, HKN, HS⟩ := hrel
          by_cases hk : k = yn
          · have q3 : (yn : Int) ≤ (k : Int) := by omega
            have hd2 : decide (k < yn) = false := decide_eq_false (by omega)
            have c38 : wr.cell? ⟨q8, 38, none⟩ = some (.slice pp.t.a tn pp.t.c) := by rw [← HYN.out.2]; exact HS.out.blk.cell (Pp.tail HS.out.pat 3)
            clear hk c36
            go_wp2
            try simp only [hdd, hd2]
            go_loopw [80] (fun u wr => ∃ k : Nat, u = iv k ∧ Hid (k ≤ tn) ∧ Hid (SP V3 wr B q8 pp)) (fun u _ => tn - (intOf u).toNat)
            case atStart => exact ⟨0, rfl, Nat.zero_le _, HS.out⟩
            case round =>
              obtain ⟨m, rfl, HMN, HT⟩ := hrel
              by_cases hm : m = tn
              · have q4 : (tn : Int) ≤ (m : Int) := by omega
                have HE : Hid (LI w wr b c (i + 1) M' lv' dv' R') := HF.out wr HT.out
                clear hm c38
                go_wp2
                go_roundw
                case rel => exact ⟨i + 1, _, _, _, _, by simp, HQ2.out, HE.out⟩
                case measure =>
                  have := HQ2.out
                  simp only [intOf]
                  omega
              · have q5 : m < tn := by have := HMN.out; omega
                have q4 : (m : Int) < (tn : Int) := by omega
                have HM2 : Hid (m < tn) := q5
                obtain ⟨cs, hown⟩ := HT.out.talk
                obtain ⟨g, L, hga, hgB, hgL, hgn⟩ := own_at hown (by rw [HYN.out.2]; omega)
                have HG : Hid (pp.t.a = some ⟨g, 0, none⟩ ∧ B ≤ g ∧ Blk wr g 50 L ∧ m * 2 + 1 < L.length) := ⟨hga, hgB, hgL, by rw [HYN.out.2] at hgn; omega⟩
                have c39 : wr.cell? ⟨q8, 38, none⟩ = some (.slice (some ⟨g, 0, none⟩) tn pp.t.c) := by rw [← HYN.out.2, ← hga]; exact HT.out.blk.cell (Pp.tail HT.out.pat 3)
                clear hm hown hga hgB hgL hgn c38
                go_wp2_with (with_reducible change wpList _ _ _ ({ dst := none, op := Op.store 9 _ _, type := _, pos := _, after := _, guard := _ } :: _) _ _; refine Hid.out ?_)
                show wpList _ _ _ _ _ _
                refine wpList_st1w rfl 9 (.tmp 87) _ rfl g (m * 2 + 1) (.string ⟨#[115, 112, 111, 105, 108, 116]⟩) 50 L rfl rfl HG.out.2.2.1 HG.out.2.2.2 size9 rfl rfl ?_
                obtain ⟨V7, hV7⟩ : ∃ V, wr.setCell ⟨g, m * 2 + 1, none⟩ (.string ⟨#[115, 112, 111, 105, 108, 116]⟩) = V := ⟨_, rfl⟩
                have HS7 : Hid (SP V3 V7 B q8 pp) := by rw [← hV7]; exact HT.out.talkd HG.out.1 HG.out.2.2.1 HG.out.2.1 _
                rw [hV7]
                clear hV7 c39
                simp only [Act.put, List.setIfInBounds_toArray, List.set_cons_zero, List.set_cons_succ]
                go_wp2
                go_roundw
                case rel => exact ⟨m + 1, by simp, HM2.out, HS7.out⟩
                case measure =>
                  have := HM2.out
                  simp only [intOf]
                  omega
          · have q5 : k < yn := by have := HKN.out; omega
            have q4 : (k : Int) < (yn : Int) := by omega
            have HM2 : Hid (k < yn) := q5
            obtain ⟨cs, hown⟩ := HS.out.yes
            obtain ⟨g, L, hga, hgB, hgL, hgn⟩ := own_at hown (by rw [HYN.out.1]; omega)
            have HG : Hid (pp.y.a = some ⟨g, 0, none⟩ ∧ B ≤ g ∧ Blk wr g 9 L ∧ k < L.length) := ⟨hga, hgB, hgL, by rw [HYN.out.1] at hgn; omega⟩
            have c37 : wr.cell? ⟨q8, 36, none⟩ = some (.slice (some ⟨g, 0, none⟩) yn pp.y.c) := by rw [← HYN.out.1, ← hga]; exact HS.out.blk.cell (Pp.tail HS.out.pat 1)
            clear hk hown hga hgB hgL hgn c36
            go_wp2_with (with_reducible change wpList _ _ _ ({ dst := none, op := Op.store 9 _ _, type := _, pos := _, after := _, guard := _ } :: _) _ _; refine Hid.out ?_)
            show wpList _ _ _ _ _ _
            refine wpList_st1w rfl 9 (.tmp 75) _ rfl g k (.string ⟨#[115, 112, 111, 105, 108, 116]⟩) 9 L rfl rfl HG.out.2.2.1 HG.out.2.2.2 size9 rfl rfl ?_
            obtain ⟨V7, hV7⟩ : ∃ V, wr.setCell ⟨g, k, none⟩ (.string ⟨#[115, 112, 111, 105, 108, 116]⟩) = V := ⟨_, rfl⟩
            have HS7 : Hid (SP V3 V7 B q8 pp) := by rw [← hV7]; exact HS.out.yesd HG.out.1 HG.out.2.2.1 HG.out.2.1 _
            rw [hV7]
            clear hV7 c37
            simp only [Act.put, List.setIfInBounds_toArray, List.set_cons_zero, List.set_cons_succ]
            go_wp2
            go_roundw
            case rel => exact ⟨k + 1, by simp, HM2.out, HS7.out⟩
            case measure =>
              have := HM2.out
              simp only [intOf]
              omega
end Go.Proofs.Ytaecigpjcbjcbaa.Oct
