/-
  Layer 5 (disk): Flush.
-/
import Derived.Test.YtmhdldhplhffcaaRow
namespace Go.Proofs.Ytmhdldhplhffcaa.Oct
open Go.RowKit Go.Maps Go.Lib

theorem row_opt {w : World} {v : Value} {l : List (Nat × List UInt8)} (h : w.ownsRow 0 75 257 v l.length (l.flatMap wc)) : ∃ ao cap, v = .slice ao l.length cap ∧ (0 < l.length → ∃ g, ao = some ⟨g, 0, none⟩ ∧ g < w.heap.size) := by
  rcases row_shape h with ⟨e, rfl⟩ | ⟨g, cap, e, hg, _⟩
  · exact ⟨none, 0, e, fun h => by cases h⟩
  · exact ⟨_, cap, e, fun _ => ⟨g, rfl, hg⟩⟩

theorem Part.start {w : World} {d bs bl : Nat} {pv : Value} {nS nL : Nat} {DS DL : DataW Unit} {D : Disk} (h : DkAt w d bs bl pv nS nL DS DL D) : Part w d bs bl pv nS D [] w := ⟨⟨DS, h.sure, h.looks⟩, Keep.refl _ _⟩

set_option maxHeartbeats 1000000 in
set_option maxRecDepth 100000 in
theorem flush_on {w : World} {d bs bl : Nat} {pv : Value} {nS nL : Nat} {DS DL : DataW Unit} {D : Disk} (h : DkAt w d bs bl pv nS nL DS DL D) (hn : D.ops < 1000000000000) (hd : D.down = false) (ho : D.out = false) :
    Calls Try.prog 16 #[.pointer (some ⟨d, 0, none⟩)] w fun e w' => e = .returned (.int .i64 0) ∧ ∃ nS' DS', DkAt w' d bs bl (.slice none 0 0) nS' 0 DS' (.map []) { D.spent with sure := settled D.sure D.pend, pend := [] } ∧ Keep (fun k => k = d ∨ k = bl ∨ k = bs) w w' := by
  have hr := ready_is h
  rw [hd] at hr
  have hs := spend_on h hn ho
  obtain ⟨Z, hZ, HZ⟩ := zero75
  obtain ⟨ao, cap, rfl, hao⟩ := row_opt h.row
  obtain ⟨n, hnl⟩ : ∃ n, n = D.pend.length := ⟨_, rfl⟩
  rw [← hnl] at h hs hao
  have HNL : Hid (n = D.pend.length) := hnl
  have HAO : Hid (0 < n → ∃ g, ao = some ⟨g, 0, none⟩ ∧ g < w.heap.size) := hao
  have HNN : Hid (n < 1000000000000 ∧ nS + n < 1000000000000) := by have := h.roomS; exact ⟨by omega, by omega⟩
  have qn : (n : Int) < 1000000000000 := by have := HNN.out.1; omega
  clear h hd ho hn hnl hao
  go_enter Try.func16, Try.ntmps16
  go_wp2_with (first
    | (go_at_call 40; refine hr.mono ?_; rintro e w1 ⟨rfl, rfl⟩)
    | (go_at_call 41; refine hs.mono ?_; rintro e w1 ⟨rfl, hA, hG⟩; have HA : Hid (DkAt w1 d bs bl (.slice ao n cap) nS nL DS DL D.spent) := hA; have HG : Hid (w.grownBy w1 (some d)) := hG; have c2 := hA.c2; clear hA hG hr hs))
  clear c2
  go_loopw [22] (fun i wr => ∃ t : Nat, i = .int .i64 t ∧ t ≤ n ∧ Hid (Part w1 d bs bl (.slice ao n cap) nS D.spent (D.pend.take t) wr)) (fun i _ => n - (intOf i).toNat)
  case atStart => exact ⟨0, rfl, Nat.zero_le _, Part.start HA.out⟩
  case round =>
    obtain ⟨t, rfl, ht, hp⟩ := hrel
    by_cases hlt : t = n
    · have q1 : ¬ ((t : Int) < (n : Int)) := by omega
      have HP : Hid (Part w1 d bs bl (.slice ao n cap) nS D.spent D.pend wr) := by
        have := hp.out
        rw [show D.pend.take t = D.pend by rw [hlt, HNL.out, List.take_length]] at this
        exact this
      have hf := forget_is wr d bs bl (.slice ao n cap) nL DL D.spent (HP.out.keep.blk HA.out.blk (fun e => HA.out.d_bs e)) (HP.out.keep.owns HA.out.last (fun e => HA.out.ne e.symm)) HA.out.d_bl
      clear hp
      go_wp2_with (go_at_call 39; refine hf.mono ?_; rintro e w2 ⟨rfl, h1, h2, h3⟩; have H1 : Hid (Blk w2 d 61 (dc { D.spent with pend := [] } bs (.slice none 0 0) bl)) := h1; have H2 : Hid (w2.ownsMap Try.prog 3 (plainElem Try.prog 3) bl 0 (.map [] : DataW Unit)) := h2; have H3 : Hid (Keep (fun k => k = d ∨ k = bl) wr w2) := h3; clear h1 h2 h3)
      go_ret
      obtain ⟨DS', hD, hK⟩ := HP.out.emptied HA.out (Nat.le_refl _) (fun x hx => hx) H1.out H2.out H3.out
      exact ⟨rfl, _, DS', hD, (Keep.grown HG.out (.inl rfl)).trans hK (fun j hj _ => hj)⟩
    · have q1 : (t : Int) < (n : Int) := by omega
      have hlt' : t < n := by omega
      obtain ⟨g, hg, hgl⟩ := HAO.out (by omega)
      subst hg
      obtain ⟨x, hx⟩ : ∃ x, D.pend[t]? = some x := ⟨_, List.getElem?_eq_getElem (by rw [← HNL.out]; exact hlt')⟩
      have HX : Hid (x.1 < D.n ∧ x.2.length = 256 ∧ D.n ≤ 4096) := ⟨(HA.out.good.2.2.2.1 x (List.mem_of_getElem? hx)).1, (HA.out.good.2.2.2.1 x (List.mem_of_getElem? hx)).2, HA.out.good.2.1⟩
      have HR : Hid (wr.rangeAt g (t * 257) (wc x)) := by
        have hrow := row_kept hp.out.keep HA.out.row (fun k hk e => (HA.out.pv_ne hk).2.1 e)
        exact row_range (n := n) (by rw [HNL.out]; rw [HNL.out] at hrow; exact hrow) (fun y hy => (HA.out.good.2.2.2.1 y hy).2) HNL.out.symm hx
      have HWC : Hid ((Try.prog.info? 75).map (·.size) = some (wc x).length) := by show _ = _; rw [wc_length HX.out.2.1]; exact size75
      have HTK : Hid (D.pend.take (t + 1) = D.pend.take t ++ [x] ∧ (D.pend.take t).length = t) := ⟨by rw [List.take_add_one, hx]; rfl, by rw [List.length_take, ← HNL.out]; omega⟩
      clear hx ht
      have HBZ : Hid (Blk (wr.alloc (.cells Z.toArray 75)) wr.heap.size 75 Z) := Blk.new wr Z.toArray 75
      have HKZ : Hid (Keep (fun _ => False) wr (wr.alloc (.cells Z.toArray 75))) := Keep.below ((Below.refl _ wr).alloc (Nat.le_refl _) _)
      go_wp2_with (first
        | (refine wpList_load_mid rfl 75 (.tmp 24) rfl g (t * 257) rfl (wc x) _ HR.out Try.underlying75 rfl HWC.out ?_)
        | (refine wpList_store_blk rfl 75 (.tmp 6) (.tmp 25) rfl wr.heap.size 0 75 Z (wc x) rfl rfl HBZ.out (by rw [wc_length HX.out.2.1, HZ.out]; omega) HWC.out (wc_one x) ?_
           intro w2 hb2 hg2
           have HB2 : Hid (Blk w2 wr.heap.size 75 (wc x)) := copied75 (wc_length HX.out.2.1) HZ.out hb2.out
           have HK2 : Hid (Keep (fun _ => False) wr w2) := ⟨hg2.out.os, hg2.out.tape, hg2.out.output, Nat.le_trans HKZ.out.size hg2.out.size, fun k hk hne => (hg2.out.block k (Nat.lt_of_lt_of_le hk HKZ.out.size) (fun e => by cases e; exact absurd hk (Nat.lt_irrefl _))).trans (HKZ.out.block k hk hne)⟩
           have HR2 : Hid (w2.rangeAt wr.heap.size 0 (wc x)) := (by
             intro j v hj
             rw [Nat.zero_add]
             exact HB2.out.cell hj)
           clear hb2 hg2)
        | (refine wpList_load_mid rfl 75 (.tmp 6) rfl wr.heap.size 0 rfl (wc x) _ HR2.out Try.underlying75 rfl HWC.out ?_))
      obtain ⟨DS2, hm1, hm2⟩ := hp.out.sure
      have HKB : Hid (Keep (fun k => k = bs) wr w2) := HK2.out.mono (fun _ _ e => e.elim)
      have hB := (hp.out.keep.trans HKB.out (fun j hj _ => hj)).blk HA.out.blk (fun e => HA.out.d_bs e)
      refine (settle_is d bs (nS + (D.pend.take t).length) DS2 _ x _ rfl (by have := HX.out; omega) HX.out.2.1 w2 (hB.cell rfl) hB.lt HA.out.d_bs (HK2.out.owns hm1 (fun e => e)) hm2 (by rw [HTK.out.2]; have := HNN.out.2; unfold maxLen; omega)).mono ?_
      rintro e w3 ⟨rfl, hs3⟩
      have HS3 : Hid (Part w1 d bs bl (.slice (some ⟨g, 0, none⟩) n cap) nS D.spent (D.pend.take (t + 1)) w3) := by
        show Part _ _ _ _ _ _ _ _ _
        rw [HTK.out.1]
        exact hp.out.more HKB.out hs3
      clear hm1 hm2 hB hs3
      have hw : IntKind.i64.wrap ((t : Int) + 1) = (t : Int) + 1 := wrapi (by omega) (by omega)
      go_wp2
      exact ⟨⟨t + 1, by simp, by omega, HS3⟩, by simp only [intOf]; omega⟩
#print axioms flush_on
end Go.Proofs.Ytmhdldhplhffcaa.Oct
