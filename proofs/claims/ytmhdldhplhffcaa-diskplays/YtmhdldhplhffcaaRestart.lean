/-
  Layer 5 (disk): Restart; what the calls leave, in one word.
-/
import Derived.Test.YtmhdldhplhffcaaSettleAt
namespace Go.Proofs.Ytmhdldhplhffcaa.Oct
open Go.RowKit Go.Maps Go.Lib

/-- what a call of a disk leaves, its blocks named -/
def Ch (w : World) (d bs bl : Nat) (pv : Value) (D' : Disk) (w' : World) : Prop :=
  ∃ pv' nS' nL' DS' DL', DkAt w' d bs bl pv' nS' nL' DS' DL' D' ∧ (∀ g, pv'.ownBlock = some g → pv.ownBlock = some g ∨ w.heap.size ≤ g) ∧ Keep (fun k => k = d ∨ k = bs ∨ k = bl ∨ pv.ownBlock = some k) w w'

theorem Ch.same {w : World} {d bs bl : Nat} {pv : Value} {nS nL : Nat} {DS DL : DataW Unit} {D : Disk} (h : DkAt w d bs bl pv nS nL DS DL D) : Ch w d bs bl pv D w := ⟨pv, nS, nL, DS, DL, h, fun _ hg => .inl hg, Keep.refl _ _⟩

theorem lt_owner {w : World} {e : TypeId} {size n : Nat} {v : Value} {xs : List Value} (h : w.ownsRow 0 e size v n xs) {g : Nat} (hg : v.ownBlock = some g) : g < w.heap.size := by
  rcases h.2 with ⟨rfl, _⟩ | ⟨g', cap, cur, rfl, _, hb, _⟩
  · cases hg
  · have : g' = g := by simpa [Value.ownBlock] using hg
    subst this
    exact lt_of_block hb

theorem After.of {w w' : World} {S : Nat → Prop} {d bs bl : Nat} {pv : Value} {nS nL : Nat} {DS DL : DataW Unit} {D D' : Disk} (_ : DkAt w d bs bl pv nS nL DS DL D) (h1 : S d) (h2 : S bs) (h3 : S bl) (h4 : ∀ g, pv.ownBlock = some g → S g) (hc : Ch w d bs bl pv D' w') : After w S d D' w' := by
  obtain ⟨pv', nS', nL', DS', DL', A', hp, hk⟩ := hc
  have hK : Keep S w w' := hk.mono (fun j _ e => by
    rcases e with rfl | rfl | rfl | e
    · exact h1
    · exact h2
    · exact h3
    · exact h4 j e)
  refine ⟨fun k => k = d ∨ k = bs ∨ k = bl ∨ pv'.ownBlock = some k, ⟨bs, bl, pv', nS', nL', DS', DL', A', .inl rfl, .inr (.inl rfl), .inr (.inr (.inl rfl)), fun g hg => .inr (.inr (.inr hg)), ?_⟩, ?_, hK⟩
  · rintro k (rfl | rfl | rfl | e)
    · exact A'.blk.lt
    · exact A'.sure.lt
    · exact A'.last.lt
    · exact lt_owner A'.row e
  · rintro k (rfl | rfl | rfl | e)
    · exact .inl h1
    · exact .inl h2
    · exact .inl h3
    · rcases hp k e with h | h
      · exact .inl (h4 k h)
      · exact .inr h

theorem keep3 {w w' : World} {d bs bl : Nat} {pv : Value} (h : Keep (fun k => k = d ∨ k = bl ∨ k = bs) w w') : Keep (fun k => k = d ∨ k = bs ∨ k = bl ∨ pv.ownBlock = some k) w w' :=
  h.mono (fun j _ e => by
    rcases e with e | e | e
    · exact Or.inl e
    · exact Or.inr (Or.inr (Or.inl e))
    · exact Or.inr (Or.inl e))

theorem flush_ch {w : World} {d bs bl : Nat} {pv : Value} {nS nL : Nat} {DS DL : DataW Unit} {D : Disk} (h : DkAt w d bs bl pv nS nL DS DL D) (hn : D.ops < 1000000000000) :
    Calls Try.prog 16 #[.pointer (some ⟨d, 0, none⟩)] w fun e w' => e = .returned (.int .i64 D.flush.1) ∧ Ch w d bs bl pv D.flush.2 w' := by
  unfold Disk.flush
  cases hd : D.down
  · simp only [Bool.false_eq_true, if_false]
    cases ho : D.out
    · simp only [Bool.false_eq_true, if_false]
      refine (flush_on h hn hd ho).mono fun e w' ⟨he, nS', DS', hD, hK⟩ => ⟨he, _, nS', 0, DS', _, hD, (fun g hg => by cases hg), keep3 hK⟩
    · simp only [if_true]
      have hr := ready_is h
      rw [hd] at hr
      have hs := spend_out h hd ho
      have HU : Hid (DkAt w d bs bl pv nS nL DS DL D) := h
      clear h hd ho hn
      go_enter Try.func16, Try.ntmps16
      go_wp2_with (first
        | (go_at_call 40; refine hr.mono ?_; rintro e w1 ⟨rfl, rfl⟩)
        | (go_at_call 41; refine hs.mono ?_; rintro e w1 ⟨rfl, hA, hG⟩; have HA : Hid (DkAt w1 d bs bl pv nS nL DS DL D.off) := hA; have HG : Hid (w.grownBy w1 (some d)) := hG; clear hA hG hr hs))
      go_ret
      exact ⟨rfl, pv, nS, nL, DS, DL, HA.out, fun _ hg => .inl hg, Keep.grown HG.out (.inl rfl)⟩
  · simp only [if_true]
    have hr := ready_is h
    rw [hd] at hr
    have HU : Hid (DkAt w d bs bl pv nS nL DS DL D) := h
    clear h hd hn
    go_enter Try.func16, Try.ntmps16
    go_wp2_with (go_at_call 40; refine hr.mono ?_; rintro e w1 ⟨rfl, rfl⟩)
    go_ret
    exact ⟨rfl, Ch.same HU.out⟩

theorem DkAt.at_below {w w' : World} {d bs bl : Nat} {pv : Value} {nS nL : Nat} {DS DL : DataW Unit} {D : Disk} (A : DkAt w d bs bl pv nS nL DS DL D) (hb : Below w.heap.size w w') : DkAt w' d bs bl pv nS nL DS DL D := by
  have hk : Keep (fun _ => False) w w' := Keep.below hb
  exact ⟨hk.blk A.blk (fun e => e), hk.owns A.sure (fun e => e), hk.owns A.last (fun e => e), A.looks, A.lasts, row_kept hk A.row (fun _ _ e => e), A.roomS, A.roomL, A.ne, A.good⟩

theorem inP_of {bs : Nat} {w : World} {v : Value} {l : List Int} (B : Nat) (h : w.ownsRow B 3 1 v l.length (l.map (Value.int .i64))) (hB : bs < B) : ∃ a k c, v = .slice a k c ∧ InP bs w a k c l := by
  rcases h.2 with ⟨rfl, h0⟩ | ⟨g, cap, cur, rfl, hb, hg, h1, h2, h3, h4⟩
  · exact ⟨none, 0, 0, rfl, h0, Nat.le_refl _, fun h => by cases h⟩
  · refine ⟨_, _, _, rfl, rfl, h1, fun _ => ⟨g, 0, rfl, lt_of_block hg, by omega, fun i z hz => ?_⟩⟩
    have := World.ownsRow.cellAt h i (by have := (List.getElem?_eq_some_iff.1 hz).1; omega)
    rw [Nat.zero_add, this, List.getElem?_map, hz]
    rfl

set_option maxHeartbeats 1000000 in
set_option maxRecDepth 100000 in
theorem restart_ch {w : World} {d bs bl : Nat} {pv : Value} {nS nL : Nat} {DS DL : DataW Unit} {D : Disk} (h : DkAt w d bs bl pv nS nL DS DL D) (hn : D.ops < 1000000000000) (a : Option Addr) (k c : Nat) (keep : List Int) (hin : InI w a k c keep) (hk : k ≤ 17592186044416) :
    Calls Try.prog 15 #[.pointer (some ⟨d, 0, none⟩), .slice a k c] w fun e w' => e = .returned (.int .i64 (D.restart keep).1) ∧ Ch w d bs bl pv (D.restart keep).2 w' := by
  obtain ⟨ao, cap, rfl, hao⟩ := row_opt h.row
  obtain ⟨n, hnl⟩ : ∃ n, n = D.pend.length := ⟨_, rfl⟩
  rw [← hnl] at h hao ⊢
  have HNL : Hid (n = D.pend.length) := hnl
  have hm := isMade_is h
  have hri := rising_is w a k c keep hin hk
  have HU : Hid (DkAt w d bs bl (.slice ao n cap) nS nL DS DL D) := h
  have HN : Hid (D.ops < 1000000000000) := hn
  have HIN : Hid (InI w a k c keep) := hin
  have c2 := h.c2
  have qk : (k : Int) ≤ 17592186044416 := by omega
  clear h hn hin hk hao hnl
  go_enter Try.func15, Try.ntmps15
  go_wp2_with (go_at_call 28; refine hm.mono ?_; rintro e w1 ⟨rfl, rfl⟩; clear hm)
  go_loopw [12] (fun i wr => ∃ t : Nat, i = .int .i64 t ∧ t ≤ k ∧ Hid (∀ p ∈ keep.take t, 0 ≤ p ∧ p < D.pend.length) ∧ w = wr) (fun i _ => k - (intOf i).toNat)
  case atStart => exact ⟨0, rfl, Nat.zero_le _, fun p hp => by simp at hp, rfl⟩
  case round =>
    obtain ⟨t, rfl, ht, hall, rfl⟩ := hrel
    by_cases hlt : t = k
    · have q1 : ¬ ((t : Int) < (k : Int)) := by omega
      have HALL : Hid (∀ p ∈ keep, 0 ≤ p ∧ p < D.pend.length) := by
        have := hall.out
        rw [hlt, List.take_of_length_le (by rw [HIN.out.1]; exact Nat.le_refl _)] at this
        exact this
      clear hall c2 qk
      go_wp2_with fail
      refine hri.mono ?_
      rintro e w1 ⟨v, rfl, hown, hB⟩
      obtain ⟨a1, k1, cp1, rfl, hin1⟩ := inP_of _ hown HU.out.sure.lt
      have HB : Hid (Below w.heap.size w w1) := hB
      have HU1 : Hid (DkAt w1 d bs bl (.slice ao n cap) nS nL DS DL D) := HU.out.at_below hB
      have hsa := settleAt_is HU1.out HN.out (rise keep) (rise_spec keep).1 (fun z hz => (HALL.out z (((rise_spec keep).2 z).1 hz)).1) a1 k1 cp1 hin1
      have HKR : Hid (kept (rise keep) D.pend = kept keep D.pend) := kept_congr (rise_spec keep).2 _
      clear hown hin1 hri hB
      go_wp2_with (go_at_call 37; refine hsa.mono ?_; rintro e w2 ⟨rfl, hp⟩; have HP : Hid (Part w1 d bs bl (.slice ao n cap) nS D (kept (rise keep) D.pend) w2) := hp; clear hp hsa)
      have hf := forget_is w2 d bs bl (.slice ao n cap) nL DL D (HP.out.keep.blk HU1.out.blk (fun e => HU1.out.d_bs e)) (HP.out.keep.owns HU1.out.last (fun e => HU1.out.ne e.symm)) HU1.out.d_bl
      refine hf.mono ?_
      rintro e w3 ⟨rfl, h1, h2, h3⟩
      obtain ⟨DS3, hD3, hK3⟩ := HP.out.emptied HU1.out (kept_length ..) (fun x hx => kept_sub hx) h1 h2 h3
      have HD3 : Hid (DkAt w3 d bs bl (.slice none 0 0) (nS + (kept (rise keep) D.pend).length) 0 DS3 (.map []) { D with sure := settled D.sure (kept (rise keep) D.pend), pend := [] }) := hD3
      have HK3 : Hid (Keep (fun k => k = d ∨ k = bl ∨ k = bs) w1 w3) := hK3
      have c5 := hD3.c5
      have c4 : (w3.setCell ⟨d, 5, none⟩ (.bool false)).cell? ⟨d, 4, none⟩ = some (.int .i64 (planI D.plan)) := by rw [World.cell?_setCell_other _ _ _ _ (by simp)]; exact hD3.c4
      have f5 := hD3.blk.free 5
      have f4 := hD3.blk.free 4
      clear hf h1 h2 h3 hD3 hK3
      go_wp2
      go_ret
      have hg := grown_tr (grown_setCell w3 d 5 (.bool false)) (grown_setCell (w3.setCell ⟨d, 5, none⟩ (.bool false)) d 4 (.int .i64 (-1)))
      have hr : D.restart keep = (0, { D with sure := settled D.sure (kept keep D.pend), pend := [], down := false, plan := none }) := by unfold Disk.restart; exact if_pos HALL.out
      rw [hr]
      refine ⟨rfl, .slice none 0 0, _, 0, DS3, .map [], HD3.out.cells ?_ hg (by rw [← HKR.out]) rfl (Nat.le_refl _) ?_, (fun g hg => by cases hg), ?_⟩
      · have := (HD3.out.blk.set 5 (.bool false)).set 4 (.int .i64 (-1))
        simpa [dc, planI] using this
      · have := HU.out.good.restart keep
        rw [hr] at this
        exact this
      · refine keep3 ?_
        refine ((Keep.below HB.out).trans HK3.out (fun j hj _ => hj)).trans (Keep.grown hg (S := fun k => k = d) rfl) (fun j hj _ => .inl hj)
    · have q1 : (t : Int) < (k : Int) := by omega
      obtain ⟨z, hz⟩ : ∃ z, keep[t]? = some z := ⟨_, List.getElem?_eq_getElem (by rw [HIN.out.1]; omega)⟩
      obtain ⟨b, off, rfl, hbl, hc⟩ := HIN.out.2.2 (by omega)
      have ct : w.cell? ⟨b, off + t, none⟩ = some (.int .i64 z) := hc t z hz
      have hw : IntKind.i64.wrap ((t : Int) + 1) = (t : Int) + 1 := wrapi (by omega) (by omega)
      have HZ : Hid (z ∈ keep) := List.mem_of_getElem? hz
      have HT : Hid (keep.take (t + 1) = keep.take t ++ [z]) := by show _ = _; rw [List.take_add_one, hz]; rfl
      have HLT : Hid (t < k) := by show _ < _; omega
      clear hc hbl hz
      by_cases hok : 0 ≤ z ∧ z < n
      · have o1 : ¬ z < 0 := by omega
        have o2 : ¬ (n : Int) ≤ z := by omega
        have HOK : Hid (0 ≤ z ∧ z < D.pend.length) := by rw [← HNL.out]; exact hok
        clear hok hlt ht qk
        go_wp2
        refine ⟨⟨t + 1, by simp, by have := HLT.out; omega, ?_, trivial⟩, by have := HLT.out; simp only [intOf]; omega⟩
        show ∀ p ∈ _, _
        rw [HT.out]
        intro p hp
        rcases List.mem_append.1 hp with hp | hp
        · exact hall.out p hp
        · have : p = z := by simpa using hp
          rw [this]; exact HOK.out
      · have HRR : Hid (D.restart keep = (2, D)) := by
          show _ = _
          unfold Disk.restart
          refine if_neg fun hc => hok ?_
          have := hc z HZ.out
          rw [← HNL.out] at this
          exact this
        by_cases o1 : z < 0
        · clear hok hlt ht qk
          go_wp2
          go_ret
          rw [HRR.out]
          exact ⟨rfl, Ch.same HU.out⟩
        · have o2 : (n : Int) ≤ z := by omega
          clear hok hlt ht qk
          go_wp2
          go_ret
          rw [HRR.out]
          exact ⟨rfl, Ch.same HU.out⟩
#print axioms restart_ch
#print axioms flush_ch
end Go.Proofs.Ytmhdldhplhffcaa.Oct
