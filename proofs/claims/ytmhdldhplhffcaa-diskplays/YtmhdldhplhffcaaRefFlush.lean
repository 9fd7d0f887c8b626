/-
  Layer 5 (disk): the reference: Flush, has, Restart.
-/
import Derived.Test.YtmhdldhplhffcaaRefSetReg
namespace Go.Proofs.Ytmhdldhplhffcaa.Oct
open Go.RowKit Go.Lib

/-- a cell of a row of the call's own is another one -/
theorem own_set {w : World} {B e g n c k : Nat} {xs : List Value} {v : Value} (h : w.ownsRow B e 1 (.slice (some ⟨g, 0, none⟩) n c) n xs) : (w.setCell ⟨g, k, none⟩ v).ownsRow B e 1 (.slice (some ⟨g, 0, none⟩) n c) n (xs.set k v) := by
  rcases h.2 with ⟨q, _⟩ | ⟨g', cap, cur, q, h1, h2, h3, h4, h5, h6⟩
  · cases q
  · cases q
    have hb : Blk w g e cur.toList := by unfold Blk; simpa using h2
    have hb2 := hb.set k v
    refine ⟨by rw [List.length_set]; exact h.1, .inr ⟨g, c, (cur.toList.set k v).toArray, rfl, h1, hb2, h3, h4, by simpa using h5, ?_⟩⟩
    rw [← h6]
    simp [List.take_set]
theorem own_free {w : World} {B e g n c k : Nat} {xs : List Value} (h : w.ownsRow B e 1 (.slice (some ⟨g, 0, none⟩) n c) n xs) : w.frozen? ⟨g, k, none⟩ = false := by
  rcases h.2 with ⟨q, _⟩ | ⟨g', cap, cur, q, h1, h2, h3, h4, h5, h6⟩
  · cases q
  · cases q
    have hb : Blk w g e cur.toList := by unfold Blk; simpa using h2
    exact hb.free k
section
variable {w : World} {r : Nat} {sv pv : Value} {D : Disk}
theorem RAt.settle {g n c : Nat} (h : RAt w r (.slice (some ⟨g, 0, none⟩) n c) pv D) (hn : D.n = n) {x : Nat × List UInt8} (hl : x.2.length = 256) : RAt (w.drew.setCell ⟨g, x.1, none⟩ (.string (strOf x.2))) r (.slice (some ⟨g, 0, none⟩) n c) pv { D with sure := put D.sure x } ∧ Keep (fun k => k = g) w (w.drew.setCell ⟨g, x.1, none⟩ (.string (strOf x.2))) := by
  have hk : Keep (fun k => k = g) w.drew (w.drew.setCell ⟨g, x.1, none⟩ (.string (strOf x.2))) := Keep.grown (grown_setCell w.drew g x.1 _) rfl
  have hs : w.ownsRow 0 9 1 (.slice (some ⟨g, 0, none⟩) n c) n (strs D.sure n) := by have := h.sure; rw [hn] at this; exact this
  refine ⟨⟨?_, ?_, ?_, ⟨h.good.1, h.good.2.1, put_length h.good.2.2.1 hl, h.good.2.2.2⟩, h.room⟩, ⟨hk.os, hk.tape, hk.output, hk.size, hk.block⟩⟩
  · exact hk.blk (w := w.drew) h.blk (fun e => blk_row_ne h.blk h.sure (by omega) (by rw [e]; rfl))
  · show World.ownsRow _ _ _ _ _ D.n (strs (put D.sure x) D.n)
    rw [hn, ← strs_put]
    exact own_set (w := w.drew) hs
  · exact row_kept (w := w.drew) hk h.pend (fun g' e1 e2 => by subst e2; exact rows_ne hs h.pend (by omega) rfl e1)
/-- the pending writes are forgotten -/
theorem RAt.forget (h : RAt w r sv pv D) : RAt (w.setCell ⟨r, 1, none⟩ (.slice none 0 0)) r sv (.slice none 0 0) { D with pend := [] } := by
  have hk : Keep (fun k => k = r) w (w.setCell ⟨r, 1, none⟩ (.slice none 0 0)) := Keep.grown (grown_setCell w r 1 _) rfl
  refine ⟨?_, ?_, ⟨rfl, .inl ⟨rfl, rfl⟩⟩, ⟨h.good.1, h.good.2.1, h.good.2.2.1, fun x hx => by simp at hx, h.good.2.2.2.2⟩, by simp⟩
  · have := h.blk.set 1 (.slice none 0 0)
    simpa [rc] using this
  · exact row_kept hk h.sure (fun g hg e => by subst e; exact blk_row_ne h.blk h.sure (by omega) hg)
end

set_option maxRecDepth 100000 in
set_option maxHeartbeats 1000000 in
theorem rflush_is {w : World} {r : Nat} {sv pv : Value} {D : Disk} (h : RAt w r sv pv D) (hn : D.ops < 1000000000) :
    Calls Try.prog 33 #[.pointer (some ⟨r, 0, none⟩)] w fun e w' => e = .returned (.int .i64 D.flush.1) ∧ RCh w r sv pv D.flush.2 w' := by
  obtain ⟨g, c, rfl, _, _, _⟩ := h.sureAt
  obtain ⟨a, cp, rfl, _, _⟩ := h.pendAt
  obtain ⟨m, hm⟩ : ∃ m, D.pend.length = m := ⟨_, rfl⟩
  obtain ⟨n, hnn⟩ : ∃ n, D.n = n := ⟨_, rfl⟩
  rw [hm, hnn] at h ⊢
  have HMN : Hid (D.pend.length = m ∧ D.n = n ∧ m < 1000000000) := ⟨hm, hnn, by have := h.room; omega⟩
  clear hm hnn
  have HU : Hid (RAt w r (.slice (some ⟨g, 0, none⟩) n c) (.slice a m cp) D) := h
  have c2 := h.c2
  clear h
  by_cases hd : D.down = true
  · rw [hd] at c2
    have e : D.flush = (50, D) := by simp [Disk.flush, hd]
    rw [e]
    clear e
    go_enter Try.func33, Try.ntmps33
    go_wp2
    go_ret
    exact ⟨rfl, RCh.same HU.out⟩
  · have hd' : D.down = false := by simpa using hd
    rw [hd'] at c2
    cases ho : D.out with
    | true =>
      have e : D.flush = (50, D.off) := by simp only [Disk.flush, hd', Bool.false_eq_true, if_false, ho, if_true]
      rw [e]
      clear e
      have HD' : Hid (Calls Try.prog 46 #[.pointer (some ⟨r, 0, none⟩)] w fun e w' => e = .returned (.bool false) ∧ RAt w' r (.slice (some ⟨g, 0, none⟩) n c) (.slice a m cp) D.off ∧ w.grownBy w' (some r)) := rdoes_out HU.out ho
      clear ho
      go_enter Try.func33, Try.ntmps33
      go_wp2_with fail
      refine HD'.out.mono ?_
      rintro e w1 ⟨rfl, hA, hg⟩
      have HA : Hid (RCh w r (.slice (some ⟨g, 0, none⟩) n c) (.slice a m cp) D.off w1) := RCh.cells hA hg
      clear hA hg
      go_wp2
      go_ret
      exact ⟨rfl, HA.out⟩
    | false =>
      have e : D.flush = (0, { D.spent with sure := settled D.sure D.pend, pend := [] }) := by simp only [Disk.flush, hd', Bool.false_eq_true, if_false, ho]
      rw [e]
      clear e
      have HD' : Hid (Calls Try.prog 46 #[.pointer (some ⟨r, 0, none⟩)] w fun e w' => e = .returned (.bool true) ∧ RAt w' r (.slice (some ⟨g, 0, none⟩) n c) (.slice a m cp) D.spent ∧ w.grownBy w' (some r)) := rdoes_on HU.out (by omega) ho
      clear ho
      go_enter Try.func33, Try.ntmps33
      go_wp2_with fail
      refine HD'.out.mono ?_
      rintro e w1 ⟨rfl, hA, hg⟩
      have HA : Hid (RAt w1 r (.slice (some ⟨g, 0, none⟩) n c) (.slice a m cp) D.spent ∧ w.grownBy w1 (some r)) := ⟨hA, hg⟩
      clear hA hg HU HD'
      have qm : (m : Int) < 1000000000 := by have := HMN.out.2.2; omega
      go_wp2
      go_loopw [3] (fun u wr => ∃ t : Nat, u = .int .i64 (t : Int) ∧ Hid (t ≤ m ∧ RAt wr r (.slice (some ⟨g, 0, none⟩) n c) (.slice a m cp) { D.spent with sure := settled D.sure (D.pend.take t) } ∧ Keep (fun k => k = g) w1 wr)) (fun u _ => m - (intOf u).toNat)
      case atStart => exact ⟨0, rfl, ⟨Nat.zero_le _, HA.out.1, Keep.refl _ _⟩⟩
      case round =>
        obtain ⟨t, rfl, HJ⟩ := hrel
        have c1 := HJ.out.2.1.c1
        by_cases ht : t < m
        · obtain ⟨x, hx⟩ : ∃ x, D.pend[t]? = some x := ⟨_, List.getElem?_eq_getElem (by rw [HMN.out.1]; exact ht)⟩
          obtain ⟨a', cp', e1, _, hpd⟩ := HJ.out.2.1.pendAt
          have hml : ({ D.spent with sure := settled D.sure (D.pend.take t) } : Disk).pend.length = m := HMN.out.1
          rw [hml] at e1 hpd
          cases e1
          obtain ⟨gp, rfl, hgp, hcell⟩ := hpd (by omega)
          have HX : Hid (t < m ∧ D.pend[t]? = some x ∧ x.1 < n ∧ x.2.length = 256) := ⟨ht, hx, by have := (HA.out.1.good.2.2.2.1 x (List.mem_of_getElem? hx)).1; rw [← HMN.out.2.1]; exact this, (HA.out.1.good.2.2.2.1 x (List.mem_of_getElem? hx)).2⟩
          have hcx := hcell t x hx
          have HS : Hid (wr.cell? ⟨r, 0, none⟩ = some (.slice (some ⟨g, 0, none⟩) n c) ∧ wr.cell? ⟨r, 1, none⟩ = some (.slice (some ⟨gp, 0, none⟩) m cp) ∧ wr.cell? ⟨gp, t * 2, none⟩ = some (.int .i64 (x.1 : Int)) ∧ wr.cell? ⟨gp, t * 2 + 1, none⟩ = some (.string (strOf x.2))) := ⟨HJ.out.2.1.c0, c1, hcx.1, hcx.2⟩
          have hsr : wr.ownsRow 0 9 1 (.slice (some ⟨g, 0, none⟩) n c) n (strs (settled D.sure (D.pend.take t)) n) := by
            have := HJ.out.2.1.sure
            rw [show ({ D.spent with sure := settled D.sure (D.pend.take t) } : Disk).n = n from HMN.out.2.1] at this
            exact this
          have HC : Hid (wr.cell? ⟨g, x.1, none⟩ = some (.string (strOf (settled D.sure (D.pend.take t) x.1))) ∧ wr.frozen? ⟨g, x.1, none⟩ = false) := by
            refine ⟨?_, own_free hsr⟩
            rw [World.ownsRow.cellAt hsr x.1 (by have := HX.out.2.2.1; omega), strs_get _ _ _ HX.out.2.2.1]
          have HNE : Hid (r ≠ g ∧ gp ≠ g) := by
            refine ⟨fun e => ?_, fun e => ?_⟩
            · exact blk_row_ne HJ.out.2.1.blk HJ.out.2.1.sure (by omega) (by rw [e]; rfl)
            · exact rows_ne HJ.out.2.1.sure HJ.out.2.1.pend (by omega) (show (Value.slice (some (⟨g, 0, none⟩ : Addr)) n c).ownBlock = some g from rfl) (by rw [e]; rfl)
          have HN : Hid (RAt (wr.drew.setCell ⟨g, x.1, none⟩ (.string (strOf x.2))) r (.slice (some ⟨g, 0, none⟩) n c) (.slice (some ⟨gp, 0, none⟩) m cp) { D.spent with sure := settled D.sure (D.pend.take (t + 1)) } ∧ Keep (fun k => k = g) w1 (wr.drew.setCell ⟨g, x.1, none⟩ (.string (strOf x.2)))) := by
            have h1 := HJ.out.2.1.settle HMN.out.2.1 HX.out.2.2.2
            have e : settled D.sure (D.pend.take (t + 1)) = put (settled D.sure (D.pend.take t)) x := by rw [List.take_add_one, HX.out.2.1]; exact settled_snoc _ _ _
            rw [e]
            exact ⟨h1.1, HJ.out.2.2.trans h1.2 (fun j hj _ => hj)⟩
          have q1 : (t : Int) < (m : Int) := by omega
          have q2 : (x.1 : Int) < (n : Int) := by have := HX.out.2.2.1; omega
          clear hcell hcx hx ht hsr hml hpd hgp
          go_wp2
          refine settle_region_f q1 q2 HNE.out.1 HNE.out.2 HS HC ?_
          go_wp2
          refine ⟨⟨t + 1, by simp, ⟨HX.out.1, HN.out.1, HN.out.2⟩⟩, ?_⟩
          have := HX.out.1; simp [intOf]; omega
        · have q1 : ¬ (t : Int) < (m : Int) := by omega
          have f1 := HJ.out.2.1.blk.free 1
          have HF : Hid (RCh w r (.slice (some ⟨g, 0, none⟩) n c) (.slice a m cp) { D.spent with sure := settled D.sure D.pend, pend := [] } (wr.setCell ⟨r, 1, none⟩ (.slice none 0 0))) := by
            have h1 := HJ.out.2.1.forget
            rw [List.take_of_length_le (by have := HMN.out.1; omega)] at h1
            refine ⟨.slice none 0 0, h1, ?_, fun g' hg' => by cases hg'⟩
            exact ((Keep.grown HA.out.2 (.inl rfl)).trans (HJ.out.2.2.mono (T := fun k => k = r ∨ (Value.slice (some (⟨g, 0, none⟩ : Addr)) n c).ownBlock = some k ∨ (Value.slice a m cp).ownBlock = some k) (fun j _ hj => .inr (.inl (by rw [hj]; rfl)))) (fun j hj _ => hj)).trans (Keep.grown (S := fun k => k = r ∨ (Value.slice (some (⟨g, 0, none⟩ : Addr)) n c).ownBlock = some k ∨ (Value.slice a m cp).ownBlock = some k) (grown_setCell wr r 1 _) (.inl rfl)) (fun j hj _ => hj)
          clear ht
          go_wp2
          go_ret
          exact ⟨rfl, HF.out⟩
#print axioms rflush_is
end Go.Proofs.Ytmhdldhplhffcaa.Oct
