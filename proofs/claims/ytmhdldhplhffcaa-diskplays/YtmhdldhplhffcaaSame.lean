/-
  Layer 5 (disk): same.
-/
import Derived.Test.YtmhdldhplhffcaaSameReg
namespace Go.Proofs.Ytmhdldhplhffcaa.Oct
open Go.RowKit Go.Lib

/-- cells that are bytes -/
def Byts (C : List Value) : Prop := C.length = 256 ∧ ∀ v ∈ C, ∃ z : Int, v = .int .u8 z
theorem Byts.U {l : List UInt8} (h : l.length = 256) : Byts (U l) := ⟨by rw [U_length, h], fun v hv => by
  obtain ⟨c, _, rfl⟩ := List.mem_map.1 hv
  exact ⟨_, rfl⟩⟩
theorem Byts.set {C : List Value} (h : Byts C) (k : Nat) (z : Int) : Byts (C.set k (.int .u8 z)) := ⟨by rw [List.length_set]; exact h.1, fun v hv => by
  rcases List.mem_or_eq_of_mem_set hv with h1 | h1
  · exact h.2 v h1
  · exact ⟨z, h1⟩⟩
theorem pendv {w : World} {B m : Nat} {v : Value} {l : List (Nat × List UInt8)} (h : w.ownsRow B 3 1 v m (ats l)) (hl : l.length = m) : ∃ a c, v = .slice a m c ∧ (0 < m → ∃ g, a = some ⟨g, 0, none⟩ ∧ g < w.heap.size ∧ ∀ i x, l[i]? = some x → w.cell? ⟨g, i, none⟩ = some (.int .i64 (x.1 : Int))) := by
  rcases h.2 with ⟨rfl, e⟩ | ⟨g, cap, cur, rfl, _, hb, h1, _, h2, h3⟩
  · exact ⟨none, 0, by rw [e], fun hp => absurd hp (by omega)⟩
  · refine ⟨_, cap, rfl, fun _ => ⟨g, rfl, lt_of_block hb, fun i x hx => ?_⟩⟩
    have hlt := (List.getElem?_eq_some_iff.1 hx).1
    rw [World.ownsRow.cellAt h i (by omega)]
    simp [ats, hx]

set_option maxRecDepth 100000 in
set_option maxHeartbeats 2000000 in
theorem same_is {w : World} {S R : Nat → Prop} {d r : Nat} {D : Disk} (hD : Dk w S d D) (hR : RDk w R r D) (hn : D.ops < 1000000000) :
    Calls Try.prog 11 #[.pointer (some ⟨d, 0, none⟩), .pointer (some ⟨r, 0, none⟩)] w fun e w' => e = .returned (.bool true) ∧ Below w.heap.size w w' := by
  obtain ⟨sv, pv, hA, _⟩ := hR
  obtain ⟨bs, bl, qv, nS, nL, DS, DL, hAt, _⟩ := id hD
  obtain ⟨g, c, rfl, _, _, _⟩ := hA.sureAt
  obtain ⟨a, cp, rfl, _, _⟩ := hA.pendAt
  have HD : Hid (Dk w S d D) := hD
  have HA : Hid (RAt w r (.slice (some ⟨g, 0, none⟩) D.n c) (.slice a D.pend.length cp) D) := hA
  have H20 : Hid (Calls Try.prog 20 #[.pointer (some ⟨d, 0, none⟩)] w fun e w' => ∃ v, e = .returned v ∧ w'.ownsRow w.heap.size 3 1 v D.pend.length (ats D.pend) ∧ Below w.heap.size w w') := pending_is hAt (by omega)
  have HLM : Hid (D.pend.length < 1000000000 ∧ D.n ≤ 4096) := ⟨by have := hA.room; omega, hA.good.2.1⟩
  clear hD hA hAt
  go_enter Try.func11, Try.ntmps11
  go_wp2_with fail
  refine H20.out.mono ?_
  rintro e w1 ⟨v5, rfl, ho5, hb1⟩
  obtain ⟨a5, c5, rfl, hp5⟩ := pendv ho5 rfl
  have HP5 : Hid (0 < D.pend.length → ∃ g, a5 = some ⟨g, 0, none⟩ ∧ g < w1.heap.size ∧ ∀ i x, D.pend[i]? = some x → w1.cell? ⟨g, i, none⟩ = some (.int .i64 (x.1 : Int))) := hp5
  have HB1 : Hid (Below w.heap.size w w1) := hb1
  obtain ⟨bs', bl', qv', nS', nL', DS', DL', hAt', _⟩ := HD.out.below hb1
  have H17 : Hid (Calls Try.prog 17 #[.pointer (some ⟨d, 0, none⟩)] w1 fun e w' => ∃ v, e = .returned v ∧ SV w' w1.heap.size v (suresTo D D.n) ∧ Below w1.heap.size w1 w') := sure_is hAt'
  clear ho5 hp5 hb1 hAt'
  go_wp2_with fail
  refine H17.out.mono ?_
  rintro e w2 ⟨v6, rfl, hsv, hb2⟩
  obtain ⟨gs, k1, k2, k3, k4⟩ := hsv
  rw [suresTo_length] at k1 k2
  obtain ⟨g6, c6, hv6, hg6⟩ : ∃ g6 c6, v6 = .slice (some ⟨g6, 0, none⟩) D.n c6 ∧ g6 < w2.heap.size := by
    rcases k1.2 with ⟨_, e⟩ | ⟨g', cap', cur, e, _, hb, _⟩
    · have := HA.out.good.1; omega
    · exact ⟨g', cap', e, lt_of_block hb⟩
  subst hv6
  have HB2 : Hid (Below w.heap.size w w2 ∧ Below w1.heap.size w1 w2) := ⟨HB1.out.trans (hb2.mono HB1.out.size), hb2⟩
  have HG : Hid (w2.ownsRow w1.heap.size 30 1 (.slice (some ⟨g6, 0, none⟩) D.n c6) D.n (gs.map fun g => Value.slice (some ⟨g, 0, none⟩) 256 256) ∧ gs.length = D.n ∧ gs.Nodup ∧ (∀ (i g : Nat), gs[i]? = some g → w1.heap.size ≤ g ∧ Blk w2 g 72 (U (D.sure i))) ∧ g6 < w2.heap.size ∧ w1.heap.size ≤ g6) := by
    refine ⟨k1, k2, k3, fun i g' hg' => ?_, hg6, (k1.lt g6 rfl).1⟩
    have hi := (List.getElem?_eq_some_iff.1 hg').1
    have := k4 i g' (D.sure i) hg' (by rw [show suresTo D D.n = (List.range D.n).map D.sure from rfl, List.getElem?_map, List.getElem?_range (by omega)]; rfl)
    exact ⟨this.1, this.2.1⟩
  clear k1 k2 k3 k4 hb2 hg6
  go_wp2
  refine same_region (D := D) (HD.out.below HB2.out.1) (HA.out.below HB2.out.1) ?_
  intro V hV
  have HV : Hid (Below w2.heap.size w2 V) := hV
  clear hV
  obtain ⟨m, hm⟩ : ∃ m, D.pend.length = m := ⟨_, rfl⟩
  obtain ⟨n, hnn⟩ : ∃ n, D.n = n := ⟨_, rfl⟩
  rw [hm] at HP5 HLM HA ⊢
  rw [hnn] at HG HA HLM ⊢
  have HMN : Hid (D.pend.length = m ∧ D.n = n) := ⟨hm, hnn⟩
  clear hm hnn H17 H20
  have qm : (m : Int) < 1000000000 := by have := HLM.out; omega
  have qn : (n : Int) ≤ 4096 := by have := HLM.out; omega
  go_wp2
  go_loopw [62] (fun u wr => ∃ i : Nat, u = .int .i64 (i : Int) ∧ Hid (i ≤ m ∧ Below w2.heap.size w2 wr)) (fun u _ => m - (intOf u).toNat)
  case atStart => exact ⟨0, rfl, ⟨Nat.zero_le _, HV.out⟩⟩
  case round =>
    obtain ⟨i, rfl, HJ⟩ := hrel
    have HAr : Hid (RAt wr r (.slice (some ⟨g, 0, none⟩) n c) (.slice a m cp) D) := (HA.out.below HB2.out.1).below HJ.out.2
    by_cases hin : i < m
    · have q1 : (i : Int) < (m : Int) := by omega
      have HIN : Hid (i < m) := hin
      obtain ⟨x, hx⟩ : ∃ x, D.pend[i]? = some x := ⟨_, List.getElem?_eq_getElem (by rw [HMN.out.1]; exact hin)⟩
      obtain ⟨g5, rfl, hg5, hc5⟩ := HP5.out (by omega)
      obtain ⟨a', cp', e1, _, hpd⟩ := HAr.out.pendAt
      rw [HMN.out.1] at e1 hpd
      cases e1
      obtain ⟨gp, rfl, hgp, hcell⟩ := hpd (by omega)
      have hb : Below w1.heap.size w1 wr := HB2.out.2.trans (HJ.out.2.mono HB2.out.2.size)
      have HC : Hid (wr.cell? ⟨g5, i, none⟩ = some (.int .i64 (x.1 : Int)) ∧ wr.cell? ⟨r, 1, none⟩ = some (.slice (some ⟨gp, 0, none⟩) m cp) ∧ wr.cell? ⟨gp, i * 2, none⟩ = some (.int .i64 (x.1 : Int))) := ⟨(hb.cell (p := ⟨g5, _, none⟩) hg5).trans (hc5 i x hx), HAr.out.c1, (hcell i x hx).1⟩
      have HL : Hid (g5 < wr.heap.size ∧ r < wr.heap.size ∧ gp < wr.heap.size) := ⟨Nat.lt_of_lt_of_le hg5 hb.size, HAr.out.blk.lt, hgp⟩
      clear hx hc5 hcell hpd hgp hg5 hb hin
      go_wp2
      refine same_region7 q1 HC HL ?_
      go_wp2
      refine ⟨⟨i + 1, by simp, ⟨HIN.out, HJ.out.2.drew⟩⟩, ?_⟩
      have := HIN.out; simp [intOf]; omega
    · have q1 : ¬ (i : Int) < (m : Int) := by omega
      clear hin
      go_wp2
      obtain ⟨W3, hW3⟩ : ∃ W3, W3 = wr := ⟨_, rfl⟩
      subst hW3
      go_loopw [81] (fun u wr => ∃ t : Nat, u = .int .i64 (t : Int) ∧ Hid (t ≤ n ∧ Below w1.heap.size w1 wr ∧ wr.ownsRow w1.heap.size 30 1 (.slice (some ⟨g6, 0, none⟩) n c6) n (gs.map fun g => Value.slice (some ⟨g, 0, none⟩) 256 256) ∧ ∀ (i g : Nat), t ≤ i → gs[i]? = some g → Blk wr g 72 (U (D.sure i)))) (fun u _ => n - (intOf u).toNat)
      case atStart => exact ⟨0, rfl, ⟨Nat.zero_le _, HB2.out.2.trans (HJ.out.2.mono HB2.out.2.size), own_below HG.out.1 HJ.out.2, fun i g' _ hg' => (HG.out.2.2.2.1 i g' hg').2.below HJ.out.2 (HG.out.2.2.2.1 i g' hg').2.lt⟩⟩
      case round =>
        obtain ⟨t, rfl, HT⟩ := hrel
        have HAt : Hid (RAt wr r (.slice (some ⟨g, 0, none⟩) n c) (.slice a m cp) D) := (HA.out.below HB1.out).below HT.out.2.1
        by_cases htn : t < n
        · have q2 : (t : Int) < (n : Int) := by omega
          have HTN : Hid (t < n) := htn
          obtain ⟨gi, hgi⟩ : ∃ gi, gs[t]? = some gi := ⟨_, List.getElem?_eq_getElem (by rw [HG.out.2.1]; exact htn)⟩
          have HGI : Hid (gs[t]? = some gi ∧ w1.heap.size ≤ gi ∧ (D.sure t).length = 256) := ⟨hgi, (HG.out.2.2.2.1 t gi hgi).1, HA.out.good.2.2.1 t⟩
          have HBL : Hid (Blk wr gi 72 (U (D.sure t))) := HT.out.2.2.2 t gi (Nat.le_refl _) hgi
          obtain ⟨g', c', e1, _, hgl, hsc⟩ := HAt.out.sureAt
          rw [HMN.out.2] at e1 hsc
          cases e1
          have c6c : wr.cell? ⟨g6, t, none⟩ = some (.slice (some ⟨gi, 0, none⟩) 256 256) := by
            rw [World.ownsRow.cellAt HT.out.2.2.1 t (by omega)]
            simp [hgi]
          have HC : Hid (wr.cell? ⟨g6, t, none⟩ = some (.slice (some ⟨gi, 0, none⟩) 256 256) ∧ wr.cell? ⟨r, 0, none⟩ = some (.slice (some ⟨g, 0, none⟩) n c) ∧ wr.cell? ⟨g, t, none⟩ = some (.string (strOf (D.sure t)))) := ⟨c6c, HAt.out.c0, hsc t htn⟩
          have HL : Hid (g6 < wr.heap.size ∧ r < wr.heap.size ∧ g < wr.heap.size) := ⟨(HT.out.2.2.1.lt g6 rfl).2, HAt.out.blk.lt, hgl⟩
          have c6d : wr.drew.cell? ⟨g6, t, none⟩ = some (.slice (some ⟨gi, 0, none⟩) 256 256) := c6c
          clear hgi htn hsc hgl c6c
          go_wp2
          refine same_region13 q2 HGI.out.2.2 HBL HC HL ?_
          go_wp2
          obtain ⟨W4, hW4⟩ : ∃ W4, W4 = wr := ⟨_, rfl⟩
          subst hW4
          clear c6d
          go_loopw [102] (fun u wr => ∃ k : Nat, u = .int .i64 (k : Int) ∧ Hid (k ≤ 256 ∧ Keep (fun q => q = gi) W4 wr ∧ ∃ C, Byts C ∧ Blk wr gi 72 C)) (fun u _ => 256 - (intOf u).toNat)
          case atStart => exact ⟨0, rfl, ⟨Nat.zero_le _, ⟨rfl, rfl, rfl, Nat.le_refl _, fun _ _ _ => rfl⟩, _, Byts.U HGI.out.2.2, HBL.out⟩⟩
          case round =>
            obtain ⟨k, rfl, HK⟩ := hrel
            have hne : g6 ≠ gi := by
              intro e
              obtain ⟨cur, hc⟩ := row_type HT.out.2.2.1 (g := g6) rfl
              have := HBL.out
              unfold Blk at this
              rw [← e, hc] at this
              simp at this
            have HO6 : Hid (wr.ownsRow w1.heap.size 30 1 (.slice (some ⟨g6, 0, none⟩) n c6) n (gs.map fun g => Value.slice (some ⟨g, 0, none⟩) 256 256)) := row_kept HK.out.2.1 HT.out.2.2.1 (fun g' e1 e2 => by
              have h9 : g6 = g' := by simpa [Value.ownBlock] using e1
              omega)
            have d6 : wr.cell? ⟨g6, t, none⟩ = some (.slice (some ⟨gi, 0, none⟩) 256 256) := by
              rw [World.ownsRow.cellAt HO6.out t (by have := HTN.out; omega)]
              simp [HGI.out.1]
            obtain ⟨C, hC, hbC⟩ := HK.out.2.2
            by_cases hk : k < 256
            · have q3 : (k : Int) < 256 := by omega
              have HKK : Hid (k < 256) := hk
              obtain ⟨v, hv⟩ : ∃ v, C[k]? = some v := ⟨_, List.getElem?_eq_getElem (by rw [hC.1]; exact hk)⟩
              obtain ⟨z, rfl⟩ := hC.2 v (List.mem_of_getElem? hv)
              have c1 : wr.cell? ⟨gi, k, none⟩ = some (.int .u8 z) := hbC.cell hv
              have f1 := hbC.free k
              have HN : Hid (∀ z', Keep (fun q => q = gi) W4 (wr.setCell ⟨gi, k, none⟩ (.int .u8 z')) ∧ ∃ C, Byts C ∧ Blk (wr.setCell ⟨gi, k, none⟩ (.int .u8 z')) gi 72 C) := fun z' => ⟨HK.out.2.1.trans (Keep.grown (S := fun q => q = gi) (grown_setCell wr gi k _) rfl) (fun j hj _ => hj), _, hC.set k z', hbC.set k _⟩
              clear hk hv hC hbC hne
              go_wp2
              refine ⟨⟨k + 1, by simp, ⟨HKK.out, HN.out _⟩⟩, ?_⟩
              have := HKK.out; simp [intOf]; omega
            · have q3 : ¬ (k : Int) < 256 := by omega
              have HF : Hid (Below w1.heap.size w1 wr ∧ ∀ (i g : Nat), t + 1 ≤ i → gs[i]? = some g → Blk wr g 72 (U (D.sure i))) := by
                refine ⟨?_, fun i g' hi hg' => ?_⟩
                · have h1 := HK.out.2.1.toBelow (B := w1.heap.size) HT.out.2.1.size (fun j hj => by rw [hj]; exact HGI.out.2.1)
                  exact HT.out.2.1.trans h1
                · refine HK.out.2.1.blk (HT.out.2.2.2 i g' (by omega) hg') (fun e => ?_)
                  have h1 := HGI.out.1
                  rw [← e] at h1
                  have hi' := (List.getElem?_eq_some_iff.1 hg').1
                  have ht' := (List.getElem?_eq_some_iff.1 h1).1
                  have := List.pairwise_iff_getElem.1 (List.nodup_iff_pairwise_ne.1 HG.out.2.2.1) t i ht' hi' (by omega)
                  exact this ((List.getElem?_eq_some_iff.1 h1).2.trans (List.getElem?_eq_some_iff.1 hg').2.symm)
              clear hk hC hbC hne d6
              go_wp2
              refine ⟨⟨t + 1, by simp, ⟨HTN.out, HF.out.1, HO6.out, HF.out.2⟩⟩, ?_⟩
              have := HTN.out; simp [intOf]; omega
        · have q2 : ¬ (t : Int) < (n : Int) := by omega
          clear htn
          go_wp2
          go_ret
          exact ⟨rfl, HB1.out.trans (HT.out.2.1.mono HB1.out.size)⟩
#print axioms same_is
end Go.Proofs.Ytmhdldhplhffcaa.Oct
