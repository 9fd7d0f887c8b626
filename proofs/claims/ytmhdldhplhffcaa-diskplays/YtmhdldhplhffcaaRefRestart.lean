/-
  Layer 5 (disk): the reference: has, Restart.
-/
import Derived.Test.YtmhdldhplhffcaaRefKeepReg
namespace Go.Proofs.Ytmhdldhplhffcaa.Oct
open Go.RowKit Go.Lib

theorem RAt.below {w w' : World} {r : Nat} {sv pv : Value} {D : Disk} (h : RAt w r sv pv D) (hb : Below w.heap.size w w') : RAt w' r sv pv D :=
  ⟨h.blk.below hb h.blk.lt, own_below h.sure hb, own_below h.pend hb, h.good, h.room⟩

set_option maxRecDepth 100000 in
theorem rhas_is (w : World) (a : Option Addr) (k c : Nat) (keep : List Int) (t : Int) (hin : InI w a k c keep) (hk : k ≤ 17592186044416) (B : Bool) (hB : B = true ↔ t ∈ keep) :
    Calls Try.prog 47 #[.slice a k c, .int .i64 t] w fun e w' => e = .returned (.bool B) ∧ w = w' := by
  have HI : Hid (InI w a k c keep) := hin
  have HB : Hid (B = true ↔ t ∈ keep) := hB
  have q0 : (k : Int) ≤ 17592186044416 := by omega
  clear hin hB
  go_enter Try.func47, Try.ntmps47
  go_wp2
  go_loop [5] (fun u => ∃ j : Nat, u = .int .i64 (j : Int) ∧ j ≤ k ∧ Hid (∀ q z, q < j → keep[q]? = some z → z ≠ t)) (fun u => k - (intOf u).toNat)
  case atStart => exact ⟨0, rfl, Nat.zero_le _, fun q z hq => absurd hq (by omega)⟩
  case round =>
    obtain ⟨j, rfl, hj, HJ⟩ := hrel
    by_cases hlt : j < k
    · obtain ⟨z, hz⟩ : ∃ z, keep[j]? = some z := ⟨_, List.getElem?_eq_getElem (by rw [HI.out.1]; exact hlt)⟩
      obtain ⟨b, off, rfl, hb, hcell⟩ := HI.out.2.2 (by omega)
      have c1 := hcell j z hz
      have HZ : Hid (keep[j]? = some z ∧ j < k) := ⟨hz, hlt⟩
      have q1 : (j : Int) < (k : Int) := by omega
      clear hcell hz hlt hj
      by_cases he : z = t
      · have q2 : (z == t) = true := by simpa using he
        have HE : Hid (t ∈ keep) := by rw [← he]; exact List.mem_of_getElem? HZ.out.1
        have HBV : Hid (B = true) := HB.out.2 HE.out
        clear he
        go_wp2
        go_ret
        exact ⟨by rw [HBV.out]; rfl, rfl⟩
      · have q2 : (z == t) = false := by simpa using he
        have HE : Hid (z ≠ t) := he
        clear he
        go_wp2
        go_round
        case rel =>
          refine ⟨j + 1, by simp, HZ.out.2, fun q y hq hy => ?_⟩
          by_cases e : q = j
          · subst e; rw [HZ.out.1] at hy; cases hy; exact HE.out
          · exact HJ.out q y (by omega) hy
        case measure => have := HZ.out.2; simp [intOf]; omega
    · have q1 : ¬ (j : Int) < (k : Int) := by omega
      have hn : t ∉ keep := fun hm => by
        obtain ⟨q, hq⟩ := List.getElem?_of_mem hm
        have hl := (List.getElem?_eq_some_iff.1 hq).1
        rw [HI.out.1] at hl
        exact HJ.out q t (by omega) hq rfl
      have HBV : Hid (B = false) := by
        cases B with
        | false => exact rfl
        | true => exact absurd (HB.out.1 rfl) hn
      clear hlt hn
      go_wp2
      go_ret
      exact ⟨by rw [HBV.out]; rfl, rfl⟩
#print axioms rhas_is

theorem RAt.over {w : World} {r : Nat} {sv : Value} {D : Disk} (h : RAt w r sv (.slice none 0 0) { D with pend := [] }) :
    RAt (((w.setCell ⟨r, 2, none⟩ (.bool false)).setCell ⟨r, 3, none⟩ (.bool false)).setCell ⟨r, 4, none⟩ (.int .i64 0)) r sv (.slice none 0 0) { D with pend := [], down := false, plan := none } := by
  have hg := grown_tr (grown_tr (grown_setCell w r 2 (.bool false)) (grown_setCell (w.setCell ⟨r, 2, none⟩ (.bool false)) r 3 (.bool false))) (grown_setCell ((w.setCell ⟨r, 2, none⟩ (.bool false)).setCell ⟨r, 3, none⟩ (.bool false)) r 4 (.int .i64 0))
  refine h.cells (D' := { D with pend := [], down := false, plan := none }) ?_ hg rfl rfl rfl (Nat.le_refl _) ⟨h.good.1, h.good.2.1, h.good.2.2.1, fun x hx => by simp at hx, fun k hk => by simp at hk⟩
  have := ((h.blk.set 2 (.bool false)).set 3 (.bool false)).set 4 (.int .i64 0)
  simpa [rc] using this

set_option maxRecDepth 100000 in
set_option maxHeartbeats 2000000 in
theorem rrestart_is {w : World} {r : Nat} {sv pv : Value} {D : Disk} (h : RAt w r sv pv D) (hn : D.ops < 1000000000) (ka : Option Addr) (k kc : Nat) (keep : List Int) (hin : InI w ka k kc keep) (hk : k ≤ 17592186044416) (hne : 0 < k → ∀ b off, ka = some ⟨b, off, none⟩ → b ≠ r ∧ sv.ownBlock ≠ some b) :
    Calls Try.prog 35 #[.pointer (some ⟨r, 0, none⟩), .slice ka k kc] w fun e w' => e = .returned (.int .i64 (D.restart keep).1) ∧ RCh w r sv pv (D.restart keep).2 w' := by
  obtain ⟨g, c, rfl, _, _, _⟩ := h.sureAt
  obtain ⟨a, cp, rfl, _, _⟩ := h.pendAt
  obtain ⟨m, hm⟩ : ∃ m, D.pend.length = m := ⟨_, rfl⟩
  obtain ⟨n, hnn⟩ : ∃ n, D.n = n := ⟨_, rfl⟩
  rw [hm, hnn] at h ⊢
  have HMN : Hid (D.pend.length = m ∧ D.n = n ∧ m < 1000000000) := ⟨hm, hnn, by have := h.room; omega⟩
  have HNE : Hid (0 < k → ∀ b off, ka = some ⟨b, off, none⟩ → b ≠ r ∧ b ≠ g) := fun hp b off e => ⟨(hne hp b off e).1, fun e2 => (hne hp b off e).2 (by rw [e2]; rfl)⟩
  clear hm hnn hne
  have HU : Hid (RAt w r (.slice (some ⟨g, 0, none⟩) n c) (.slice a m cp) D) := h
  have HI : Hid (InI w ka k kc keep ∧ k ≤ 17592186044416) := ⟨hin, hk⟩
  have qk : (k : Int) ≤ 17592186044416 := by omega
  have qm : (m : Int) < 1000000000 := by have := HMN.out.2.2; omega
  clear h hin hk
  go_enter Try.func35, Try.ntmps35
  go_wp2
  go_loopw [5] (fun u wr => ∃ j : Nat, u = .int .i64 (j : Int) ∧ Hid (j ≤ k ∧ Below w.heap.size w wr ∧ ∀ q z, q < j → keep[q]? = some z → 0 ≤ z ∧ z < (m : Int))) (fun u _ => k - (intOf u).toNat)
  case atStart => exact ⟨0, rfl, ⟨Nat.zero_le _, Below.refl _ _, fun q z hq => absurd hq (by omega)⟩⟩
  case round =>
    obtain ⟨j, rfl, HJ⟩ := hrel
    by_cases hlt : j < k
    · obtain ⟨z, hz⟩ : ∃ z, keep[j]? = some z := ⟨_, List.getElem?_eq_getElem (by rw [HI.out.1.1]; exact hlt)⟩
      obtain ⟨b, off, rfl, hb, hcell⟩ := (HI.out.1.below HJ.out.2.1).2.2 (by omega)
      have HK : Hid (wr.cell? ⟨b, off + j, none⟩ = some (.int .i64 z) ∧ b < wr.heap.size) := ⟨hcell j z hz, hb⟩
      have HZ : Hid (keep[j]? = some z ∧ j < k) := ⟨hz, hlt⟩
      have HR : Hid (wr.cell? ⟨r, 1, none⟩ = some (.slice a m cp) ∧ r < wr.heap.size) := ⟨(HU.out.below HJ.out.2.1).c1, (HU.out.below HJ.out.2.1).blk.lt⟩
      have q1 : (j : Int) < (k : Int) := by omega
      clear hcell hz hlt hb
      by_cases h0 : z < 0
      · have HEQ : Hid (D.restart keep = (2, D)) := by
          show D.restart keep = (2, D)
          unfold Disk.restart
          rw [if_neg (fun h => by have := (h z (List.mem_of_getElem? HZ.out.1)).1; omega)]
        have HF : Hid (RCh w r (.slice (some ⟨g, 0, none⟩) n c) (.slice a m cp) D wr.drew) := ⟨_, HU.out.below (HJ.out.2.1.drew), Keep.below HJ.out.2.1.drew, fun _ hg => .inl hg⟩
        go_wp2
        refine keep_region_n q1 HK h0 ?_
        go_wp2
        go_ret
        rw [HEQ.out]
        exact ⟨rfl, HF.out⟩
      · by_cases hzm : (m : Int) ≤ z
        · have HEQ : Hid (D.restart keep = (2, D)) := by
            show D.restart keep = (2, D)
            unfold Disk.restart
            rw [if_neg (fun h => by have := (h z (List.mem_of_getElem? HZ.out.1)).2; have := HMN.out.1; omega)]
          have HF : Hid (RCh w r (.slice (some ⟨g, 0, none⟩) n c) (.slice a m cp) D wr.drew) := ⟨_, HU.out.below (HJ.out.2.1.drew), Keep.below HJ.out.2.1.drew, fun _ hg => .inl hg⟩
          go_wp2
          refine keep_region_p (B := true) q1 HK (by omega) (by simpa using hzm) HR ?_
          go_wp2
          go_ret
          rw [HEQ.out]
          exact ⟨rfl, HF.out⟩
        · have HZM : Hid (0 ≤ z ∧ z < (m : Int)) := ⟨by omega, by omega⟩
          go_wp2
          refine keep_region_p (B := false) q1 HK (by omega) (by simpa using hzm) HR ?_
          go_wp2
          refine ⟨⟨j + 1, by simp, ⟨HZ.out.2, HJ.out.2.1.drew, fun q y hq hy => ?_⟩⟩, ?_⟩
          · by_cases e : q = j
            · subst e; rw [HZ.out.1] at hy; cases hy; exact HZM.out
            · exact HJ.out.2.2 q y (by omega) hy
          · have := HZ.out.2; simp [intOf]; omega
    · have q1 : ¬ (j : Int) < (k : Int) := by omega
      have HEQ : Hid (D.restart keep = (0, { D with sure := settled D.sure (kept keep D.pend), pend := [], down := false, plan := none })) := by
        show D.restart keep = _
        unfold Disk.restart
        rw [if_pos (fun z hz => by
          obtain ⟨q, hq⟩ := List.getElem?_of_mem hz
          have hl := (List.getElem?_eq_some_iff.1 hq).1
          rw [HI.out.1.1] at hl
          have := HJ.out.2.2 q z (by omega) hq
          have := HMN.out.1
          omega)]
      clear hlt
      go_wp2
      obtain ⟨W1, hW1⟩ : ∃ W1, W1 = wr := ⟨_, rfl⟩
      subst hW1
      go_loopw [6] (fun u wr => ∃ t : Nat, u = .int .i64 (t : Int) ∧ Hid (t ≤ m ∧ RAt wr r (.slice (some ⟨g, 0, none⟩) n c) (.slice a m cp) { D with sure := settled D.sure (kept keep (D.pend.take t)) } ∧ Keep (fun k => k = g) W1 wr)) (fun u _ => m - (intOf u).toNat)
      case atStart => exact ⟨0, rfl, ⟨Nat.zero_le _, HU.out.below HJ.out.2.1, Keep.refl _ _⟩⟩
      case round =>
        obtain ⟨t, rfl, HT⟩ := hrel
        have c1 := HT.out.2.1.c1
        have HIN : Hid (InI wr ka k kc keep) := by
          refine ⟨HI.out.1.1, HI.out.1.2.1, fun hp => ?_⟩
          obtain ⟨b, off, e, hb, hc⟩ := (HI.out.1.below HJ.out.2.1).2.2 hp
          have hbn := (HNE.out hp b off e).2
          exact ⟨b, off, e, Nat.lt_of_lt_of_le hb HT.out.2.2.size, fun i z hz => by
            rw [← hc i z hz]
            simp only [World.cell?, HT.out.2.2.block b hb hbn]⟩
        by_cases htm : t < m
        · obtain ⟨x, hx⟩ : ∃ x, D.pend[t]? = some x := ⟨_, List.getElem?_eq_getElem (by rw [HMN.out.1]; exact htm)⟩
          have HXX : Hid (t < m ∧ D.pend[t]? = some x) := ⟨htm, hx⟩
          have q2 : (t : Int) < (m : Int) := by omega
          have e2 : D.pend.take (t + 1) = D.pend.take t ++ [x] := by rw [List.take_add_one, hx]; rfl
          have hlen : (D.pend.take t).length = t := by rw [List.length_take, HMN.out.1]; omega
          obtain ⟨B, hB⟩ : ∃ B : Bool, B = true ↔ (t : Int) ∈ keep := ⟨decide ((t : Int) ∈ keep), decide_eq_true_iff⟩
          have H47 : Hid (Calls Try.prog 47 #[.slice ka k kc, .int .i64 (t : Int)] wr fun e w' => e = .returned (.bool B) ∧ wr = w') := rhas_is wr ka k kc keep (t : Int) HIN.out HI.out.2 B hB
          cases B with
          | false =>
            have HE : Hid (kept keep (D.pend.take (t + 1)) = kept keep (D.pend.take t)) := by
              rw [e2]
              exact kept_snoc_out (by rw [hlen]; exact fun h => by have := hB.2 h; cases this)
            clear hB hx e2 hlen htm
            go_wp2_with fail
            refine H47.out.mono ?_
            rintro e w2 ⟨rfl, rfl⟩
            go_wp2
            refine ⟨⟨t + 1, by simp, ⟨HXX.out.1, ?_, HT.out.2.2⟩⟩, ?_⟩
            · rw [HE.out]; exact HT.out.2.1
            · have := HXX.out.1; simp [intOf]; omega
          | true =>
            have HE : Hid (settled D.sure (kept keep (D.pend.take (t + 1))) = put (settled D.sure (kept keep (D.pend.take t))) x) := by
              rw [e2, kept_snoc_in (by rw [hlen]; exact hB.1 rfl)]
              exact settled_snoc _ _ _
            obtain ⟨a', cp', e1, _, hpd⟩ := HT.out.2.1.pendAt
            have hml : ({ D with sure := settled D.sure (kept keep (D.pend.take t)) } : Disk).pend.length = m := HMN.out.1
            rw [hml] at e1 hpd
            cases e1
            obtain ⟨gp, rfl, hgp, hcell⟩ := hpd (by omega)
            have HX : Hid (x.1 < n ∧ x.2.length = 256) := ⟨by have := (HU.out.good.2.2.2.1 x (List.mem_of_getElem? hx)).1; rw [← HMN.out.2.1]; exact this, (HU.out.good.2.2.2.1 x (List.mem_of_getElem? hx)).2⟩
            have hcx := hcell t x hx
            have HS : Hid (wr.cell? ⟨r, 0, none⟩ = some (.slice (some ⟨g, 0, none⟩) n c) ∧ wr.cell? ⟨r, 1, none⟩ = some (.slice (some ⟨gp, 0, none⟩) m cp) ∧ wr.cell? ⟨gp, t * 2, none⟩ = some (.int .i64 (x.1 : Int)) ∧ wr.cell? ⟨gp, t * 2 + 1, none⟩ = some (.string (strOf x.2))) := ⟨HT.out.2.1.c0, c1, hcx.1, hcx.2⟩
            have hsr : wr.ownsRow 0 9 1 (.slice (some ⟨g, 0, none⟩) n c) n (strs (settled D.sure (kept keep (D.pend.take t))) n) := by
              have := HT.out.2.1.sure
              rw [show ({ D with sure := settled D.sure (kept keep (D.pend.take t)) } : Disk).n = n from HMN.out.2.1] at this
              exact this
            have HC : Hid (wr.cell? ⟨g, x.1, none⟩ = some (.string (strOf (settled D.sure (kept keep (D.pend.take t)) x.1))) ∧ wr.frozen? ⟨g, x.1, none⟩ = false) := by
              refine ⟨?_, own_free hsr⟩
              rw [World.ownsRow.cellAt hsr x.1 (by have := HX.out.1; omega), strs_get _ _ _ HX.out.1]
            have HNE2 : Hid (r ≠ g ∧ gp ≠ g) := by
              refine ⟨fun e => ?_, fun e => ?_⟩
              · exact blk_row_ne HT.out.2.1.blk HT.out.2.1.sure (by omega) (by rw [e]; rfl)
              · exact rows_ne HT.out.2.1.sure HT.out.2.1.pend (by omega) (show (Value.slice (some (⟨g, 0, none⟩ : Addr)) n c).ownBlock = some g from rfl) (by rw [e]; rfl)
            have HN : Hid (RAt (wr.drew.setCell ⟨g, x.1, none⟩ (.string (strOf x.2))) r (.slice (some ⟨g, 0, none⟩) n c) (.slice (some ⟨gp, 0, none⟩) m cp) { D with sure := settled D.sure (kept keep (D.pend.take (t + 1))) } ∧ Keep (fun k => k = g) W1 (wr.drew.setCell ⟨g, x.1, none⟩ (.string (strOf x.2)))) := by
              have h1 := HT.out.2.1.settle HMN.out.2.1 HX.out.2
              rw [HE.out]
              exact ⟨h1.1, HT.out.2.2.trans h1.2 (fun j hj _ => hj)⟩
            have q3 : (x.1 : Int) < (n : Int) := by have := HX.out.1; omega
            clear hcell hcx hx htm hsr hml hpd hgp hB e2 hlen
            go_wp2_with fail
            refine H47.out.mono ?_
            rintro e w2 ⟨rfl, rfl⟩
            go_wp2
            refine settle_region_r q2 q3 HNE2.out.1 HNE2.out.2 HS HC ?_
            go_wp2
            refine ⟨⟨t + 1, by simp, ⟨HXX.out.1, HN.out.1, HN.out.2⟩⟩, ?_⟩
            have := HXX.out.1; simp [intOf]; omega
        · have q2 : ¬ (t : Int) < (m : Int) := by omega
          have f1 := HT.out.2.1.blk.free 1
          have HFG : Hid (RAt (wr.setCell ⟨r, 1, none⟩ (.slice none 0 0)) r (.slice (some ⟨g, 0, none⟩) n c) (.slice none 0 0) { D with sure := settled D.sure (kept keep D.pend), pend := [] }) := by
            have h1 := HT.out.2.1.forget
            rw [List.take_of_length_le (by have := HMN.out.1; omega)] at h1
            exact h1
          have d2 := HFG.out.c2
          have f2 := HFG.out.blk.free 2
          have hb3 := HFG.out.blk.set 2 (.bool false)
          have d3 : ((wr.setCell ⟨r, 1, none⟩ (.slice none 0 0)).setCell ⟨r, 2, none⟩ (.bool false)).cell? ⟨r, 3, none⟩ = some (.bool D.plan.isSome) := hb3.cell rfl
          have f3 := hb3.free 3
          have hb4 := hb3.set 3 (.bool false)
          have d4 : (((wr.setCell ⟨r, 1, none⟩ (.slice none 0 0)).setCell ⟨r, 2, none⟩ (.bool false)).setCell ⟨r, 3, none⟩ (.bool false)).cell? ⟨r, 4, none⟩ = some (.int .i64 ((D.plan.getD 0 : Nat) : Int)) := hb4.cell rfl
          have f4 := hb4.free 4
          have HF : Hid (RCh w r (.slice (some ⟨g, 0, none⟩) n c) (.slice a m cp) { D with sure := settled D.sure (kept keep D.pend), pend := [], down := false, plan := none } ((((wr.setCell ⟨r, 1, none⟩ (.slice none 0 0)).setCell ⟨r, 2, none⟩ (.bool false)).setCell ⟨r, 3, none⟩ (.bool false)).setCell ⟨r, 4, none⟩ (.int .i64 0))) := by
            have hg := grown_tr (grown_tr (grown_tr (grown_setCell wr r 1 (.slice none 0 0)) (grown_setCell (wr.setCell ⟨r, 1, none⟩ (.slice none 0 0)) r 2 (.bool false))) (grown_setCell ((wr.setCell ⟨r, 1, none⟩ (.slice none 0 0)).setCell ⟨r, 2, none⟩ (.bool false)) r 3 (.bool false))) (grown_setCell (((wr.setCell ⟨r, 1, none⟩ (.slice none 0 0)).setCell ⟨r, 2, none⟩ (.bool false)).setCell ⟨r, 3, none⟩ (.bool false)) r 4 (.int .i64 0))
            refine ⟨.slice none 0 0, RAt.over (D := { D with sure := settled D.sure (kept keep D.pend) }) HFG.out, ?_, fun g' hg' => by cases hg'⟩
            exact ((Keep.below HJ.out.2.1).trans (HT.out.2.2.mono (T := fun k => k = r ∨ (Value.slice (some (⟨g, 0, none⟩ : Addr)) n c).ownBlock = some k ∨ (Value.slice a m cp).ownBlock = some k) (fun j _ hj => .inr (.inl (by rw [hj]; rfl)))) (fun j hj _ => hj)).trans (Keep.grown (S := fun k => k = r ∨ (Value.slice (some (⟨g, 0, none⟩ : Addr)) n c).ownBlock = some k ∨ (Value.slice a m cp).ownBlock = some k) hg (.inl rfl)) (fun j hj _ => hj)
          clear htm hb3 hb4
          go_wp2
          go_ret
          rw [HEQ.out]
          exact ⟨rfl, HF.out⟩
#print axioms rrestart_is
end Go.Proofs.Ytmhdldhplhffcaa.Oct
