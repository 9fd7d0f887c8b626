/-
  Layer 19 (audit): the reference's Fits.
-/
import Derived.Test.YtmmpafaegmejlaaDoorFis
namespace Go.Proofs.YtmmpafaegmejlaaDoor.Oct
open Go.RowKit Sha
set_option linter.unusedSimpArgs false
set_option linter.unusedVariables false

theorem nx_iff {l : List En} {x : En} : nxE l x.tick x.who x.what = (x, 0) ↔ (l.length < 4096 ∧ x.seq = (l.length : Int) + 1 ∧ x.prev = hdE l) ∧ (lastE l).tick ≤ x.tick ∧ x.tick ≤ 1099511627776 ∧ x.who.size ≤ 16 ∧ x.what.size ≤ 512 := by
  constructor
  · intro h
    have h2 : (nxE l x.tick x.who x.what).2 = 0 := by rw [h]
    have g := nxE_good h2
    have s := nxE_small h2
    have e := g.2.2
    rw [h] at e
    refine ⟨⟨g.2.1, congrArg En.seq e, congrArg En.prev e⟩, ?_, ?_, s.1, s.2⟩
    · unfold nxE at h
      split at h
      · exact absurd (congrArg Prod.snd h) (by show ¬ (2 : Int) = 0; decide)
      · omega
    · unfold nxE at h
      split at h
      · exact absurd (congrArg Prod.snd h) (by show ¬ (2 : Int) = 0; decide)
      · omega
  · rintro ⟨⟨a, b, c⟩, d, e, f, g⟩
    unfold nxE
    rw [if_neg (by omega), if_neg (by omega), ← b, ← c]
theorem rfalse {R : Bool} {p : Prop} (h : R = true ↔ p) (hn : ¬ p) : R = false := by
  cases R
  · rfl
  · exact absurd (h.1 rfl) hn
set_option maxRecDepth 100000 in
set_option maxHeartbeats 4000000 in
theorem refFits_is {w : World} {v : Value} {l : List En} (h : EsR w v l) (hl : l.length ≤ 1000000) (hz : ∀ e ∈ l, e.rz) (h0 : 0 ≤ (lastE l).tick) (x : En) (hx : x.ok) (R : Bool) (hR : R = true ↔ nxE l x.tick x.who x.what = (x, 0)) : Calls Tryd.prog 29 #[v, .agg x.cells.toArray] w fun e w' => e = .returned (.bool R) ∧ Below w.heap.size w w' := by
  rw [nx_iff] at hR
  have HE0 := h
  obtain ⟨hok, a, cap, rfl, hle, hcap, hr⟩ := h
  obtain ⟨n, hn⟩ : ∃ n, l.length = n := ⟨_, rfl⟩
  obtain ⟨b, hb⟩ : ∃ b, w.heap.size = b := ⟨_, rfl⟩
  obtain ⟨C, hC⟩ : ∃ C, x.cells = C := ⟨_, rfl⟩
  obtain ⟨A, hA⟩ : ∃ A, w.alloc (.cells C.toArray 37) = A := ⟨_, rfl⟩
  have hB : Below w.heap.size w A := by rw [← hA]; exact below_al _ _
  have hbA : Blk A b 37 C := by rw [← hA, ← hb]; exact Blk.new w _ _
  have qn : (n : Int) ≤ 1000000 := by omega
  have HL : Hid (b < A.heap.size) := hbA.lt
  have k0 : A.cell? ⟨b, 0, none⟩ = some (iv x.seq) := hbA.cell (by rw [← hC]; rfl)
  have k1 : A.cell? ⟨b, 1, none⟩ = some (iv x.tick) := hbA.cell (by rw [← hC]; rfl)
  have k2 : A.cell? ⟨b, 2, none⟩ = some (.string x.who) := hbA.cell (by rw [← hC]; rfl)
  have k3 : A.cell? ⟨b, 3, none⟩ = some (.string x.what) := hbA.cell (by rw [← hC]; rfl)
  have HRP : Hid (A.rangeAt b 4 (U x.prev)) := fun j u hj => hbA.cell (by rw [← hC]; show (x.cells)[4 + j]? = _; unfold En.cells; rw [← hj, Nat.add_comm 4 j]; rfl)
  have HPL : Hid (x.prev.length = 32) := hx.1
  obtain ⟨D, hD⟩ : ∃ D, hdE l = D := ⟨_, rfl⟩
  have hDl : D.length = 32 := by rw [← hD]; exact hdE_len l
  have HH : Hid (∀ V, Below A.heap.size A V → Calls Tryd.prog 17 #[.slice a n cap] V fun e V2 => e = .returned (.agg (U D).toArray) ∧ Below V.heap.size V V2) := fun V hV => by
    rw [← hn]
    exact refHead_is (HE0.below (below_tr hB hV)) hl hz D hD
  have hne := fun W => neHb x.prev D hx.1 hDl W
  obtain ⟨y, hy⟩ : ∃ y, lastE l = y := ⟨_, rfl⟩
  rw [hn, hD, hy] at hR
  rw [hy] at h0
  rw [hn, hC]
  rw [hn] at hr
  have HB : Hid (Below w.heap.size w A) := hB
  have HR : Hid (R = true ↔ (n < 4096 ∧ x.seq = (n : Int) + 1 ∧ x.prev = D) ∧ y.tick ≤ x.tick ∧ x.tick ≤ 1099511627776 ∧ x.who.size ≤ 16 ∧ x.what.size ≤ 512) := hR
  have HY : Hid (0 ≤ y.tick ∧ lastE l = y ∧ l.length = n) := ⟨h0, hy, hn⟩
  have HRR : Hid (0 < n → ∃ b off, a = some ⟨b, off, none⟩ ∧ b < w.heap.size ∧ ∀ i e, l[i]? = some e → w.rangeAt b (off + i * 36) e.cells) := hr
  clear hok hle hcap hr hn hbA hC hB hx hD HE0 hl hz hy h0 hR
  go_enter Tryd.func29, Tryd.ntmps29
  go_wp2_with fail
  by_cases h1 : 4096 ≤ (n : Int)
  · have HF : Hid (R = false) := rfalse HR.out (fun hc => by have := hc.1.1; omega)
    refine fa1 (D := D) HL k0 k1 HRP HPL qn h1 ?_
    intro V hV
    have HV : Hid (Below w.heap.size w V) := below_tr HB.out hV
    clear hV
    go_wp2
    go_ret
    exact ⟨by rw [HF.out]; rfl, HV.out⟩
  have h1' : (n : Int) < 4096 := by omega
  clear h1
  by_cases h2 : x.seq = (n : Int) + 1
  rotate_left
  · have HF : Hid (R = false) := rfalse HR.out (fun hc => h2 hc.1.2.1)
    refine fb1 (D := D) HL k0 k1 HRP HPL qn h1' (by simpa using h2) ?_
    intro V hV
    have HV : Hid (Below w.heap.size w V) := below_tr HB.out hV
    clear hV
    go_wp2
    go_ret
    exact ⟨by rw [HF.out]; rfl, HV.out⟩
  have h2' : (x.seq != (n : Int) + 1) = false := by simpa using h2
  by_cases h3 : x.prev = D
  rotate_left
  · have HF : Hid (R = false) := rfalse HR.out (fun hc => h3 hc.1.2.2)
    refine fc1 HL k0 k1 HRP HPL qn h1' h2' HH (fun W => by rw [hne W, decide_eq_false h3]; rfl) ?_
    intro V hV
    have HV : Hid (Below w.heap.size w V) := below_tr HB.out hV
    clear hV
    go_wp2
    go_ret
    exact ⟨by rw [HF.out]; rfl, HV.out⟩
  have HN : Hid (∀ W, (binOp .neq 35 (.agg (U x.prev).toArray) (.agg (U D).toArray)).run Tryd.prog W = .ok (.bool false) W) := fun W => by rw [hne W, decide_eq_true h3]; rfl
  clear hne
  by_cases h4 : x.tick < 0
  · have HF : Hid (R = false) := rfalse HR.out (fun hc => by have := hc.2.1; have := HY.out.1; omega)
    refine fd1 HL k0 k1 HRP HPL qn h1' h2' HH HN h4 ?_
    intro V hV
    have HV : Hid (Below w.heap.size w V) := below_tr HB.out hV
    clear hV
    go_wp2
    go_ret
    exact ⟨by rw [HF.out]; rfl, HV.out⟩
  have h4' : 0 ≤ x.tick := by omega
  clear h4
  by_cases h5 : 1099511627776 < x.tick
  · have HF : Hid (R = false) := rfalse HR.out (fun hc => by have := hc.2.2.1; omega)
    refine fe1 HL k0 k1 HRP HPL qn h1' h2' HH HN h4' h5 ?_
    intro V hV
    have HV : Hid (Below w.heap.size w V) := below_tr HB.out hV
    clear hV
    go_wp2
    go_ret
    exact ⟨by rw [HF.out]; rfl, HV.out⟩
  have h5' : x.tick ≤ 1099511627776 := by omega
  clear h5
  refine ff1 HL k0 k1 HRP HPL qn h1' h2' HH HN h4' h5' ?_
  intro V hV
  have HV : Hid (Below w.heap.size w V) := below_tr HB.out hV
  have HL2 : Hid (b < V.heap.size) := Nat.lt_of_lt_of_le HL.out hV.size
  have j1 : V.cell? ⟨b, 1, none⟩ = some (iv x.tick) := (hV.cell (p := ⟨b, 1, none⟩) HL.out).trans k1
  have j2 : V.cell? ⟨b, 2, none⟩ = some (.string x.who) := (hV.cell (p := ⟨b, 2, none⟩) HL.out).trans k2
  have j3 : V.cell? ⟨b, 3, none⟩ = some (.string x.what) := (hV.cell (p := ⟨b, 3, none⟩) HL.out).trans k3
  have HG : Hid (n < 4096 ∧ x.seq = (n : Int) + 1 ∧ x.prev = D) := ⟨by omega, h2, h3⟩
  clear hV k0 k1 k2 k3 HN HH h2 h3 hb hA
  go_wp2_with fail
  by_cases h6 : 16 < (x.who.size : Int)
  · have HF : Hid (R = false) := rfalse HR.out (fun hc => by have := hc.2.2.2.1; omega)
    refine ga3 HL2 j1 j2 j3 qn h6 ?_
    intro V2 hV2
    have HV2 : Hid (Below w.heap.size w V2) := below_tr HV.out hV2
    clear hV2
    go_wp2
    go_ret
    exact ⟨by rw [HF.out]; rfl, HV2.out⟩
  have h6' : (x.who.size : Int) ≤ 16 := by omega
  clear h6
  by_cases h7 : 512 < (x.what.size : Int)
  · have HF : Hid (R = false) := rfalse HR.out (fun hc => by have := hc.2.2.2.2; omega)
    refine gb3 HL2 j1 j2 j3 qn h6' h7 ?_
    intro V2 hV2
    have HV2 : Hid (Below w.heap.size w V2) := below_tr HV.out hV2
    clear hV2
    go_wp2
    go_ret
    exact ⟨by rw [HF.out]; rfl, HV2.out⟩
  have h7' : (x.what.size : Int) ≤ 512 := by omega
  clear h7
  by_cases h8 : n = 0
  · have e : y.tick = 0 := by rw [← HY.out.2.1, List.length_eq_zero_iff.1 (HY.out.2.2.trans h8)]; rfl
    have HF : Hid (R = true) := HR.out.2 ⟨HG.out, by omega, h5', by omega, by omega⟩
    refine gc3 HL2 j1 j2 j3 qn h6' h7' (by simpa using h8) ?_
    intro V2 hV2
    have HV2 : Hid (Below w.heap.size w V2) := below_tr HV.out hV2
    clear hV2
    go_wp2
    go_ret
    exact ⟨by rw [HF.out]; rfl, HV2.out⟩
  obtain ⟨s, off, rfl, hs1, hs2⟩ := HRR.out (by omega)
  have hlast := lastE_at HY.out.2.2 (by omega)
  rw [HY.out.2.1] at hlast
  obtain ⟨m, hm⟩ : ∃ m, n - 1 = m := ⟨_, rfl⟩
  rw [hm] at hlast
  have HS : Hid (s < V.heap.size) := Nat.lt_of_lt_of_le hs1 HV.out.size
  have kl : V.cell? ⟨s, off + m * 36 + 1, none⟩ = some (iv y.tick) := (HV.out.cell (p := ⟨s, off + m * 36 + 1, none⟩) hs1).trans (hs2 m y hlast 1 (iv y.tick) rfl)
  have qm : (n : Int) - 1 = (m : Int) := by omega
  have qm1 : (m : Int) < (n : Int) := by omega
  have qm2 : m < n := by omega
  have q2 : ((n : Int) == 0) = false := by simpa using fun h => h8 (by omega)
  clear hs1 hs2 hlast hm h8
  by_cases h9 : x.tick < y.tick
  · have HF : Hid (R = false) := rfalse HR.out (fun hc => by have := hc.2.1; omega)
    refine ge3 HL2 j1 j2 j3 qn h6' h7' q2 HS kl qm qm1 qm2 h9 ?_
    intro V2 hV2
    have HV2 : Hid (Below w.heap.size w V2) := below_tr HV.out hV2
    clear hV2
    go_wp2
    go_ret
    exact ⟨by rw [HF.out]; rfl, HV2.out⟩
  have HF : Hid (R = true) := HR.out.2 ⟨HG.out, by omega, h5', by omega, by omega⟩
  refine gd3 HL2 j1 j2 j3 qn h6' h7' q2 HS kl qm qm1 qm2 (by omega) ?_
  intro V2 hV2
  have HV2 : Hid (Below w.heap.size w V2) := below_tr HV.out hV2
  clear hV2
  go_wp2
  go_ret
  exact ⟨by rw [HF.out]; rfl, HV2.out⟩
#print axioms refFits_is
end Go.Proofs.YtmmpafaegmejlaaDoor.Oct
