/-
  Layer 17 (acl): the reference's 'Covers'.
-/
import Derived.Test.YtngkajeghmogmaaRefSplit
import Derived.Test.YtngkajeghmogmaaOrder
import Derived.BigQuiet
namespace Go.Proofs.Ytngkajeghmogmaa.Oct
open Go.RowKit

theorem below_drew {n : Nat} {A B : World} (h : Below n A B) : Below n A B.drew := ⟨h.os, h.tape, h.output, h.size, h.block⟩
theorem mkS_inj {a b : List UInt8} (h : mkS a = mkS b) : a = b := by rw [← mkS_data a, h, mkS_data]
theorem map_mkS_inj {a b : List (List UInt8)} (h : a.map mkS = b.map mkS) : a = b := by
  induction a generalizing b with
  | nil => cases b with
    | nil => rfl
    | cons _ _ => simp at h
  | cons x a ih => cases b with
    | nil => simp at h
    | cons y b =>
      simp only [List.map_cons, List.cons.injEq] at h
      rw [mkS_inj h.1, ih h.2]
theorem pcs_prefix (p s : ByteArray) : split p.data.toList <+: split s.data.toList ↔ (pcs p).take (pcs p).length = (pcs s).take (pcs p).length := by
  rw [List.take_length, List.prefix_iff_eq_take]
  simp only [pcs, List.length_map, ← List.map_take]
  constructor
  · intro h; rw [← h]
  · intro h; exact map_mkS_inj h
theorem path_below {p s : ByteArray} (hs : isPath s.data.toList = true) (h : split p.data.toList <+: split s.data.toList) : isPath p.data.toList = true := by
  have hl : p.data.toList.length ≤ s.data.toList.length := by
    obtain ⟨k, hk⟩ : ∃ k, (split p.data.toList).length = k + 1 := by
      cases hs : split p.data.toList with
      | nil => exact absurd hs (split_ne _)
      | cons q r => exact ⟨r.length, by simp⟩
    have he : split p.data.toList = (split s.data.toList).take (k + 1) := by
      rw [← hk]; exact (List.prefix_iff_eq_take.1 h)
    have hpe : p.data.toList = headOf s.data.toList (k + 1) := by rw [headOf, ← he, join_split]
    rw [hpe]
    exact headOf_le _ k (by have := h.length_le; omega)
  simp only [isPath, Bool.and_eq_true, decide_eq_true_eq, List.all_eq_true] at hs ⊢
  exact ⟨⟨by omega, by have := h.length_le; omega⟩, fun x hx => hs.2 x (h.subset hx)⟩
theorem cov_bad {p s : ByteArray} (hp : isPath p.data.toList = false) (hne : p.data.toList ≠ []) : cov p s = false := by
  cases h : cov p s with
  | false => rfl
  | true =>
    obtain ⟨h1, h2⟩ := (cov_iff _ _).1 h
    rcases h2 with h2 | h2
    · exact absurd h2 hne
    · rw [path_below h1 h2] at hp; cases hp
theorem cov_nopath {p s : ByteArray} (hp : isPath s.data.toList = false) : cov p s = false := by
  cases h : cov p s with
  | false => rfl
  | true => rw [cov_path h] at hp; cases hp
theorem cov_yes {p s : ByteArray} (hs : isPath s.data.toList = true) (h : (pcs p).take (pcs p).length = (pcs s).take (pcs p).length) : cov p s = true :=
  (cov_iff _ _).2 ⟨hs, .inr ((pcs_prefix _ _).2 h)⟩
theorem cov_no {p s : ByteArray} (hne : p.data.toList ≠ []) (h : ¬ (pcs p).take (pcs p).length = (pcs s).take (pcs p).length) : cov p s = false := by
  cases hc : cov p s with
  | false => rfl
  | true =>
    obtain ⟨h1, h2⟩ := (cov_iff _ _).1 hc
    rcases h2 with h2 | h2
    · exact absurd h2 hne
    · exact absurd ((pcs_prefix _ _).1 h2) h
theorem pcs_few (s : ByteArray) (h : isPath s.data.toList = true) : (pcs s).length ≤ 8 ∧ s.size ≤ 64 := by
  simp only [isPath, Bool.and_eq_true, decide_eq_true_eq] at h
  rw [pcs_len, size_list]
  exact ⟨h.1.2, h.1.1⟩

set_option maxRecDepth 100000 in
set_option maxHeartbeats 2000000 in
theorem refCovers_is (p s : ByteArray) (w : World) (hp : p.size ≤ 140737488355328) (hn : s.size ≤ 140737488355328) : Calls Try.prog 29 #[.string p, .string s] w fun e w' => e = .returned (.bool (cov p s)) ∧ Below w.heap.size w w' := by
  have HNP : Hid (p.size ≤ 140737488355328) := hp
  have HNS : Hid (s.size ≤ 140737488355328) := hn
  have HB0 : Hid (Below w.heap.size w w) := Below.refl _ _
  clear hp hn
  cases hps : isPath s.data.toList with
  | false =>
    have HPS : Hid (isPath s.data.toList = false) := hps
    rw [cov_nopath hps]
    clear hps
    go_enter Try.func29, Try.ntmps29
    go_wp2_with (go_at_call 27; refine (refPath_b s false HPS.out _ HNS.out).mono ?_; rintro e w1 ⟨rfl, hB1⟩; have HB1 : Hid (Below w.heap.size w w1) := hB1; clear hB1)
    go_ret
    exact ⟨rfl, HB1.out⟩
  | true =>
    have HPS : Hid (isPath s.data.toList = true) := hps
    clear hps
    by_cases hne : p.data.toList = []
    · have hcv : cov p s = true := (cov_iff _ _).2 ⟨HPS.out, .inl hne⟩
      have f1 : (p.toList == ([] : List UInt8)) = true := by rw [toList_is, hne]; rfl
      have f2 : p.toList = [] := by simpa using f1
      rw [hcv]
      clear hcv hne
      go_enter Try.func29, Try.ntmps29
      go_wp2_with (go_at_call 27; refine (refPath_b s true HPS.out _ HNS.out).mono ?_; rintro e w1 ⟨rfl, hB1⟩; have HB1 : Hid (Below w.heap.size w w1) := hB1; clear hB1)
      go_ret
      exact ⟨rfl, HB1.out⟩
    · have HNE : Hid (p.data.toList ≠ []) := hne
      have f1 : (p.toList == ([] : List UInt8)) = false := by rw [toList_is]; simpa using hne
      have f2 : p.toList.isEmpty = false := by simpa using f1
      clear hne
      cases hpp : isPath p.data.toList with
      | false =>
        have HPP : Hid (isPath p.data.toList = false) := hpp
        rw [cov_bad hpp HNE.out]
        clear hpp
        go_enter Try.func29, Try.ntmps29
        go_wp2_with fail
        refine (refPath_b s true HPS.out _ HNS.out).mono ?_
        rintro e w1 ⟨rfl, hB1⟩
        have HB1 : Hid (Below w.heap.size w w1) := hB1
        clear hB1
        go_wp2_with fail
        refine (refPath_b p false HPP.out _ HNP.out).mono ?_
        rintro e w2 ⟨rfl, hB2⟩
        have HB2 : Hid (Below w.heap.size w w2) := HB1.out.trans (hB2.mono HB1.out.size)
        clear hB2
        go_wp2_with fail
        go_ret
        exact ⟨rfl, HB2.out⟩
      | true =>
        have HPP : Hid (isPath p.data.toList = true) := hpp
        obtain ⟨hf1, hz1⟩ := pcs_few p hpp
        obtain ⟨hf2, hz2⟩ := pcs_few s HPS.out
        obtain ⟨A, hA⟩ : ∃ A, (pcs p).length = A := ⟨_, rfl⟩
        obtain ⟨B, hB⟩ : ∃ B, (pcs s).length = B := ⟨_, rfl⟩
        have HA : Hid ((pcs p).length = A) := hA
        have HBB : Hid ((pcs s).length = B) := hB
        rw [hA] at hf1
        rw [hB] at hf2
        have r1 : (A : Int) ≤ 8 := by omega
        have r2 : (B : Int) ≤ 8 := by omega
        have HZ1 : Hid (p.size ≤ 100000) := by show p.size ≤ 100000; omega
        have HZ2 : Hid (s.size ≤ 100000) := by show s.size ≤ 100000; omega
        have mixed : Try.prog.follows .mixedOrders = true := by kernel_rfl
        clear hpp hz1 hz2
        go_enter Try.func29, Try.ntmps29
        go_wp2_with fail
        refine (refPath_b s true HPS.out _ HNS.out).mono ?_
        rintro e w1 ⟨rfl, hB1⟩
        have HB1 : Hid (Below w.heap.size w w1) := hB1
        clear hB1
        go_wp2_with fail
        refine (refPath_b p true HPP.out _ HNP.out).mono ?_
        rintro e w2 ⟨rfl, hB2⟩
        have HB2 : Hid (Below w.heap.size w w2) := HB1.out.trans (hB2.mono HB1.out.size)
        clear hB2
        go_wp2_with fail
        refine (refSplit_in p _ HZ1.out).mono ?_
        rintro e w3 ⟨g1, c1, rfl, HS1, HB3'⟩
        have HB3 : Hid (Below w.heap.size w w3) := HB2.out.trans (HB3'.out.mono HB2.out.size)
        clear HB3'
        rw [hA]
        rw [hA] at HS1
        go_wp2_with fail
        refine (refSplit_in s _ HZ2.out).mono ?_
        rintro e w4 ⟨g2, c2, rfl, HS2, HB4'⟩
        have HB4 : Hid (Below w.heap.size w w4) := HB3.out.trans (HB4'.out.mono HB3.out.size)
        have HS3 : Hid (Strs w4 (some ⟨g1, 0, none⟩) A (pcs p)) := HS1.out.below HB4'.out
        rw [hB]
        rw [hB] at HS2
        clear HB4' HS1 hA hB
        go_wp2_with fail
        go_loopw [7] (fun i wr => ∃ t : Nat, i = .int .i64 (t : Int) ∧ t ≤ A ∧ Hid ((pcs p).take t = (pcs s).take t) ∧ Hid (Below w4.heap.size w4 wr)) (fun i _ => A - (intOf i).toNat)
        case atStart => exact ⟨0, rfl, by omega, rfl, Below.refl _ _⟩
        case round =>
          obtain ⟨t, rfl, ht, hal, hww⟩ := hrel
          have b1 : (t : Int) ≤ 8 := by omega
          by_cases hlt : t = A
          · subst hlt
            have HC : Hid (cov p s = true) := cov_yes HPS.out (by rw [HA.out]; exact hal.out)
            go_wp2_with fail
            go_ret
            exact ⟨by rw [HC.out]; rfl, HB4.out.trans (hww.out.mono HB4.out.size)⟩
          · have q4 : (t : Int) < (A : Int) := by omega
            have HT : Hid (t < A) := by show t < A; omega
            by_cases hge : B ≤ t
            · have HC : Hid (cov p s = false) := by
                refine cov_no HNE.out (fun e => ?_)
                have := congrArg List.length e
                rw [HA.out, List.length_take, List.length_take, HA.out, HBB.out] at this
                omega
              have q5 : (B : Int) ≤ (t : Int) := by omega
              clear hge hlt
              go_wp2_with fail
              go_region
              go_wp2_with fail
              go_ret
              exact ⟨by rw [HC.out]; rfl, HB4.out.trans ((below_drew hww.out).mono HB4.out.size)⟩
            · have q5 : (t : Int) < (B : Int) := by omega
              have HTB : Hid (t < B) := by show t < B; omega
              obtain ⟨_, _, hab, hbs1, hcell1⟩ := HS3.out.2 (by omega)
              simp only [Option.some.injEq, Addr.mk.injEq] at hab
              obtain ⟨rfl, rfl, _⟩ := hab
              obtain ⟨_, _, hab, hbs2, hcell2⟩ := HS2.out.2 (by omega)
              simp only [Option.some.injEq, Addr.mk.injEq] at hab
              obtain ⟨rfl, rfl, _⟩ := hab
              obtain ⟨x, hx⟩ : ∃ x, (pcs p)[t]? = some x := ⟨_, List.getElem?_eq_getElem (by rw [HA.out]; omega)⟩
              obtain ⟨y, hy⟩ : ∃ y, (pcs s)[t]? = some y := ⟨_, List.getElem?_eq_getElem (by rw [HBB.out]; omega)⟩
              have HX : Hid ((pcs p)[t]? = some x) := hx
              have HY : Hid ((pcs s)[t]? = some y) := hy
              have hcx : wr.cell? ⟨g1, t, none⟩ = some (.string x) := by
                have e := hcell1 t x hx
                rw [Nat.zero_add] at e
                exact (hww.out.cell (p := ⟨g1, t, none⟩) hbs1).trans e
              have hcy : wr.cell? ⟨g2, t, none⟩ = some (.string y) := by
                have e := hcell2 t y hy
                rw [Nat.zero_add] at e
                exact (hww.out.cell (p := ⟨g2, t, none⟩) hbs2).trans e
              clear hlt hge hcell1 hcell2 hbs1 hbs2 hx hy
              cases hxy : (x.data.toList == y.data.toList) with
              | true =>
                have HXY : Hid (x = y) := list_inj (by simpa using hxy)
                have e1 : (x.toList == y.toList) = true := by rw [toList_is, toList_is]; exact hxy
                clear hxy
                go_wp2_with fail
                have h5 : ¬ (B : Int) ≤ (t : Int) := by omega
                go_quiet (fail)
                go_wp2_with fail
                go_roundw
                case rel =>
                  refine ⟨t + 1, by simp, by have := HT.out; omega, ?_, ⟨hww.out.os, hww.out.tape, hww.out.output, hww.out.size, hww.out.block⟩⟩
                  show _ = _
                  rw [List.take_add_one, List.take_add_one, hal.out, HX.out, HY.out, HXY.out]
                case measure => have := HT.out; simp [intOf]; omega
              | false =>
                have e1 : (x.toList == y.toList) = false := by rw [toList_is, toList_is]; exact hxy
                have HC : Hid (cov p s = false) := by
                  refine cov_no HNE.out (fun e => ?_)
                  have e2 := congrArg (·[t]?) e
                  simp only [List.getElem?_take, HA.out, HX.out, HY.out, if_pos HT.out, Option.some.injEq] at e2
                  rw [e2] at hxy
                  simp at hxy
                clear hxy
                go_wp2_with fail
                have h5 : ¬ (B : Int) ≤ (t : Int) := by omega
                go_quiet (fail)
                go_wp2_with fail
                go_ret
                exact ⟨by rw [HC.out]; rfl, HB4.out.trans ((hww.out.trans (below_drewN _ wr _)).mono HB4.out.size)⟩
#print axioms refCovers_is
theorem refCovers_b (p s : ByteArray) (b : Bool) (hb : cov p s = b) (w : World) (hp : p.size ≤ 140737488355328) (hn : s.size ≤ 140737488355328) : Calls Try.prog 29 #[.string p, .string s] w fun e w' => e = .returned (.bool b) ∧ Below w.heap.size w w' := by
  subst hb; exact refCovers_is p s w hp hn
end Go.Proofs.Ytngkajeghmogmaa.Oct
