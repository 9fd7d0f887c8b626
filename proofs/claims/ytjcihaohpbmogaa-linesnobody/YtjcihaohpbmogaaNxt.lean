/-
  Layer 11 (lines): next: which of those that are left comes next.
-/
import Derived.Test.YtjcihaohpbmogaaShq
import Derived.WalkMore
namespace Go.Proofs.Ytjcihaohpbmogaa.Oct
open Go.RowKit
set_option maxRecDepth 100000
set_option linter.unusedSimpArgs false
set_option linter.unusedVariables false
set_option linter.unusedSectionVars false

/-- the place of the next one, of those that are left: by numbers -/
def nxAt (fl : Nat → List Nat) (told : Nat → Bool) (last : Int) : List Nat → Nat → Int → Int
  | [], _, least => least
  | n :: l, i, least => if (fl n).all told then (if (fl n).any (fun k => (k : Int) == last) then (i : Int) else nxAt fl told last l (i + 1) (if least < 0 then (i : Int) else least)) else nxAt fl told last l (i + 1) least
def bvs (l : List Bool) : List Value := l.map fun b => .bool b
def flv (G : Gm) (vs : List Vx) (k : Nat) : List Nat := fln vs (G.frs (vs.getD k vTop))
theorem fln_lt {vs fr : List Vx} : ∀ k ∈ fln vs fr, k < vs.length := by
  intro k hk
  unfold fln at hk
  rw [List.mem_filterMap] at hk
  obtain ⟨u, _, hu⟩ := hk
  split at hu
  · cases hu
    exact List.idxOf_lt_length_of_mem (by assumption)
  · cases hu
set_option maxHeartbeats 4000000 in
theorem next_is (w : World) (G : Gm) (va la fa : Option Addr) (vc lc fc N : Nat) (vs : List Vx) (hsh : ShR w G va la fa N vs) (hN : N ≤ 512) (hfr : ∀ x, (G.frs x).length ≤ 100000) (ea : Option Addr) (n ec : Nat) (left : List Nat) (hl : CR w 3 ea n (ivs left)) (hln : ∀ k ∈ left, k < N) (hn : n ≤ 512)
    (ta : Option Addr) (tc : Nat) (told : List Bool) (ht : CR w 4 ta N (bvs told)) (last : Int) (r : Int) (hr : nxAt (flv G vs) (fun k => told.getD k false) last left 0 (-1) = r) :
    Calls Try.prog 70 #[.agg (shc (.slice va N vc) (.slice la N lc) (.slice fa N fc)).toArray, .slice ea n ec, .slice ta N tc, iv last] w fun e w' => e = .returned (iv r) ∧ Below w.heap.size w w' := by
  obtain ⟨h1, h2, h3, Fs, h4, h5, h6⟩ := hsh
  obtain ⟨d4, hd4⟩ : ∃ d, w.heap.size = d := ⟨_, rfl⟩
  obtain ⟨W, hW⟩ : ∃ W, w.alloc (.cells (shc (.slice va N vc) (.slice la N lc) (.slice fa N fc)).toArray 80) = W := ⟨_, rfl⟩
  have hb : Below w.heap.size w W := by rw [← hW]; exact below_al _ _
  have hk : Blk W d4 80 (shc (.slice va N vc) (.slice la N lc) (.slice fa N fc)) := by rw [← hW, ← hd4]; exact Blk.new w _ _
  have hll : left.length = n := by have := hl.1; simpa [ivs] using this
  have htl : told.length = N := by have := ht.1; simpa [bvs] using this
  have HS : Hid (Below w.heap.size w W ∧ Blk W d4 80 (shc (.slice va N vc) (.slice la N lc) (.slice fa N fc)) ∧ CR W 3 ea n (ivs left) ∧ CR W 4 ta N (bvs told) ∧ CR W 82 fa N Fs ∧ Frs W G vs N Fs ∧ left.length = n ∧ told.length = N ∧ vs.length = N ∧ (∀ k ∈ left, k < N) ∧ nxAt (flv G vs) (fun k => told.getD k false) last left 0 (-1) = r) := ⟨hb, hk, hl.below hb, ht.below hb, h4.below hb, ⟨h5, fun j v f hv hf => (h6 j v f hv hf).below hb⟩, hll, htl, h1.1, hln, hr⟩
  have q0 : (n : Int) ≤ 512 := by omega
  have qN : (N : Int) ≤ 512 := by omega
  have c2 : W.cell? ⟨d4, 2, none⟩ = some (.slice fa N fc) := hk.cell rfl
  have i80 := info80 (.slice va N vc) (.slice la N lc) (.slice fa N fc)
  have o80 : ∀ v ∈ shc (.slice va N vc) (.slice la N lc) (.slice fa N fc), v.oneCell' = true := shc_one rfl rfl rfl
  clear h1 h2 h3 h4 h5 h6 hb hk hl ht hr hll htl hln
  go_enter Try.func70, Try.ntmps70
  go_wp2
  go_step3
  go_wp2
  go_step3
  go_wp2
  clear i80 o80 c2 hW hd4
  have c2 : Hid (W.cell? ⟨d4, 2, none⟩ = some (.slice fa N fc)) := HS.out.2.1.cell rfl
  go_loopw [17, 9] (fun u v wr => ∃ (i : Nat) (least : Int), u = iv (i : Int) ∧ v = iv least ∧ wr = W ∧ Hid (i ≤ n ∧ nxAt (flv G vs) (fun k => told.getD k false) last (left.drop i) i least = r)) (fun u _ _ => n - (intOf u).toNat)
  case atStart => exact ⟨0, -1, rfl, rfl, rfl, Nat.zero_le _, by rw [List.drop_zero]; exact HS.out.2.2.2.2.2.2.2.2.2.2⟩
  case round =>
    obtain ⟨i, least, rfl, rfl, rfl, HI⟩ := hrel
    by_cases hi : i < n
    · obtain ⟨k, hk⟩ : ∃ k, left[i]? = some k := ⟨_, List.getElem?_eq_getElem (by rw [HS.out.2.2.2.2.2.2.1]; exact hi)⟩
      have hkN := HS.out.2.2.2.2.2.2.2.2.2.1 k (List.mem_of_getElem? hk)
      have hdrop : left.drop i = k :: left.drop (i + 1) := by
        rw [List.drop_eq_getElem_cons (by rw [HS.out.2.2.2.2.2.2.1]; exact hi)]
        congr 1
        exact (List.getElem?_eq_some_iff.1 hk).2
      obtain ⟨x, hx⟩ : ∃ x, vs[k]? = some x := ⟨_, List.getElem?_eq_getElem (by rw [HS.out.2.2.2.2.2.2.2.2.1]; exact hkN)⟩
      obtain ⟨f, hf⟩ : ∃ f, Fs[k]? = some f := ⟨_, List.getElem?_eq_getElem (by rw [HS.out.2.2.2.2.2.1.1]; exact hkN)⟩
      have hflv : flv G vs k = fln vs (G.frs x) := by unfold flv; rw [List.getD_eq_getElem?_getD, hx]; rfl
      obtain ⟨ia, ic, rfl, hic⟩ := HS.out.2.2.2.2.2.1.2 k x f hx hf
      obtain ⟨K, hK⟩ : ∃ K, fln vs (G.frs x) = K := ⟨_, rfl⟩
      have hKN : ∀ q ∈ K, q < N := fun q hq => by rw [← hK] at hq; rw [← HS.out.2.2.2.2.2.2.2.2.1]; exact fln_lt q hq
      rw [hK] at hflv hic hf
      obtain ⟨nn, hnn⟩ : ∃ nn, K.length = nn := ⟨_, rfl⟩
      rw [hnn] at hic
      obtain ⟨eg, eo, rfl, _, hel⟩ := HS.out.2.2.1.2 (by omega)
      have hce : wr.cell? ⟨eg, eo + i, none⟩ = some (iv (k : Int)) := hel i (iv (k : Int)) (by unfold ivs; rw [List.getElem?_map, hk]; rfl)
      obtain ⟨fg, fo, rfl, _, hfl⟩ := HS.out.2.2.2.2.1.2 (by omega)
      have hcf : wr.cell? ⟨fg, fo + k, none⟩ = some (.slice ia K.length ic) := hfl k _ hf
      rw [hnn] at hcf
      have c2o := c2.out
      have HKK : Hid (K.length = nn ∧ CR wr 3 ia nn (ivs K) ∧ (∀ q ∈ K, q < N) ∧ flv G vs k = K ∧ left.drop i = k :: left.drop (i + 1) ∧ i < n) := ⟨hnn, hic, hKN, hflv, hdrop, hi⟩
      have q1 : (i : Int) < (n : Int) := by omega
      have q2 : (k : Int) < (N : Int) := by omega
      have q3 : (nn : Int) ≤ 100000 := by
        have h1 : (fln vs (G.frs x)).length ≤ (G.frs x).length := List.length_filterMap_le _ _
        have h2 := hfr x
        rw [hK] at h1
        omega
      have HFR : Hid (∀ x, (G.frs x).length ≤ 100000) := hfr
      clear hk hx hf hflv hic hKN hel hfl hdrop hK hnn hi
      go_wp2
      clear c2o hcf hce
      go_loopw [28, 12] (fun u v w9 => ∃ (j : Nat) (b : Bool), u = iv (j : Int) ∧ v = .bool b ∧ w9 = wr ∧ Hid (j ≤ nn ∧ (∀ q ∈ K.take j, told.getD q false = true) ∧ b = (K.take j).any (fun q => (q : Int) == last))) (fun u _ _ => nn - (intOf u).toNat)
      case atStart => exact ⟨0, false, rfl, rfl, rfl, Nat.zero_le _, by simp, by simp⟩
      case round =>
        obtain ⟨j, b, rfl, rfl, rfl, HJ⟩ := hrel
        by_cases hj : j < nn
        · obtain ⟨q, hq⟩ : ∃ q, K[j]? = some q := ⟨_, List.getElem?_eq_getElem (by rw [HKK.out.1]; exact hj)⟩
          have hqN := HKK.out.2.2.1 q (List.mem_of_getElem? hq)
          obtain ⟨ig, io, rfl, _, hil⟩ := HKK.out.2.1.2 (by omega)
          have hci : wr.cell? ⟨ig, io + j, none⟩ = some (iv (q : Int)) := hil j _ (by unfold ivs; rw [List.getElem?_map, hq]; rfl)
          obtain ⟨tg, to, rfl, _, htl⟩ := HS.out.2.2.2.1.2 (by omega)
          obtain ⟨B, hB⟩ : ∃ B, told.getD q false = B := ⟨_, rfl⟩
          have hct : wr.cell? ⟨tg, to + q, none⟩ = some (.bool B) := htl q _ (by
            unfold bvs
            rw [List.getElem?_map, ← hB, List.getD_eq_getElem?_getD, List.getElem?_eq_getElem (by rw [HS.out.2.2.2.2.2.2.2.1]; exact hqN)]
            rfl)
          have HQ : Hid (K[j]? = some q ∧ told.getD q false = B ∧ j < nn) := ⟨hq, hB, hj⟩
          have q5 : (j : Int) < (nn : Int) := by omega
          have q6 : (q : Int) < (N : Int) := by omega
          clear hq hil htl hB hj hqN
          cases B with
          | false =>
            go_wp2
            have hall : (flv G vs k).all (fun k => told.getD k false) = false := by
              rw [HKK.out.2.2.2.1, List.all_eq_false]
              exact ⟨q, List.mem_of_getElem? HQ.out.1, by rw [HQ.out.2.1]; decide⟩
            refine ⟨⟨i + 1, least, by simp, rfl, trivial, HKK.out.2.2.2.2.2, ?_⟩, by have := HKK.out.2.2.2.2.2; simp [intOf]; omega⟩
            have h0 := HI.out.2
            rw [HKK.out.2.2.2.2.1] at h0
            unfold nxAt at h0
            rw [hall, if_neg (by decide)] at h0
            exact h0
          | true =>
            cases b with
            | true =>
              go_wp2
              refine ⟨⟨j + 1, true, by simp, rfl, trivial, HQ.out.2.2, fun z hz => ?_, ?_⟩, by have := HQ.out.2.2; simp [intOf]; omega⟩
              · rw [List.take_add_one, HQ.out.1] at hz
                rcases List.mem_append.1 hz with hz | hz
                · exact HJ.out.2.1 z hz
                · simp at hz; subst hz; exact HQ.out.2.1
              · rw [List.take_add_one, HQ.out.1, List.any_append, ← HJ.out.2.2, Bool.true_or]
            | false =>
              obtain ⟨E, hE⟩ : ∃ E, ((q : Int) == last) = E := ⟨_, rfl⟩
              have HE : Hid (((q : Int) == last) = E) := hE
              go_wp2
              refine ⟨⟨j + 1, E, by simp, by rw [← hE], trivial, HQ.out.2.2, fun z hz => ?_, ?_⟩, by have := HQ.out.2.2; simp [intOf]; omega⟩
              · rw [List.take_add_one, HQ.out.1] at hz
                rcases List.mem_append.1 hz with hz | hz
                · exact HJ.out.2.1 z hz
                · simp at hz; subst hz; exact HQ.out.2.1
              · rw [List.take_add_one, HQ.out.1, List.any_append, ← HJ.out.2.2, Bool.false_or]
                simp [HE.out]
        · have q5 : ¬ (j : Int) < (nn : Int) := by omega
          have HK2 : Hid ((flv G vs k).all (fun k => told.getD k false) = true ∧ b = (flv G vs k).any (fun q => (q : Int) == last)) := by
            have h1 := HJ.out.2.1
            have h2 := HJ.out.2.2
            rw [List.take_of_length_le (by rw [HKK.out.1]; omega)] at h1 h2
            rw [HKK.out.2.2.2.1]
            exact ⟨List.all_eq_true.2 h1, h2⟩
          have HST : Hid (nxAt (flv G vs) (fun k => told.getD k false) last (left.drop i) i least = if b = true then (i : Int) else nxAt (flv G vs) (fun k => told.getD k false) last (left.drop (i + 1)) (i + 1) (if least < 0 then (i : Int) else least)) := by
            show _ = _
            rw [HKK.out.2.2.2.2.1]
            conv => lhs; unfold nxAt
            rw [HK2.out.1, if_pos rfl, ← HK2.out.2]
          cases b with
          | true =>
            have hr2 : r = (i : Int) := by rw [← HI.out.2, HST.out, if_pos rfl]
            go_wp2
            go_ret
            rw [hr2]
            exact ⟨rfl, HS.out.1⟩
          | false =>
            have h0 := HI.out.2
            rw [HST.out, if_neg (by decide)] at h0
            have HI2 : Hid (nxAt (flv G vs) (fun k => told.getD k false) last (left.drop (i + 1)) (i + 1) (if least < 0 then (i : Int) else least) = r) := h0
            clear h0
            by_cases hle : least < 0
            · have h1 := HI2.out
              rw [if_pos hle] at h1
              have HI3 : Hid _ := hid_of h1
              clear h1
              go_wp2
              exact ⟨⟨i + 1, (i : Int), by simp, rfl, trivial, HKK.out.2.2.2.2.2, HI3.out⟩, by have := HKK.out.2.2.2.2.2; simp [intOf]; omega⟩
            · have h1 := HI2.out
              rw [if_neg hle] at h1
              have HI3 : Hid _ := hid_of h1
              clear h1
              go_wp2
              exact ⟨⟨i + 1, least, by simp, rfl, trivial, HKK.out.2.2.2.2.2, HI3.out⟩, by have := HKK.out.2.2.2.2.2; simp [intOf]; omega⟩
    · have q1 : ¬ (i : Int) < (n : Int) := by omega
      have hr2 : r = least := by
        rw [← HI.out.2, List.drop_eq_nil_of_le (by rw [HS.out.2.2.2.2.2.2.1]; omega)]
        rfl
      subst hr2
      go_wp2
      go_ret
      exact ⟨rfl, HS.out.1⟩
#print axioms next_is
end Go.Proofs.Ytjcihaohpbmogaa.Oct
