/-
  Layer 11 (lines): next: which of those that are left comes next.
  Layer 11 (lines), plain: the document's order is the one in which lines are told.
  Layer 11 (lines), plain: the order by numbers: the place that the loop finds.
  Layer 11 (lines): slices.Delete of numbers as this program bears it.
  Layer 11 (lines): rows of numbers: made, written to, cut.
-/
import Derived.Test.YtjcihaohpbmogaaQpBF
import Derived.WalkMore
import Derived.Test.YtjcihaohpbmogaaQpAE
import Derived.Test.YtjcihaohpbmogaaRows
import Derived.Shelf.Slices.Delete
import Derived.Laws.OwnMore
/- Layer 11 (lines): next: which of those that are left comes next. -/
namespace Go.Proofs.Ytjcihaohpbmogaa.Oct
open Go.RowKit
set_option maxRecDepth 100000
set_option linter.unusedSimpArgs false
set_option linter.unusedVariables false
set_option linter.unusedSectionVars false

/-- the place of the next one, of those that are left: by numbers -/
def nxAt (fl : Nat → List Nat) (told : Nat → Bool) (last : Int) : List Nat → Nat → Int → Int
  | [], _, least => least
  | n :: l, i, least => if (fl n).all told then (if (fl n).any (fun k => (k : Int) == last) then (i : Int) else nxAt fl told last l (i + 1) (if least < 0 then (i : Int) else least)) else nxAt fl told last l (i + 1) least
def bvs (l : List Bool) : List Value := l.map fun b => .bool b
def flv (G : Gm) (vs : List Vx) (k : Nat) : List Nat := fln vs (G.frs (vs.getD k vTop))
theorem fln_lt {vs fr : List Vx} : ∀ k ∈ fln vs fr, k < vs.length := by
  intro k hk
  unfold fln at hk
  rw [List.mem_filterMap] at hk
  obtain ⟨u, _, hu⟩ := hk
  split at hu
  · cases hu
    exact List.idxOf_lt_length_of_mem (by assumption)
  · cases hu
set_option maxHeartbeats 4000000 in
theorem next_is (w : World) (G : Gm) (va la fa : Option Addr) (vc lc fc N : Nat) (vs : List Vx) (hsh : ShR w G va la fa N vs) (hN : N ≤ 512) (hfr : ∀ x, (G.frs x).length ≤ 100000) (ea : Option Addr) (n ec : Nat) (left : List Nat) (hl : CR w 3 ea n (ivs left)) (hln : ∀ k ∈ left, k < N) (hn : n ≤ 512)
    (ta : Option Addr) (tc : Nat) (told : List Bool) (ht : CR w 4 ta N (bvs told)) (last : Int) (r : Int) (hr : nxAt (flv G vs) (fun k => told.getD k false) last left 0 (-1) = r) :
    Calls Try.prog 70 #[.agg (shc (.slice va N vc) (.slice la N lc) (.slice fa N fc)).toArray, .slice ea n ec, .slice ta N tc, iv last] w fun e w' => e = .returned (iv r) ∧ Below w.heap.size w w' := by
  obtain ⟨h1, h2, h3, Fs, h4, h5, h6⟩ := hsh
  obtain ⟨d4, hd4⟩ : ∃ d, w.heap.size = d := ⟨_, rfl⟩
  obtain ⟨W, hW⟩ : ∃ W, w.alloc (.cells (shc (.slice va N vc) (.slice la N lc) (.slice fa N fc)).toArray 80) = W := ⟨_, rfl⟩
  have hb : Below w.heap.size w W := by rw [← hW]; exact below_al _ _
  have hk : Blk W d4 80 (shc (.slice va N vc) (.slice la N lc) (.slice fa N fc)) := by rw [← hW, ← hd4]; exact Blk.new w _ _
  have hll : left.length = n := by have := hl.1; simpa [ivs] using this
  have htl : told.length = N := by have := ht.1; simpa [bvs] using this
  have HS : Hid (Below w.heap.size w W ∧ Blk W d4 80 (shc (.slice va N vc) (.slice la N lc) (.slice fa N fc)) ∧ CR W 3 ea n (ivs left) ∧ CR W 4 ta N (bvs told) ∧ CR W 82 fa N Fs ∧ Frs W G vs N Fs ∧ left.length = n ∧ told.length = N ∧ vs.length = N ∧ (∀ k ∈ left, k < N) ∧ nxAt (flv G vs) (fun k => told.getD k false) last left 0 (-1) = r) := ⟨hb, hk, hl.below hb, ht.below hb, h4.below hb, ⟨h5, fun j v f hv hf => (h6 j v f hv hf).below hb⟩, hll, htl, h1.1, hln, hr⟩
  have q0 : (n : Int) ≤ 512 := by omega
  have qN : (N : Int) ≤ 512 := by omega
  have c2 : W.cell? ⟨d4, 2, none⟩ = some (.slice fa N fc) := hk.cell rfl
  have i80 := info80 (.slice va N vc) (.slice la N lc) (.slice fa N fc)
  have o80 : ∀ v ∈ shc (.slice va N vc) (.slice la N lc) (.slice fa N fc), v.oneCell' = true := shc_one rfl rfl rfl
  clear h1 h2 h3 h4 h5 h6 hb hk hl ht hr hll htl hln
  go_enter Try.func70, Try.ntmps70
  go_wp2
  go_step3
  go_wp2
  go_step3
  go_wp2
  clear i80 o80 c2 hW hd4
  have c2 : Hid (W.cell? ⟨d4, 2, none⟩ = some (.slice fa N fc)) := HS.out.2.1.cell rfl
  go_loopw [17, 9] (fun u v wr => ∃ (i : Nat) (least : Int), u = iv (i : Int) ∧ v = iv least ∧ wr = W ∧ Hid (i ≤ n ∧ nxAt (flv G vs) (fun k => told.getD k false) last (left.drop i) i least = r)) (fun u _ _ => n - (intOf u).toNat)
  case atStart => exact ⟨0, -1, rfl, rfl, rfl, Nat.zero_le _, by rw [List.drop_zero]; exact HS.out.2.2.2.2.2.2.2.2.2.2⟩
  case round =>
    obtain ⟨i, least, rfl, rfl, rfl, HI⟩ := hrel
    by_cases hi : i < n
    · obtain ⟨k, hk⟩ : ∃ k, left[i]? = some k := ⟨_, List.getElem?_eq_getElem (by rw [HS.out.2.2.2.2.2.2.1]; exact hi)⟩
      have hkN := HS.out.2.2.2.2.2.2.2.2.2.1 k (List.mem_of_getElem? hk)
      have hdrop : left.drop i = k :: left.drop (i + 1) := by
        rw [List.drop_eq_getElem_cons (by rw [HS.out.2.2.2.2.2.2.1]; exact hi)]
        congr 1
        exact (List.getElem?_eq_some_iff.1 hk).2
      obtain ⟨x, hx⟩ : ∃ x, vs[k]? = some x := ⟨_, List.getElem?_eq_getElem (by rw [HS.out.2.2.2.2.2.2.2.2.1]; exact hkN)⟩
      obtain ⟨f, hf⟩ : ∃ f, Fs[k]? = some f := ⟨_, List.getElem?_eq_getElem (by rw [HS.out.2.2.2.2.2.1.1]; exact hkN)⟩
      have hflv : flv G vs k = fln vs (G.frs x) := by unfold flv; rw [List.getD_eq_getElem?_getD, hx]; rfl
      obtain ⟨ia, ic, rfl, hic⟩ := HS.out.2.2.2.2.2.1.2 k x f hx hf
      obtain ⟨K, hK⟩ : ∃ K, fln vs (G.frs x) = K := ⟨_, rfl⟩
      have hKN : ∀ q ∈ K, q < N := fun q hq => by rw [← hK] at hq; rw [← HS.out.2.2.2.2.2.2.2.2.1]; exact fln_lt q hq
      rw [hK] at hflv hic hf
      obtain ⟨nn, hnn⟩ : ∃ nn, K.length = nn := ⟨_, rfl⟩
      rw [hnn] at hic
      obtain ⟨eg, eo, rfl, _, hel⟩ := HS.out.2.2.1.2 (by omega)
      have hce : wr.cell? ⟨eg, eo + i, none⟩ = some (iv (k : Int)) := hel i (iv (k : Int)) (by unfold ivs; rw [List.getElem?_map, hk]; rfl)
      obtain ⟨fg, fo, rfl, _, hfl⟩ := HS.out.2.2.2.2.1.2 (by omega)
      have hcf : wr.cell? ⟨fg, fo + k, none⟩ = some (.slice ia K.length ic) := hfl k _ hf
      rw [hnn] at hcf
      have c2o := c2.out
      have HKK : Hid (K.length = nn ∧ CR wr 3 ia nn (ivs K) ∧ (∀ q ∈ K, q < N) ∧ flv G vs k = K ∧ left.drop i = k :: left.drop (i + 1) ∧ i < n) := ⟨hnn, hic, hKN, hflv, hdrop, hi⟩
      have q1 : (i : Int) < (n : Int) := by omega
      have q2 : (k : Int) < (N : Int) := by omega
      have q3 : (nn : Int) ≤ 100000 := by
        have h1 : (fln vs (G.frs x)).length ≤ (G.frs x).length := List.length_filterMap_le _ _
        have h2 := hfr x
        rw [hK] at h1
        omega
      have HFR : Hid (∀ x, (G.frs x).length ≤ 100000) := hfr
      clear hk hx hf hflv hic hKN hel hfl hdrop hK hnn hi
      go_wp2
      clear c2o hcf hce
      go_loopw [28, 12] (fun u v w9 => ∃ (j : Nat) (b : Bool), u = iv (j : Int) ∧ v = .bool b ∧ w9 = wr ∧ Hid (j ≤ nn ∧ (∀ q ∈ K.take j, told.getD q false = true) ∧ b = (K.take j).any (fun q => (q : Int) == last))) (fun u _ _ => nn - (intOf u).toNat)
      case atStart => exact ⟨0, false, rfl, rfl, rfl, Nat.zero_le _, by simp, by simp⟩
      case round =>
        obtain ⟨j, b, rfl, rfl, rfl, HJ⟩ := hrel
        by_cases hj : j < nn
        · obtain ⟨q, hq⟩ : ∃ q, K[j]? = some q := ⟨_, List.getElem?_eq_getElem (by rw [HKK.out.1]; exact hj)⟩
          have hqN := HKK.out.2.2.1 q (List.mem_of_getElem? hq)
          obtain ⟨ig, io, rfl, _, hil⟩ := HKK.out.2.1.2 (by omega)
          have hci : wr.cell? ⟨ig, io + j, none⟩ = some (iv (q : Int)) := hil j _ (by unfold ivs; rw [List.getElem?_map, hq]; rfl)
          obtain ⟨tg, to, rfl, _, htl⟩ := HS.out.2.2.2.1.2 (by omega)
          obtain ⟨B, hB⟩ : ∃ B, told.getD q false = B := ⟨_, rfl⟩
          have hct : wr.cell? ⟨tg, to + q, none⟩ = some (.bool B) := htl q _ (by
            unfold bvs
            rw [List.getElem?_map, ← hB, List.getD_eq_getElem?_getD, List.getElem?_eq_getElem (by rw [HS.out.2.2.2.2.2.2.2.1]; exact hqN)]
            rfl)
          have HQ : Hid (K[j]? = some q ∧ told.getD q false = B ∧ j < nn) := ⟨hq, hB, hj⟩
          have q5 : (j : Int) < (nn : Int) := by omega
          have q6 : (q : Int) < (N : Int) := by omega
          clear hq hil htl hB hj hqN
          cases B with
          | false =>
            go_wp2
            have hall : (flv G vs k).all (fun k => told.getD k false) = false := by
              rw [HKK.out.2.2.2.1, List.all_eq_false]
              exact ⟨q, List.mem_of_getElem? HQ.out.1, by rw [HQ.out.2.1]; decide⟩
            refine ⟨⟨i + 1, least, by simp, rfl, trivial, HKK.out.2.2.2.2.2, ?_⟩, by have := HKK.out.2.2.2.2.2; simp [intOf]; omega⟩
            have h0 := HI.out.2
            rw [HKK.out.2.2.2.2.1] at h0
            unfold nxAt at h0
            rw [hall, if_neg (by decide)] at h0
            exact h0
          | true =>
            cases b with
            | true =>
              go_wp2
              refine ⟨⟨j + 1, true, by simp, rfl, trivial, HQ.out.2.2, fun z hz => ?_, ?_⟩, by have := HQ.out.2.2; simp [intOf]; omega⟩
              · rw [List.take_add_one, HQ.out.1] at hz
                rcases List.mem_append.1 hz with hz | hz
                · exact HJ.out.2.1 z hz
                · simp at hz; subst hz; exact HQ.out.2.1
              · rw [List.take_add_one, HQ.out.1, List.any_append, ← HJ.out.2.2, Bool.true_or]
            | false =>
              obtain ⟨E, hE⟩ : ∃ E, ((q : Int) == last) = E := ⟨_, rfl⟩
              have HE : Hid (((q : Int) == last) = E) := hE
              go_wp2
              refine ⟨⟨j + 1, E, by simp, by rw [← hE], trivial, HQ.out.2.2, fun z hz => ?_, ?_⟩, by have := HQ.out.2.2; simp [intOf]; omega⟩
              · rw [List.take_add_one, HQ.out.1] at hz
                rcases List.mem_append.1 hz with hz | hz
                · exact HJ.out.2.1 z hz
                · simp at hz; subst hz; exact HQ.out.2.1
              · rw [List.take_add_one, HQ.out.1, List.any_append, ← HJ.out.2.2, Bool.false_or]
                simp [HE.out]
        · have q5 : ¬ (j : Int) < (nn : Int) := by omega
          have HK2 : Hid ((flv G vs k).all (fun k => told.getD k false) = true ∧ b = (flv G vs k).any (fun q => (q : Int) == last)) := by
            have h1 := HJ.out.2.1
            have h2 := HJ.out.2.2
            rw [List.take_of_length_le (by rw [HKK.out.1]; omega)] at h1 h2
            rw [HKK.out.2.2.2.1]
            exact ⟨List.all_eq_true.2 h1, h2⟩
          have HST : Hid (nxAt (flv G vs) (fun k => told.getD k false) last (left.drop i) i least = if b = true then (i : Int) else nxAt (flv G vs) (fun k => told.getD k false) last (left.drop (i + 1)) (i + 1) (if least < 0 then (i : Int) else least)) := by
            show _ = _
            rw [HKK.out.2.2.2.2.1]
            conv => lhs; unfold nxAt
            rw [HK2.out.1, if_pos rfl, ← HK2.out.2]
          cases b with
          | true =>
            have hr2 : r = (i : Int) := by rw [← HI.out.2, HST.out, if_pos rfl]
            go_wp2
            go_ret
            rw [hr2]
            exact ⟨rfl, HS.out.1⟩
          | false =>
            have h0 := HI.out.2
            rw [HST.out, if_neg (by decide)] at h0
            have HI2 : Hid (nxAt (flv G vs) (fun k => told.getD k false) last (left.drop (i + 1)) (i + 1) (if least < 0 then (i : Int) else least) = r) := h0
            clear h0
            by_cases hle : least < 0
            · have h1 := HI2.out
              rw [if_pos hle] at h1
              have HI3 : Hid _ := hid_of h1
              clear h1
              go_wp2
              exact ⟨⟨i + 1, (i : Int), by simp, rfl, trivial, HKK.out.2.2.2.2.2, HI3.out⟩, by have := HKK.out.2.2.2.2.2; simp [intOf]; omega⟩
            · have h1 := HI2.out
              rw [if_neg hle] at h1
              have HI3 : Hid _ := hid_of h1
              clear h1
              go_wp2
              exact ⟨⟨i + 1, least, by simp, rfl, trivial, HKK.out.2.2.2.2.2, HI3.out⟩, by have := HKK.out.2.2.2.2.2; simp [intOf]; omega⟩
    · have q1 : ¬ (i : Int) < (n : Int) := by omega
      have hr2 : r = least := by
        rw [← HI.out.2, List.drop_eq_nil_of_le (by rw [HS.out.2.2.2.2.2.2.1]; omega)]
        rfl
      subst hr2
      go_wp2
      go_ret
      exact ⟨rfl, HS.out.1⟩
end Go.Proofs.Ytjcihaohpbmogaa.Oct

/- Layer 11 (lines), plain: the document's order is the one in which lines are told. -/
namespace Go.Proofs.Ytjcihaohpbmogaa.Gr
set_option linter.unusedVariables false
set_option linter.unusedSectionVars false
variable {α : Type} [DecidableEq α]

/-- the document's: those that may be told -/
def dready (beh : α → List α) (all out : List α) : List α := all.filter fun n => decide (n ∉ out) && all.all fun k => decide (k ∈ out) || decide (n ∉ beh k)
def dnear (step : α → List α) (last : α) (ready : List α) : List α := if (ready.filter fun n => decide (n ∈ step last)) = [] then ready else ready.filter fun n => decide (n ∈ step last)
def dpick (lt : α → α → Bool) : List α → Option α
  | [] => none
  | m :: l => some (minOf lt m l)
def dnext (lt : α → α → Bool) (step beh : α → List α) (all out : List α) (last : α) : Option α := dpick lt (dnear step last (dready beh all out))
def drun (lt : α → α → Bool) (step beh : α → List α) (all : List α) : Nat → List α → α → List α
  | 0, out, _ => out
  | k + 1, out, last => match dnext lt step beh all out last with
    | none => out
    | some n => drun lt step beh all k (out ++ [n]) n
theorem dready_mem {step beh : α → List α} (hb : ∀ a x, x ∈ beh a ↔ Reach step a x) {all out : List α} {n : α} : n ∈ dready beh all out ↔ n ∈ all ∧ n ∉ out ∧ ∀ k ∈ all, k ∉ out → ¬ Reach step k n := by
  simp only [dready, List.mem_filter, Bool.and_eq_true, decide_eq_true_eq, List.all_eq_true, Bool.or_eq_true, hb]
  constructor
  · rintro ⟨h1, h2, h3⟩
    exact ⟨h1, h2, fun k hk hn => (h3 k hk).resolve_left hn⟩
  · rintro ⟨h1, h2, h3⟩
    exact ⟨h1, h2, fun k hk => (Classical.em (k ∈ out)).imp id (h3 k hk)⟩
/-- the first of a rising list with a property is the least of those that have it, in whatever order they are -/
theorem find_pick {lt : α → α → Bool} (ht : ∀ a b c, lt a b = true → lt b c = true → lt a c = true) (hi : ∀ a, lt a a = false) {S l : List α} {p : α → Bool} (hS : S.Pairwise fun a b => lt a b = true) (hm : ∀ x, x ∈ l ↔ x ∈ S ∧ p x = true) : S.find? p = dpick lt l := by
  cases l with
  | nil =>
    rw [show dpick lt ([] : List α) = none from rfl, List.find?_eq_none]
    intro x hx hp
    have := (hm x).2 ⟨hx, hp⟩
    cases this
  | cons m l =>
    have h1 : (S.filter p).Pairwise fun a b => lt a b = true := hS.filter p
    cases hf : S.filter p with
    | nil =>
      have := (hm m).1 (by simp)
      have h2 : m ∈ S.filter p := List.mem_filter.2 this
      rw [hf] at h2
      cases h2
    | cons h T =>
      rw [hf] at h1
      have h2 : S.find? p = some h := by
        rw [← List.head?_filter, hf]; rfl
      rw [h2]
      show some h = some (minOf lt m l)
      rw [least_first lt ht hi h1 (fun x => by rw [hm, ← List.mem_filter, hf])]
theorem next_doc {lt : α → α → Bool} (ht : ∀ a b c, lt a b = true → lt b c = true → lt a c = true) (hi : ∀ a, lt a a = false)
    {step fl beh : α → List α} {vs all told : List α} {top last : α} (hF : From step vs fl) (hs : Stays step vs) (hb : ∀ a x, x ∈ beh a ↔ Reach step a x) (hv : vs.Pairwise fun a b => lt a b = true) (hm : ∀ x, x ∈ all ↔ x ∈ vs)
    (hp : ∀ n ∈ vs, n ∈ step top ∨ ∃ u ∈ vs, n ∈ step u) (hT : Told step vs told) (hl : last = told.getLast?.getD top) : nxt fl vs told = dnext lt step beh all told last := by
  have hrd : ∀ n, n ∈ dready beh all told ↔ n ∈ lft vs told ∧ rdy fl told n = true := fun n => by
    rw [dready_mem hb, lft_mem, hm]
    constructor
    · rintro ⟨h1, h2, h3⟩
      refine ⟨⟨h1, h2⟩, (rdy_from hF h1).2 ((free_iff hT.cl hs n).2 fun k hk => h3 k ((hm k).2 hk))⟩
    · rintro ⟨⟨h1, h2⟩, h3⟩
      exact ⟨h1, h2, fun k hk => (free_iff hT.cl hs n).1 ((rdy_from hF h1).1 h3) k ((hm k).1 hk)⟩
  have hlv : (lft vs told).Pairwise fun a b => lt a b = true := hv.filter _
  have e2 : (lft vs told).find? (fun n => rdy fl told n) = dpick lt (dready beh all told) := find_pick ht hi hlv hrd
  unfold nxt dnext dnear
  cases hl2 : told.getLast? with
  | none =>
    have h0 : told = [] := List.getLast?_eq_none_iff.1 hl2
    have hflw : ∀ n, flw fl told n = false := fun n => by unfold flw; rw [hl2]
    have e1 : (lft vs told).find? (fun n => rdy fl told n && flw fl told n) = none := by
      rw [List.find?_eq_none]
      intro n _
      rw [hflw, Bool.and_false]
      decide
    rw [e1, e2]
    show dpick lt (dready beh all told) = _
    rw [hl2] at hl
    have hall : (dready beh all told).filter (fun n => decide (n ∈ step last)) = dready beh all told := by
      rw [List.filter_eq_self]
      intro n hn
      have h1 := (hrd n).1 hn
      rw [hl]
      refine decide_eq_true ?_
      rcases hp n (lft_mem.1 h1.1).1 with h2 | ⟨u, hu, h2⟩
      · exact h2
      · have := (rdy_from hF (lft_mem.1 h1.1).1).1 h1.2 u hu h2
        rw [h0] at this
        cases this
    rw [hall]
    split
    · rfl
    · rfl
  | some l =>
    rw [hl2] at hl
    have hlast : last = l := hl
    subst hlast
    have hlm : last ∈ told := List.mem_of_getLast? hl2
    have hflw : ∀ n ∈ vs, flw fl told n = decide (n ∈ step last) := fun n hn => by
      unfold flw
      rw [hl2]
      refine decide_eq_decide.2 ?_
      rw [hF n hn]
      exact ⟨fun h => h.2, fun h => ⟨hT.sub _ hlm, h⟩⟩
    have e1 : (lft vs told).find? (fun n => rdy fl told n && flw fl told n) = dpick lt ((dready beh all told).filter fun n => decide (n ∈ step last)) := by
      refine find_pick ht hi hlv fun x => ?_
      rw [List.mem_filter, hrd, Bool.and_eq_true]
      constructor
      · rintro ⟨⟨h1, h2⟩, h3⟩
        exact ⟨h1, h2, by rw [hflw x (lft_mem.1 h1).1]; exact h3⟩
      · rintro ⟨h1, h2, h3⟩
        exact ⟨⟨h1, h2⟩, by rw [hflw x (lft_mem.1 h1).1] at h3; exact h3⟩
    rw [e1]
    cases hf : (dready beh all told).filter fun n => decide (n ∈ step last) with
    | nil => rw [if_pos rfl]; exact e2
    | cons m t => rw [if_neg (by simp)]; rfl
theorem run_doc {lt : α → α → Bool} (ht : ∀ a b c, lt a b = true → lt b c = true → lt a c = true) (hi : ∀ a, lt a a = false)
    {step fl beh : α → List α} {vs all : List α} {top : α} (hF : From step vs fl) (hs : Stays step vs) (hb : ∀ a x, x ∈ beh a ↔ Reach step a x) (hv : vs.Pairwise fun a b => lt a b = true) (hm : ∀ x, x ∈ all ↔ x ∈ vs)
    (hp : ∀ n ∈ vs, n ∈ step top ∨ ∃ u ∈ vs, n ∈ step u) : ∀ (k : Nat) (told : List α) (last : α), Told step vs told → last = told.getLast?.getD top → run fl vs k told = drun lt step beh all k told last
  | 0, _, _, _, _ => rfl
  | k + 1, told, last, hT, hl => by
    unfold run drun
    rw [next_doc ht hi hF hs hb hv hm hp hT hl]
    cases hn : dnext lt step beh all told last with
    | none => rfl
    | some n =>
      rw [← next_doc ht hi hF hs hb hv hm hp hT hl] at hn
      exact run_doc ht hi hF hs hb hv hm hp k _ n (hT.add hF hs hn) (by simp)
end Go.Proofs.Ytjcihaohpbmogaa.Gr

/- Layer 11 (lines), plain: the order by numbers: the place that the loop finds. -/
namespace Go.Proofs.Ytjcihaohpbmogaa.Oct
open Go.RowKit
set_option linter.unusedVariables false

/-- the one told last, or -1 -/
def lastOf (out : List Nat) : Int := match out.getLast? with
  | none => -1
  | some l => (l : Int)
theorem flw_any (fl : Nat → List Nat) (out : List Nat) (n : Nat) : ((fl n).any fun k => (k : Int) == lastOf out) = Gr.flw fl out n := by
  unfold lastOf Gr.flw
  cases out.getLast? with
  | none =>
    show ((fl n).any fun k => (k : Int) == -1) = false
    rw [List.any_eq_false]
    intro k _
    have : ¬ (k : Int) = -1 := by omega
    simp [this]
  | some l =>
    show ((fl n).any fun k => (k : Int) == (l : Int)) = decide (l ∈ fl n)
    rw [Bool.eq_iff_iff, List.any_eq_true, decide_eq_true_eq]
    constructor
    · rintro ⟨k, hk, he⟩
      have : (k : Int) = l := by simpa using he
      have : k = l := by omega
      rw [← this]; exact hk
    · intro h
      exact ⟨l, h, by simp⟩
theorem nxAt_is (fl : Nat → List Nat) (out : List Nat) (told : Nat → Bool) (ht : ∀ k, told k = decide (k ∈ out)) : ∀ (l : List Nat) (i : Nat) (least : Int),
    match l.find? (fun n => Gr.rdy fl out n && Gr.flw fl out n) with
    | some n => ∃ j, l[j]? = some n ∧ nxAt fl told (lastOf out) l i least = ((i + j : Nat) : Int)
    | none => if least < 0 then (match l.find? (fun n => Gr.rdy fl out n) with
        | some n => ∃ j, l[j]? = some n ∧ nxAt fl told (lastOf out) l i least = ((i + j : Nat) : Int)
        | none => nxAt fl told (lastOf out) l i least = least) else nxAt fl told (lastOf out) l i least = least
  | [], i, least => by
    simp only [List.find?_nil]
    unfold nxAt
    split <;> rfl
  | n :: l, i, least => by
    have hr : (fl n).all told = Gr.rdy fl out n := by
      unfold Gr.rdy
      exact List.all_congr rfl (fun k => ht k)
    have ih := nxAt_is fl out told ht l (i + 1)
    rw [List.find?_cons, List.find?_cons]
    unfold nxAt
    rw [hr, flw_any]
    cases h1 : Gr.rdy fl out n with
    | false =>
      simp only [Bool.false_and, Bool.false_eq_true, if_false]
      have h0 := ih least
      cases h2 : l.find? (fun n => Gr.rdy fl out n && Gr.flw fl out n) with
      | some m =>
        rw [h2] at h0
        obtain ⟨j, a, b⟩ := h0
        exact ⟨j + 1, by simpa using a, by rw [b]; congr 1; omega⟩
      | none =>
        rw [h2] at h0
        simp only at h0 ⊢
        split
        · rename_i hl
          rw [if_pos hl] at h0
          cases h3 : l.find? (fun n => Gr.rdy fl out n) with
          | some m =>
            rw [h3] at h0
            obtain ⟨j, a, b⟩ := h0
            exact ⟨j + 1, by simpa using a, by rw [b]; congr 1; omega⟩
          | none => rw [h3] at h0; exact h0
        · rename_i hl
          rw [if_neg hl] at h0
          exact h0
    | true =>
      simp only [Bool.true_and, if_true]
      cases h4 : Gr.flw fl out n with
      | true =>
        simp only [if_true]
        exact ⟨0, rfl, by simp⟩
      | false =>
        simp only [Bool.false_eq_true, if_false]
        by_cases hl : least < 0
        · rw [if_pos hl]
          have h0 := ih (i : Int)
          rw [if_neg (by omega)] at h0
          cases h2 : l.find? (fun n => Gr.rdy fl out n && Gr.flw fl out n) with
          | some m =>
            rw [h2] at h0
            obtain ⟨j, a, b⟩ := h0
            exact ⟨j + 1, by simpa using a, by rw [b]; congr 1; omega⟩
          | none =>
            rw [h2] at h0
            simp only [if_pos hl]
            exact ⟨0, rfl, by simpa using h0⟩
        · rw [if_neg hl]
          have h0 := ih least
          cases h2 : l.find? (fun n => Gr.rdy fl out n && Gr.flw fl out n) with
          | some m =>
            rw [h2] at h0
            obtain ⟨j, a, b⟩ := h0
            exact ⟨j + 1, by simpa using a, by rw [b]; congr 1; omega⟩
          | none =>
            rw [h2] at h0
            simp only [if_neg hl] at h0 ⊢
            exact h0
/-- the place found is that of the next one -/
theorem nxAt_nxt {fl : Nat → List Nat} {vs out : List Nat} {told : Nat → Bool} (ht : ∀ k, told k = decide (k ∈ out)) {n : Nat} (h : Gr.nxt fl vs out = some n) : ∃ j : Nat, (Gr.lft vs out)[j]? = some n ∧ nxAt fl told (lastOf out) (Gr.lft vs out) 0 (-1) = (j : Int) := by
  have h0 := nxAt_is fl out told ht (Gr.lft vs out) 0 (-1)
  unfold Gr.nxt at h
  cases h2 : (Gr.lft vs out).find? (fun n => Gr.rdy fl out n && Gr.flw fl out n) with
  | some m =>
    rw [h2] at h h0
    cases h
    obtain ⟨j, a, b⟩ := h0
    exact ⟨j, a, by rw [b]; congr 1; omega⟩
  | none =>
    rw [h2] at h h0
    simp only [if_pos (show (-1 : Int) < 0 by omega)] at h0
    simp only at h
    rw [h] at h0
    obtain ⟨j, a, b⟩ := h0
    exact ⟨j, a, by rw [b]; congr 1; omega⟩
theorem erase_filter : ∀ (l : List Nat) (j n : Nat), l.Nodup → l[j]? = some n → l.eraseIdx j = l.filter fun v => decide (v ≠ n)
  | [], j, n, _, h => by simp at h
  | x :: l, 0, n, hn, h => by
    simp at h; subst h
    have := (List.nodup_cons.1 hn).1
    rw [List.eraseIdx_zero, List.tail_cons, List.filter_cons, if_neg (by simp)]
    symm
    refine List.filter_eq_self.2 fun v hv => ?_
    have : v ≠ x := fun e => this (e ▸ hv)
    simpa using this
  | x :: l, j + 1, n, hn, h => by
    have hj : l[j]? = some n := by simpa using h
    have hx : x ≠ n := fun e => (List.nodup_cons.1 hn).1 (e ▸ List.mem_of_getElem? hj)
    rw [List.eraseIdx_cons_succ, List.filter_cons, if_pos (by simpa using hx), erase_filter l j n (List.nodup_cons.1 hn).2 hj]
theorem lft_erase {vs out : List Nat} (hn : vs.Nodup) {j n : Nat} (h : (Gr.lft vs out)[j]? = some n) : (Gr.lft vs out).eraseIdx j = Gr.lft vs (out ++ [n]) := by
  have hnd : (Gr.lft vs out).Nodup := hn.filter _
  rw [erase_filter _ j n hnd h]
  unfold Gr.lft
  rw [List.filter_filter]
  refine List.filter_congr fun v _ => ?_
  rw [Bool.eq_iff_iff]
  simp only [Bool.and_eq_true, decide_eq_true_eq, List.mem_append, List.mem_singleton, not_or]
  exact ⟨fun h => ⟨h.2, h.1⟩, fun h => ⟨h.2, h.1⟩⟩
/-- steps by numbers -/
def stpN (fl : Nat → List Nat) (N k : Nat) : List Nat := (List.range N).filter fun n => decide (k ∈ fl n)
theorem from_N {fl : Nat → List Nat} {N : Nat} (hl : ∀ n < N, ∀ k ∈ fl n, k < N) : Gr.From (stpN fl N) (List.range N) fl := by
  intro n hn u
  rw [List.mem_range] at hn
  unfold stpN
  rw [List.mem_filter, List.mem_range, List.mem_range, decide_eq_true_eq]
  exact ⟨fun h => ⟨hl n hn u h, hn, h⟩, fun h => h.2.2⟩
theorem stays_N (fl : Nat → List Nat) (N : Nat) : Gr.Stays (stpN fl N) (List.range N) := by
  intro k hk u h
  left
  cases h with
  | one h1 => exact (List.mem_filter.1 h1).1
  | more _ h1 => exact (List.mem_filter.1 h1).1
theorem rise_N {fl : Nat → List Nat} {N : Nat} {f : Nat → Nat} (hf : ∀ n < N, ∀ k ∈ fl n, f k < f n) : ∀ a b, b ∈ stpN fl N a → f a < f b := by
  intro a b h
  unfold stpN at h
  rw [List.mem_filter, List.mem_range, decide_eq_true_eq] at h
  exact hf b h.1 a h.2
end Go.Proofs.Ytjcihaohpbmogaa.Oct

/- Layer 11 (lines): slices.Delete of numbers as this program bears it. -/
namespace Go.Proofs.Ytjcihaohpbmogaa.Oct
open Go.Shelf
def laysDel_ren : Go.Shelf.Ren := ⟨fun | 23 => 71 | n => n, fun | 22 => 82 | 3 => 3 | 4 => 4 | 0 => 0 | n => n, fun | n => n⟩
theorem laysDel : Go.Proofs.Lays2.n23 Try.prog laysDel_ren := {
  mixed := by kernel_rfl
  f23 := Try.func71.trans (congrArg some (by kernel_rfl))
  t0 := Try.underlying0
  a0 := Try.isAgg0
  z0 := Try.sizeOf0
  v0 := Try.zeroValue0
  t3 := Try.underlying3
  a3 := Try.isAgg3
  z3 := Try.sizeOf3
  v3 := Try.zeroValue3
  t4 := Try.underlying4
  a4 := Try.isAgg4
  z4 := Try.sizeOf4
  v4 := Try.zeroValue4
  t22 := Try.underlying82
  a22 := Try.isAgg82
  z22 := Try.sizeOf82
  v22 := Try.zeroValue82
  i3 := by kernel_rfl }
end Go.Proofs.Ytjcihaohpbmogaa.Oct

/- Layer 11 (lines): rows of numbers: made, written to, cut. -/
namespace Go.Proofs.Ytjcihaohpbmogaa.Oct
open Go.RowKit Go.Shelf Go.Lib Go.Sort
set_option maxRecDepth 100000
set_option linter.unusedSimpArgs false
set_option linter.unusedVariables false
set_option linter.unusedSectionVars false

theorem ivs_len (ns : List Nat) : (ivs ns).length = ns.length := by simp [ivs]
theorem ivs_one (ns : List Nat) : ∀ u ∈ ivs ns, u.oneCell' = true := by
  intro u hu
  obtain ⟨k, _, rfl⟩ := List.mem_map.1 hu
  rfl
theorem OC.out {w : World} {B : Nat} {t : TypeId} {g n cap : Nat} {cs : List Value} (h : OC B w t (.slice (some ⟨g, 0, none⟩) n cap) n cs) : ∃ L, Blk w g t L ∧ L.take n = cs ∧ L.length = cap ∧ n ≤ cap ∧ cap ≤ maxLen ∧ B ≤ g := by
  rcases h.1.2 with ⟨h1, _⟩ | ⟨g', cap', cur, h1, h2, h3, h4, h5, h6, h7⟩
  · cases h1
  · cases h1
    exact ⟨cur.toList, by simpa [Blk] using h3, by simpa using h7, by simpa using h6, h4, h5, h2⟩
theorem OC.of {w : World} {B : Nat} {t : TypeId} {g n cap : Nat} {cs L : List Value} (hb : Blk w g t L) (ht : L.take n = cs) (hl : L.length = cap) (hn : n ≤ cap) (hm : cap ≤ maxLen) (hB : B ≤ g) (h1 : ∀ u ∈ cs, u.oneCell' = true) : OC B w t (.slice (some ⟨g, 0, none⟩) n cap) n cs :=
  ⟨⟨by rw [← ht, List.length_take]; omega, .inr ⟨g, cap, L.toArray, rfl, hB, hb, hn, hm, by simp [hl], by simpa using ht⟩⟩, h1⟩
/-- a cell of a row written -/
theorem OC.set {w w' : World} {B : Nat} {t : TypeId} {g n cap i : Nat} {cs L : List Value} {u : Value} (h : OC B w t (.slice (some ⟨g, 0, none⟩) n cap) n cs) (hL : Blk w g t L) (hb : Blk w' g t (L.set i u)) (hi : i < n) (hu : u.oneCell' = true) : OC B w' t (.slice (some ⟨g, 0, none⟩) n cap) n (cs.set i u) := by
  obtain ⟨L2, a1, a2, a3, a4, a5, a6⟩ := h.out
  have e : L2 = L := by
    have := a1.symm.trans hL
    simpa [Blk] using this
  subst e
  refine OC.of hb (by rw [← a2, List.take_set]) (by simpa using a3) a4 a5 a6 ?_
  intro x hx
  rcases List.mem_or_eq_of_mem_set hx with h1 | h1
  · exact h.2 x h1
  · rw [h1]; exact hu
section
variable {ops : Array Oper} {rest : List Oper} {o : Oper} {a : Act} {w : World} {Q : Exit → Act → World → Prop}
theorem wpList_strow (hg : o.guard = none) (ty : TypeId) (x y : Operand) (ho : o.op = .store ty x y) (hi : (Try.prog.info? ty).map (·.size) = some 1) {B : Nat} {t : TypeId} {g n cap i : Nat} {cs : List Value} {u : Value} (hu : u.oneCell' = true) (huc : u.cells = #[u]) (hx : a.eval x = .pointer (some ⟨g, i, none⟩)) (hy : a.eval y = u)
    (h : OC B w t (.slice (some ⟨g, 0, none⟩) n cap) n cs) (hin : i < n) (hK : ∀ w', OC B w' t (.slice (some ⟨g, 0, none⟩) n cap) n (cs.set i u) → w.grownBy w' (some g) → wpList Try.prog ops Q rest (a.put o.dst undef) w') : wpList Try.prog ops Q (o :: rest) a w := by
  obtain ⟨L, a1, a2, a3, a4, _, _⟩ := h.out
  refine wpList_stc hg ty x y ho hi hu huc hx hy a1 (i := i) (u := L[i]'(by omega)) (List.getElem?_eq_getElem (by omega)) ?_
  intro w' h1 h2
  exact hK w' (h.set a1 h1 hin hu) h2
theorem wpList_mkfull (hg : o.guard = none) {T e b : Nat} (h1 : One T e b) (l c : Operand) (hop : o.op = Op.makeSlice T l c) (B n : Nat) (z : Value) (hz : (Try.prog.info? e).map (·.zero) = some (some z)) (hzc : z.cells = #[z]) (hz1 : z.oneCell' = true) (hl : a.eval l = iv (n : Int)) (hc : a.eval c = iv (n : Int)) (hn : n ≤ 1000000) (hB : B ≤ w.heap.size)
    (hK : ∀ w', OC B w' e (.slice (some ⟨w.heap.size, 0, none⟩) n n) n (List.replicate n z) → Below w.heap.size w w' → wpList Try.prog ops Q rest (a.put o.dst (.slice (some ⟨w.heap.size, 0, none⟩) n n)) w') : wpList Try.prog ops Q (o :: rest) a w := by
  refine wpList_plain hg fun K' hK' => ?_
  obtain ⟨i, zr, k0, k1, k2, k3, k4⟩ := h1.inf
  have hle := h1.le
  have ez : zr = z := by
    rw [k0] at hz
    simp only [Option.map_some, Option.some.injEq, k1] at hz
    exact hz
  subst ez
  obtain ⟨w', hrun, r1, r2⟩ := run_make_full (P := Try.prog) w B T e i zr 1 h1.un k0 k1 k2 .i64 .i64 n (by
    have : i.bytes * n ≤ 64 * 1000000 := Nat.mul_le_mul (by omega) hn
    omega) (by unfold maxLen; omega) hB
  have em : (madeCells zr.cells (n * 1)).toList = List.replicate n zr := by
    rw [Nat.mul_one]
    apply List.ext_getElem?
    intro j
    by_cases hj : j < n
    · simp [madeCells, hj, hzc, List.getElem?_replicate, Nat.mod_one]
    · simp [madeCells, hj, List.getElem?_replicate]
  rw [em] at r1
  unfold Oper.wp execOp
  simp [hop, hl, hc, hrun, Result.andThen]
  refine hK' _ _ (hK w' ⟨r1, fun u hu => ?_⟩ ⟨r2.os, r2.tape, r2.output, r2.size, fun k hk => r2.block k hk (by simp)⟩)
  rw [(List.mem_replicate.1 hu).2]
  exact hz1
theorem wpList_mk0 (hg : o.guard = none) {T e b : Nat} (h1 : One T e b) (l c : Operand) (hop : o.op = Op.makeSlice T l c) (B n : Nat) (hl : a.eval l = iv 0) (hc : a.eval c = iv (n : Int)) (hn : n ≤ 1000000) (hB : B ≤ w.heap.size)
    (hK : ∀ w', OC B w' e (.slice (some ⟨w.heap.size, 0, none⟩) 0 n) 0 [] → Below w.heap.size w w' → wpList Try.prog ops Q rest (a.put o.dst (.slice (some ⟨w.heap.size, 0, none⟩) 0 n)) w') : wpList Try.prog ops Q (o :: rest) a w := by
  refine wpList_plain hg fun K' hK' => ?_
  obtain ⟨i, zr, k0, k1, k2, k3, k4⟩ := h1.inf
  have hle := h1.le
  obtain ⟨w', hrun, r1, r2⟩ := run_make_own (P := Try.prog) w B T e i zr 1 h1.un k0 k1 k2 .i64 .i64 n (by
    have : i.bytes * n ≤ 64 * 1000000 := Nat.mul_le_mul (by omega) hn
    omega) (by unfold maxLen; omega) hB
  unfold Oper.wp execOp
  simp [hop, hl, hc, hrun, Result.andThen]
  exact hK' _ _ (hK w' ⟨r1, by simp⟩ ⟨r2.os, r2.tape, r2.output, r2.size, fun k hk => r2.block k hk (by simp)⟩)
end
theorem one119 : One 119 4 1 := ⟨Try.underlying119, inf_of (by kernel_rfl), by omega⟩
theorem holds_iv {w : World} {g : Nat} {L : List Value} {ns : List Nat} (hb : Blk w g 3 L) (ht : L.take ns.length = ivs ns) : Holds (Value.int .i64) w g 0 (ns.map (fun (n : Nat) => (n : Int))).toArray := by
  intro j hj
  have hj' : j < ns.length := by simpa using hj
  have hc : L[j]? = some (iv (ns[j] : Int)) := by
    have : (ivs ns)[j]? = some (iv (ns[j] : Int)) := by simp [ivs, List.getElem?_eq_getElem hj']
    rw [← ht, List.getElem?_take_of_lt hj'] at this
    exact this
  refine ⟨?_, by rw [Nat.zero_add]; exact hb.free j⟩
  rw [Nat.zero_add, hb.cell hc, getElem!_pos _ j hj]
  simp
set_option maxHeartbeats 1000000 in
theorem del_is (w : World) (B g cap j : Nat) (ns : List Nat) (ho : OC B w 3 (.slice (some ⟨g, 0, none⟩) ns.length cap) ns.length (ivs ns)) (hj : j < ns.length) :
    Calls Try.prog 71 #[.slice (some ⟨g, 0, none⟩) ns.length cap, iv (j : Int), iv ((j : Int) + 1)] w fun e w' => e = .returned (.slice (some ⟨g, 0, none⟩) (ns.length - 1) cap) ∧ Hid (OC B w' 3 (.slice (some ⟨g, 0, none⟩) (ns.length - 1) cap) (ns.length - 1) (ivs (ns.eraseIdx j))) ∧ Hid (w.grownBy w' (some g)) := by
  obtain ⟨L, h2, h3, h4, h5, h6, h7⟩ := ho.out
  have hH := holds_iv h2 h3
  have hc := Go.Proofs.Any.slices_Delete_int laysDel g 0 cap j (j + 1) (ns.map (fun (n : Nat) => (n : Int))) w hH (by simpa using h5) (by simpa [maxLen] using h6) (by omega) (by simp; omega)
  simp only [List.length_map] at hc
  rw [show ((j + 1 : Nat) : Int) = (j : Int) + 1 by omega] at hc
  refine Calls.mono hc ?_
  rintro e w' ⟨rfl, q, rfl⟩
  have e1 : j + 1 - j = 1 := by omega
  refine ⟨by rw [e1], ?_, ?_⟩
  · have hb : Blk (putRow (Value.int .i64) (Go.Sort.ahead w q) g 0 ((ns.map (fun (n : Nat) => (n : Int))).take j ++ (ns.map (fun (n : Nat) => (n : Int))).drop (j + 1) ++ List.replicate (j + 1 - j) 0).toArray) g 3 (putCells (Value.int .i64) 0 ((ns.map (fun (n : Nat) => (n : Int))).take j ++ (ns.map (fun (n : Nat) => (n : Int))).drop (j + 1) ++ List.replicate (j + 1 - j) 0).toArray L.toArray).toList := by
      show _ = _
      simp [putRow, mapBlock, Array.getElem?_modify, show w.heap[g]? = _ from h2, onCells]
    refine OC.of hb ?_ (by simp [putCells, h4]) (by omega) h6 h7 (ivs_one _)
    have hel : (ns.eraseIdx j).length = ns.length - 1 := by rw [List.length_eraseIdx, if_pos hj]
    apply List.ext_getElem?
    intro i
    by_cases hi : i < ns.length - 1
    · have hl : i < L.length := by omega
      rw [List.getElem?_take_of_lt hi]
      have e2 : (ivs (ns.eraseIdx j))[i]? = some (iv (((ns.eraseIdx j)[i]'(by omega) : Nat) : Int)) := by simp [ivs, List.getElem?_eq_getElem (show i < (ns.eraseIdx j).length by omega)]
      rw [e2]
      have e3 : ((ns.map (fun (n : Nat) => (n : Int))).take j ++ (ns.map (fun (n : Nat) => (n : Int))).drop (j + 1))[i]? = some ((ns.eraseIdx j)[i]'(by omega) : Int) := by
        rw [← List.map_take, ← List.map_drop, ← List.map_append, ← List.eraseIdx_eq_take_drop_succ, List.getElem?_map, List.getElem?_eq_getElem (show i < (ns.eraseIdx j).length by omega)]
        rfl
      have hlen : ((ns.map (fun (n : Nat) => (n : Int))).take j ++ (ns.map (fun (n : Nat) => (n : Int))).drop (j + 1)).length = ns.length - 1 := by simp; omega
      have e4 : ((ns.map (fun (n : Nat) => (n : Int))).take j ++ (ns.map (fun (n : Nat) => (n : Int))).drop (j + 1) ++ List.replicate (j + 1 - j) 0)[i]? = some ((ns.eraseIdx j)[i]'(by omega) : Int) := by
        rw [List.getElem?_append_left (by omega)]; exact e3
      obtain ⟨D, hD⟩ : ∃ D, (ns.map (fun (n : Nat) => (n : Int))).take j ++ (ns.map (fun (n : Nat) => (n : Int))).drop (j + 1) ++ List.replicate (j + 1 - j) 0 = D := ⟨_, rfl⟩
      rw [hD] at e4 ⊢
      have hiD := (List.getElem?_eq_some_iff.1 e4).1
      have hxD := (List.getElem?_eq_some_iff.1 e4).2
      rw [Array.getElem?_toList]
      unfold putCells
      rw [Array.getElem?_mapIdx, List.getElem?_toArray, List.getElem?_eq_getElem hl]
      show some (if 0 ≤ i ∧ i < 0 + D.toArray.size then iv D.toArray[i - 0]! else L[i]) = _
      rw [if_pos ⟨Nat.zero_le _, by simpa using hiD⟩, Nat.sub_zero, getElem!_pos _ i (by simpa using hiD)]
      simp only [List.getElem_toArray, hxD]
    · rw [List.getElem?_eq_none (by simp; omega), List.getElem?_eq_none (by rw [ivs_len, hel]; omega)]
  · refine ⟨rfl, rfl, rfl, by simp, fun k hk hne => ?_⟩
    have hkg : g ≠ k := fun e => hne (by rw [e])
    simp [putRow, mapBlock, Array.getElem?_modify, hkg]
end Go.Proofs.Ytjcihaohpbmogaa.Oct
