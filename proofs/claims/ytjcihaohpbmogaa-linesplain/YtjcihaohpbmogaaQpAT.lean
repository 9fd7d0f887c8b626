/-
  Layer 11 (lines): few.
  Layer 11 (lines): what changes keep, plain.
  Layer 11 (lines): what a Drop leaves, plain.
-/
import Derived.Test.YtjcihaohpbmogaaQpAP
import Derived.Test.YtjcihaohpbmogaaQpAQ
import Derived.Test.YtjcihaohpbmogaaQpBL
/- Layer 11 (lines): few. -/
namespace Go.Proofs.Ytjcihaohpbmogaa.Oct
open Go.RowKit
set_option maxRecDepth 100000
set_option linter.unusedSimpArgs false
set_option linter.unusedVariables false
set_option linter.unusedSectionVars false

def cnt (a : AV) : Nat := 1 + a.inn + a.tn
def cnts (l : List AV) : Nat := (l.map cnt).sum
theorem cnts_take {l : List AV} {i : Nat} {x : AV} (h : l[i]? = some x) : cnts (l.take (i + 1)) = cnts (l.take i) + cnt x := by
  unfold cnts
  rw [List.take_add_one, h, List.map_append, List.sum_append]
  simp
theorem cnts_le (l : List AV) (i : Nat) : cnts (l.take i) ≤ cnts l := by
  have h : cnts l = cnts (l.take i) + cnts (l.drop i) := by
    unfold cnts
    rw [← List.sum_append, ← List.map_append, List.take_append_drop]
  omega
theorem zval38 : ∃ Z : List Value, (∀ W, (zeroValue 38).run Try.prog W = .ok (.agg Z.toArray) W) ∧ Hid (Z.length = 101) := ⟨AV.cells ⟨0, vTop, vTop, none, 0, 0, [], none, 0, 0, [], z32⟩, fun W => by kernel_rfl, by rfl⟩
set_option maxHeartbeats 2000000 in
theorem few_is (w : World) (a : Option Addr) (n c : Nat) (acts : List AV) (hr : ActsR w a n acts) (hn : n ≤ 140737488355328) (B : Bool) (hB : decide (cnts acts ≤ 120) = B) : Calls Try.prog 9 #[.slice a n c] w fun e w' => e = .returned (.bool B) ∧ Below w.heap.size w w' := by
  have HS : Hid (ActsR w a n acts ∧ decide (cnts acts ≤ 120) = B) := ⟨hr, hB⟩
  have q0 : (n : Int) ≤ 140737488355328 := by omega
  obtain ⟨Z, hZ, HZ⟩ := zval38
  clear hr hB hn
  go_enter Try.func9, Try.ntmps9
  go_wp2
  go_loopw [8, 3] (fun u v wr => ∃ i : Nat, u = iv (i : Int) ∧ v = iv (cnts (acts.take i) : Int) ∧ Hid (i ≤ n ∧ Below w.heap.size w wr ∧ cnts (acts.take i) ≤ 120)) (fun u _ _ => n - (intOf u).toNat)
  case atStart => exact ⟨0, rfl, rfl, Nat.zero_le _, Below.refl _ _, by simp [cnts]⟩
  case round =>
    obtain ⟨V, hV⟩ : ∃ V, V = wr := ⟨_, rfl⟩
    subst hV
    obtain ⟨i, rfl, rfl, HI⟩ := hrel
    by_cases hi : i < n
    · obtain ⟨x, hx⟩ : ∃ x, acts[i]? = some x := ⟨_, List.getElem?_eq_getElem (by rw [HS.out.1.1]; exact hi)⟩
      have har := HS.out.1.2.1 x (List.mem_of_getElem? hx)
      have hlen := AV.len har.1.1 har.2.1.1 har.2.2.2.2.1
      have HX : Hid (i < n ∧ acts[i]? = some x ∧ x.up.ok ∧ x.dn.ok ∧ x.cells.length = 101 ∧ x.inn ≤ 140737488355328 ∧ x.tn ≤ 140737488355328) := ⟨hi, hx, har.1.1, har.2.1.1, hlen, har.2.2.2.2.2.2.2.1, har.2.2.2.2.2.2.2.2.2.2.1⟩
      obtain ⟨gb, off, rfl, hg, hel⟩ := HS.out.1.2.2 (by omega)
      have HR : Hid (V.rangeAt gb (off + i * 101) x.cells) := rangeAt_same (hel i x hx) (HI.out.2.1.block gb hg)
      have q1 : (i : Int) < (n : Int) := by omega
      clear har hlen hel hx hi hg
      go_wp2_with (first
        | (with_reducible change wpList _ _ _ ({ dst := some 11, op := _, type := _, pos := _, after := _, guard := _ } :: _) _ _
           refine wpList_load_want rfl 38 (.tmp 10) rfl gb (off + i * 101) rfl x.cells _ HR.out Try.underlying38 rfl (info38 HX.out.2.2.2.2.1) ?_)
        | (with_reducible change wpList _ _ _ ({ dst := none, op := Op.store 38 _ _, type := _, pos := _, after := _, guard := _ } :: _) _ _
           refine Hid.out ?_)
        | fail)
      show wpList _ _ _ _ _ _
      refine wpList_store_fresh rfl 38 (.tmp 5) (.tmp 11) rfl Z x.cells 38 rfl rfl (by rw [HX.out.2.2.2.2.1, HZ.out]) (info38 HX.out.2.2.2.2.1) (AV.one x) ?_
      obtain ⟨U1, hU1⟩ : ∃ W, V.alloc (.cells x.cells.toArray 38) = W := ⟨_, rfl⟩
      obtain ⟨d5, hd5⟩ : ∃ g, V.heap.size = g := ⟨_, rfl⟩
      have S1 : Hid (Below w.heap.size w U1 ∧ Blk U1 d5 38 x.cells) := by
        have hbl : Below V.heap.size V U1 := by rw [← hU1]; exact below_al _ _
        exact ⟨below_tr HI.out.2.1 hbl, by rw [← hU1, ← hd5]; exact Blk.new V _ _⟩
      rw [hU1, hd5]
      clear hU1 hd5 HR
      have hrg := AV.ranges S1.out.2 HX.out.2.2.1 HX.out.2.2.2.1
      have c67 : U1.cell? ⟨d5, 67, none⟩ = some (.slice x.ia x.inn x.ic) := hrg.2.2.2.1
      have c68 : U1.cell? ⟨d5, 68, none⟩ = some (.slice x.ta x.tn x.tc) := hrg.2.2.2.2.1
      obtain ⟨s, hs⟩ : ∃ s, cnts (acts.take i) = s := ⟨_, rfl⟩
      have HSS : Hid (cnts (acts.take (i + 1)) = s + cnt x ∧ s ≤ 120) := ⟨by rw [cnts_take HX.out.2.1, hs], by rw [← hs]; exact HI.out.2.2⟩
      have HSI := hid_of hs
      rw [hs]
      have q2 : (s : Int) ≤ 120 := by have := HSS.out.2; omega
      have q3 : (x.inn : Int) ≤ 140737488355328 := by have := HX.out.2.2.2.2.2.1; omega
      have q4 : (x.tn : Int) ≤ 140737488355328 := by have := HX.out.2.2.2.2.2.2; omega
      clear hrg hs
      by_cases hc : s + cnt x ≤ 120
      · have q5 : ¬ (120 : Int) < (s : Int) + (1 + (x.inn : Int) + (x.tn : Int)) := by unfold cnt at hc; omega
        have HN : Hid (i + 1 ≤ n ∧ Below w.heap.size w U1 ∧ cnts (acts.take (i + 1)) ≤ 120) := ⟨HX.out.1, S1.out.1, by rw [HSS.out.1]; exact hc⟩
        have HV : Hid ((cnts (acts.take (i + 1)) : Int) = (s : Int) + (1 + (x.inn : Int) + (x.tn : Int))) := by
          show _ = _
          rw [HSS.out.1]
          unfold cnt
          omega
        clear hc
        go_wp2
        refine ⟨⟨i + 1, by simp, ?_, HN.out⟩, ?_⟩
        · rw [HV.out]
        · have := HX.out.1; simp [intOf]; omega
      · have q5 : (120 : Int) < (s : Int) + (1 + (x.inn : Int) + (x.tn : Int)) := by unfold cnt at hc; omega
        have HF : Hid (B = false) := by
          show _ = _
          rw [← HS.out.2]
          have h1 := cnts_le acts (i + 1)
          rw [HSS.out.1] at h1
          exact decide_eq_false (by omega)
        clear hc
        go_wp2
        go_ret
        exact ⟨by rw [HF.out]; rfl, S1.out.1⟩
    · have q1 : ¬ (i : Int) < (n : Int) := by omega
      obtain rfl : i = n := by have := HI.out.1; omega
      have HF : Hid (B = true) := by
        show _ = _
        rw [← HS.out.2]
        have h1 := HI.out.2.2
        rw [List.take_of_length_le (by rw [HS.out.1.1]; exact Nat.le_refl _)] at h1
        exact decide_eq_true h1
      have HE := hid_of HI.out.2.1
      clear HI hi
      go_wp2
      go_ret
      exact ⟨by rw [HF.out]; rfl, HE.out⟩
end Go.Proofs.Ytjcihaohpbmogaa.Oct

/- Layer 11 (lines): what changes keep, plain. -/
namespace Go.Proofs.Ytjcihaohpbmogaa.Oct
open Go.RowKit
set_option maxRecDepth 100000
set_option linter.unusedSimpArgs false
set_option linter.unusedVariables false
set_option linter.unusedSectionVars false

/-- each line's from is not empty -/
def neP (ps : List PL) : Prop := ∀ q ∈ ps, q.fr ≠ []
/-- no from is longer than k -/
def lnP (k : Nat) (ps : List PL) : Prop := ∀ q ∈ ps, q.fr.length ≤ k
theorem range_getD (ids : List Vx) : (List.range ids.length).map (fun i => ids.getD i vTop) = ids := by
  apply List.ext_getElem?
  intro i
  by_cases hi : i < ids.length
  · rw [List.getElem?_map, List.getElem?_range hi, List.getElem?_eq_getElem hi]
    simp [List.getD_eq_getElem?_getD, List.getElem?_eq_getElem hi]
  · rw [List.getElem?_eq_none (by simpa using hi), List.getElem?_eq_none (by simpa using hi)]
theorem add_keys (ps : List PL) (up dn : Vx) (ids : List Vx) (ts : List BA) : keysP (addP ps up dn ids ts) = keysP ps ++ ids := by
  have h : ∀ q : PL, (if q.v = dn then { q with fr := q.fr ++ [abv up ids ids.length] } else q).v = q.v := fun q => by split <;> rfl
  unfold keysP addP
  rw [List.map_map, List.map_append]
  have e1 : ps.map ((fun q : PL => q.v) ∘ fun q => if q.v = dn then { q with fr := q.fr ++ [abv up ids ids.length] } else q) = ps.map (·.v) := List.map_congr_left fun q _ => h q
  rw [e1, List.map_map]
  congr 1
  refine Eq.trans (List.map_congr_left fun i _ => ?_) (range_getD ids)
  exact h _
theorem turn_keys (f : List Hs → List Hs) (ps : List PL) (v : Vx) : keysP (turnP f ps v) = keysP ps := by
  unfold keysP turnP
  rw [List.map_map]
  refine List.map_congr_left fun q _ => ?_
  show (if q.v = v then { q with kills := f q.kills } else q).v = q.v
  split <;> rfl
theorem turn_mem {f : List Hs → List Hs} {ps : List PL} {v : Vx} {q : PL} (h : q ∈ turnP f ps v) : ∃ q0 ∈ ps, q.v = q0.v ∧ q.fr = q0.fr ∧ q.down = q0.down ∧ q.t = q0.t := by
  unfold turnP at h
  obtain ⟨q0, h0, rfl⟩ := List.mem_map.1 h
  refine ⟨q0, h0, ?_⟩
  split <;> exact ⟨rfl, rfl, rfl, rfl⟩
theorem turn_tied {f : List Hs → List Hs} {ps : List PL} {v : Vx} (h : tiedP ps) : tiedP (turnP f ps v) := by
  refine ⟨by rw [turn_keys]; exact h.1, fun q hq u hu => ?_⟩
  obtain ⟨q0, h0, _, e, _⟩ := turn_mem hq
  rw [turn_keys]
  exact h.2 q0 h0 u (by rw [← e]; exact hu)
theorem turn_ne {f : List Hs → List Hs} {ps : List PL} {v : Vx} (h : neP ps) : neP (turnP f ps v) := fun q hq => by
  obtain ⟨q0, h0, _, e, _⟩ := turn_mem hq
  rw [e]
  exact h q0 h0
theorem turn_ln {f : List Hs → List Hs} {ps : List PL} {v : Vx} {k : Nat} (h : lnP k ps) : lnP k (turnP f ps v) := fun q hq => by
  obtain ⟨q0, h0, _, e, _⟩ := turn_mem hq
  rw [e]
  exact h q0 h0
theorem turn_acy {f : List Hs → List Hs} {ps : List PL} {v : Vx} {F : Vx → Nat} (h : acyP ps F) : acyP (turnP f ps v) F := fun q hq u hu hk => by
  obtain ⟨q0, h0, e1, e, _⟩ := turn_mem hq
  rw [turn_keys] at hk
  rw [e1]
  exact h q0 h0 u (by rw [← e]; exact hu) hk
theorem add_mem {ps : List PL} {up dn : Vx} {ids : List Vx} {ts : List BA} {q : PL} (h : q ∈ addP ps up dn ids ts) : ∃ q0, (q0 ∈ ps ∨ ∃ i < ids.length, q0 = newP up dn ids ts i) ∧ q.v = q0.v ∧ (q.fr = q0.fr ∨ (q0.v = dn ∧ q.fr = q0.fr ++ [abv up ids ids.length])) := by
  unfold addP at h
  obtain ⟨q0, h0, rfl⟩ := List.mem_map.1 h
  refine ⟨q0, ?_, ?_⟩
  · rcases List.mem_append.1 h0 with h1 | h1
    · exact .inl h1
    · obtain ⟨i, hi, rfl⟩ := List.mem_map.1 h1
      exact .inr ⟨i, List.mem_range.1 hi, rfl⟩
  · by_cases hd : q0.v = dn
    · rw [if_pos hd]
      exact ⟨rfl, .inr ⟨hd, rfl⟩⟩
    · rw [if_neg hd]
      exact ⟨rfl, .inl rfl⟩
theorem abv_in {up : Vx} {ids : List Vx} {i : Nat} (hi : i ≤ ids.length) : abv up ids i = up ∨ abv up ids i ∈ ids := by
  cases i with
  | zero => exact .inl rfl
  | succ i =>
    refine .inr ?_
    show ids.getD i vTop ∈ ids
    rw [List.getD_eq_getElem?_getD, List.getElem?_eq_getElem (by omega)]
    exact List.getElem_mem _
theorem add_ne {ps : List PL} {up dn : Vx} {ids : List Vx} {ts : List BA} (h : neP ps) : neP (addP ps up dn ids ts) := fun q hq => by
  obtain ⟨q0, h0, _, e⟩ := add_mem hq
  have h1 : q0.fr ≠ [] := by
    rcases h0 with h0 | ⟨i, _, rfl⟩
    · exact h q0 h0
    · simp [newP]
  rcases e with e | ⟨_, e⟩
  · rw [e]; exact h1
  · rw [e]; simp
theorem add_ln {ps : List PL} {up dn : Vx} {ids : List Vx} {ts : List BA} {k : Nat} (h : lnP k ps) (hk : 1 ≤ k) : lnP (k + 1) (addP ps up dn ids ts) := fun q hq => by
  obtain ⟨q0, h0, _, e⟩ := add_mem hq
  have h1 : q0.fr.length ≤ k := by
    rcases h0 with h0 | ⟨i, _, rfl⟩
    · exact h q0 h0
    · simpa [newP] using hk
  rcases e with e | ⟨_, e⟩
  · rw [e]; omega
  · rw [e]; simp; omega
theorem add_tied {ps : List PL} {up dn : Vx} {ids : List Vx} {ts : List BA} (h : tiedP ps) (hu : up = vTop ∨ up ∈ keysP ps) (hi : vTop ∉ ids) : tiedP (addP ps up dn ids ts) := by
  refine ⟨by rw [add_keys]; simp [h.1, hi], fun q hq u hu2 => ?_⟩
  rw [add_keys]
  obtain ⟨q0, h0, _, e⟩ := add_mem hq
  have ha : ∀ i ≤ ids.length, abv up ids i = vTop ∨ abv up ids i ∈ keysP ps ++ ids := fun i hi => by
    rcases abv_in (up := up) hi with e | e
    · rw [e]
      exact hu.imp id (fun h => List.mem_append.2 (.inl h))
    · exact .inr (List.mem_append.2 (.inr e))
  have h1 : ∀ u ∈ q0.fr, u = vTop ∨ u ∈ keysP ps ++ ids := fun u hu3 => by
    rcases h0 with h0 | ⟨i, hi, rfl⟩
    · exact (h.2 q0 h0 u hu3).imp id (fun h => List.mem_append.2 (.inl h))
    · simp only [newP, List.mem_singleton] at hu3
      rw [hu3]
      exact ha i (by omega)
  rcases e with e | ⟨_, e⟩
  · exact h1 u (by rw [← e]; exact hu2)
  · rw [e] at hu2
    rcases List.mem_append.1 hu2 with h2 | h2
    · exact h1 u h2
    · rw [List.mem_singleton.1 h2]
      exact ha _ (Nat.le_refl _)
end Go.Proofs.Ytjcihaohpbmogaa.Oct

/- Layer 11 (lines): what a Drop leaves, plain. -/
namespace Go.Proofs.Ytjcihaohpbmogaa.Oct
open Go.RowKit
set_option maxRecDepth 100000
set_option linter.unusedSimpArgs false
set_option linter.unusedVariables false
set_option linter.unusedSectionVars false

theorem getP_some {ps : List PL} {v : Vx} {q : PL} (h : getP ps v = some q) : q ∈ ps ∧ q.v = v := by
  unfold getP at h
  exact ⟨List.mem_of_find?_eq_some h, by simpa using List.find?_some h⟩
theorem getP_none {ps : List PL} {v : Vx} (h : getP ps v = none) : v ∉ keysP ps := by
  unfold getP at h
  intro hm
  obtain ⟨q, hq, e⟩ := List.mem_map.1 hm
  have := List.find?_eq_none.1 h q hq
  simp [e] at this
theorem getP_of {ps : List PL} (hn : (keysP ps).Nodup) {q : PL} (hq : q ∈ ps) : getP ps q.v = some q := by
  induction ps with
  | nil => cases hq
  | cons x ps ih =>
    unfold getP
    rw [List.find?_cons]
    unfold keysP at hn
    rw [List.map_cons, List.nodup_cons] at hn
    rcases List.mem_cons.1 hq with rfl | h
    · simp
    · have hne : x.v ≠ q.v := fun e => hn.1 (by rw [e]; exact List.mem_map.2 ⟨q, h, rfl⟩)
      have hb : (x.v == q.v) = false := by simpa using hne
      rw [hb]
      exact ih hn.2 h
theorem getP_mem {ps : List PL} {v : Vx} (h : v ∈ keysP ps) : ∃ q, getP ps v = some q := by
  cases e : getP ps v with
  | some q => exact ⟨q, rfl⟩
  | none => exact absurd h (getP_none e)
/-- what the addition of u leads to -/
def dwn (ps : List PL) (u : Vx) : Option Vx := (getP ps u).map (·.down)
def cutF (ps : List PL) (D : List Vx) (q : PL) : PL := { q with fr := q.fr.filter fun u => !(decide (u ∈ D) && decide (dwn ps u = some q.v)) }
/-- what is left when the lines D went one by one -/
def cutP (ps : List PL) (D : List Vx) : List PL := (ps.filter fun q => decide (q.v ∉ D)).map (cutF ps D)
theorem cutP_nil (ps : List PL) : cutP ps [] = ps := by
  unfold cutP
  have e1 : (ps.filter fun q => decide (q.v ∉ ([] : List Vx))) = ps := by
    rw [List.filter_eq_self]
    simp
  rw [e1]
  have e2 : ∀ q ∈ ps, cutF ps [] q = q := fun q _ => by
    unfold cutF
    have : q.fr.filter (fun u => !(decide (u ∈ ([] : List Vx)) && decide (dwn ps u = some q.v))) = q.fr := by
      rw [List.filter_eq_self]
      simp
    rw [this]
  rw [List.map_congr_left e2]
  exact List.map_id' ps
theorem cutP_keys (ps : List PL) (D : List Vx) : keysP (cutP ps D) = (keysP ps).filter fun v => decide (v ∉ D) := by
  unfold keysP cutP
  rw [List.map_map, List.filter_map]
  rfl
theorem cutP_get {ps : List PL} (hn : (keysP ps).Nodup) {D : List Vx} {q : PL} (hq : q ∈ ps) (hD : q.v ∉ D) : getP (cutP ps D) q.v = some (cutF ps D q) := by
  have hm : cutF ps D q ∈ cutP ps D := List.mem_map.2 ⟨q, List.mem_filter.2 ⟨hq, by simpa using hD⟩, rfl⟩
  have h2 : (keysP (cutP ps D)).Nodup := by rw [cutP_keys]; exact hn.filter _
  exact getP_of h2 hm
theorem eqVx_dec (x y : Vx) : eqVx x y = decide (x = y) := by
  cases h : eqVx x y with
  | true => rw [(eqVx_iff x y).1 h]; simp
  | false => simp [eqVx_no h]
theorem drop1_cut {ps : List PL} (hn : (keysP ps).Nodup) {D : List Vx} {id : Vx} (hi : id ∈ keysP ps) (hD : id ∉ D) : drop1 (cutP ps D) id = cutP ps (D ++ [id]) := by
  obtain ⟨q, hq⟩ := getP_mem hi
  obtain ⟨hm, hv⟩ := getP_some hq
  have hg : getP (cutP ps D) id = some (cutF ps D q) := by
    rw [← hv]
    exact cutP_get hn hm (by rw [hv]; exact hD)
  unfold drop1
  rw [hg]
  have hdw : dwn ps id = some q.down := by unfold dwn; rw [hq]; rfl
  show (leaveP (cutP ps D) q.down id).filter (fun x => decide (x.v ≠ id)) = _
  unfold leaveP
  rw [List.filter_map]
  have e1 : ((cutP ps D).filter ((fun x : PL => decide (x.v ≠ id)) ∘ fun q1 : PL => if q1.v = q.down then { q1 with fr := q1.fr.filter fun x => !eqVx x id } else q1)) = (cutP ps D).filter fun x => decide (x.v ≠ id) := by
    refine List.filter_congr fun x _ => ?_
    show decide ((if x.v = q.down then { x with fr := x.fr.filter fun x => !eqVx x id } else x).v ≠ id) = _
    split <;> rfl
  rw [e1]
  unfold cutP
  rw [List.filter_map, List.filter_filter, List.map_map]
  have e2 : (ps.filter fun a => ((fun x : PL => decide (x.v ≠ id)) ∘ cutF ps D) a && decide (a.v ∉ D)) = ps.filter fun q => decide (q.v ∉ D ++ [id]) := by
    refine List.filter_congr fun x _ => ?_
    show (decide (x.v ≠ id) && decide (x.v ∉ D)) = _
    by_cases h1 : x.v = id <;> by_cases h2 : x.v ∈ D <;> simp [h1, h2]
  rw [e2]
  refine List.map_congr_left fun x _ => ?_
  show (if x.v = q.down then { cutF ps D x with fr := (cutF ps D x).fr.filter fun y => !eqVx y id } else cutF ps D x) = cutF ps (D ++ [id]) x
  have e3 : (if x.v = q.down then (cutF ps D x).fr.filter (fun y => !eqVx y id) else (cutF ps D x).fr) = (cutF ps (D ++ [id]) x).fr := by
    show (if x.v = q.down then (x.fr.filter fun u => !(decide (u ∈ D) && decide (dwn ps u = some x.v))).filter (fun y => !eqVx y id) else (x.fr.filter fun u => !(decide (u ∈ D) && decide (dwn ps u = some x.v)))) = x.fr.filter fun u => !(decide (u ∈ D ++ [id]) && decide (dwn ps u = some x.v))
    split
    · rename_i hx
      rw [List.filter_filter]
      refine List.filter_congr fun u _ => ?_
      rw [eqVx_dec]
      by_cases h1 : u = id
      · subst h1
        simp [hdw, hx]
      · simp [h1]
    · rename_i hx
      refine List.filter_congr fun u _ => ?_
      by_cases h1 : u = id
      · subst h1
        have : ¬ q.down = x.v := fun e => hx e.symm
        simp [hdw, this]
      · simp [h1]
  by_cases hx : x.v = q.down
  · rw [if_pos hx] at e3 ⊢
    rw [e3]
    rfl
  · rw [if_neg hx] at e3 ⊢
    show ({ x with fr := (cutF ps D x).fr } : PL) = { x with fr := (cutF ps (D ++ [id]) x).fr }
    rw [e3]
theorem drop_cut {ps : List PL} (hn : (keysP ps).Nodup) : ∀ (l D : List Vx), (∀ v ∈ l, v ∈ keysP ps) → (D ++ l).Nodup → l.foldl drop1 (cutP ps D) = cutP ps (D ++ l)
  | [], D, _, _ => by rw [List.append_nil]; rfl
  | id :: l, D, hk, hd => by
    rw [List.foldl_cons, drop1_cut hn (hk id (by simp)) (fun h => by
      rw [List.nodup_append] at hd
      exact hd.2.2 id h id (by simp) rfl)]
    have e : D ++ id :: l = (D ++ [id]) ++ l := by simp
    rw [e]
    exact drop_cut hn l (D ++ [id]) (fun v hv => hk v (by simp [hv])) (by rw [← e]; exact hd)
theorem dropP_cut {ps : List PL} (hn : (keysP ps).Nodup) {ids : List Vx} (hk : ∀ v ∈ ids, v ∈ keysP ps) (hd : ids.Nodup) : dropP ps ids = cutP ps ids := by
  have := drop_cut hn ids [] hk (by simpa using hd)
  rw [cutP_nil] at this
  exact this
theorem mayBe_iff (ids : List Vx) : mayBe ids = true ↔ ids ≠ [] ∧ ids.Nodup ∧ ∀ v ∈ ids, isE v = false := by
  unfold mayBe
  rw [Bool.and_eq_true, Bool.and_eq_true, decide_eq_true_eq, decide_eq_true_eq, idSet_full]
  constructor
  · rintro ⟨⟨h1, h2⟩, h3⟩
    refine ⟨fun e => by rw [e] at h1; simp at h1, h2, fun v hv => ?_⟩
    cases he : isE v with
    | false => rfl
    | true =>
      have : ids.any isE = true := List.any_eq_true.2 ⟨v, hv, he⟩
      rw [this] at h3
      cases h3
  · rintro ⟨h1, h2, h3⟩
    refine ⟨⟨List.length_pos_iff.2 h1, h2⟩, ?_⟩
    cases he : ids.any isE with
    | false => rfl
    | true =>
      obtain ⟨v, hv, hx⟩ := List.any_eq_true.1 he
      rw [h3 v hv] at hx
      cases hx
/-- what every change keeps -/
structure Iv (k : Nat) (ps : List PL) : Prop where
  nd : (keysP ps).Nodup
  ends : ∀ v ∈ keysP ps, isE v = false
  tied : ∀ q ∈ ps, ∀ u ∈ q.fr, u = vTop ∨ u ∈ keysP ps
  ne : neP ps
  ln : lnP k ps
  acy : ∃ F, acyP ps F
  tail : ∀ q ∈ ps, ∀ u ∈ q.fr.tail, ∃ y ∈ ps, y.v = u ∧ y.down = q.v
  dn : ∀ q ∈ ps, isE q.down = true ∨ q.down ∈ keysP ps
theorem isE_top : isE vTop = true := by unfold isE; rw [(eqVx_iff vTop vTop).2 rfl]; rfl
theorem isE_bot : isE vBot = true := by unfold isE; rw [(eqVx_iff vBot vBot).2 rfl, Bool.or_true]
theorem isE_iff (v : Vx) : isE v = true ↔ v = vTop ∨ v = vBot := by
  unfold isE
  rw [Bool.or_eq_true, eqVx_iff, eqVx_iff]
theorem Iv.top {k : Nat} {ps : List PL} (h : Iv k ps) : vTop ∉ keysP ps := fun hm => by
  have := h.ends _ hm
  rw [isE_top] at this
  cases this
theorem Iv.bot {k : Nat} {ps : List PL} (h : Iv k ps) : vBot ∉ keysP ps := fun hm => by
  have := h.ends _ hm
  rw [isE_bot] at this
  cases this
theorem Iv.tiedP {k : Nat} {ps : List PL} (h : Iv k ps) : tiedP ps := ⟨h.top, h.tied⟩
theorem Iv.more {k m : Nat} {ps : List PL} (h : Iv k ps) (hk : k ≤ m) : Iv m ps := { h with ln := fun q hq => Nat.le_trans (h.ln q hq) hk }
theorem Iv.none : Iv 1 [] := ⟨by simp [keysP], by simp [keysP], by simp, by simp [neP], by simp [lnP], ⟨fun _ => 0, by simp [acyP]⟩, by simp, by simp⟩
theorem turn_back {f : List Hs → List Hs} {ps : List PL} {v : Vx} {q : PL} (h : q ∈ ps) : ∃ q' ∈ turnP f ps v, q'.v = q.v ∧ q'.fr = q.fr ∧ q'.down = q.down := by
  refine ⟨_, List.mem_map.2 ⟨q, h, rfl⟩, ?_⟩
  split <;> exact ⟨rfl, rfl, rfl⟩
theorem Iv.turn {k : Nat} {ps : List PL} (h : Iv k ps) (f : List Hs → List Hs) (v : Vx) : Iv k (turnP f ps v) := by
  obtain ⟨F, hF⟩ := h.acy
  refine ⟨by rw [turn_keys]; exact h.nd, by rw [turn_keys]; exact h.ends, (turn_tied h.tiedP).2, turn_ne h.ne, turn_ln h.ln, ⟨F, turn_acy hF⟩, fun q hq u hu => ?_, fun q hq => ?_⟩
  · obtain ⟨q0, h0, e1, e2, _⟩ := turn_mem hq
    obtain ⟨y, hy, e3, e4⟩ := h.tail q0 h0 u (by rw [← e2]; exact hu)
    obtain ⟨y', hy', f1, _, f3⟩ := turn_back (f := f) (v := v) hy
    exact ⟨y', hy', by rw [f1, e3], by rw [f3, e4, e1]⟩
  · obtain ⟨q0, h0, _, _, e3, _⟩ := turn_mem hq
    rw [e3, turn_keys]
    exact h.dn q0 h0
/-- what is left when the lines of whole additions went -/
def gonP (ps : List PL) (D : List Vx) : List PL := (ps.filter fun q => decide (q.v ∉ D)).map fun q => { q with fr := q.fr.filter fun u => decide (u ∉ D) }
theorem need_no {ps : List PL} {S : List Vx} (h : needP ps S = false) {q : PL} (hq : q ∈ ps) (hv : q.v ∉ S) : q.fr.headD vTop ∉ S ∧ q.down ∉ S := by
  unfold needP at h
  have : needQ S q = false := by
    cases e : needQ S q with
    | false => rfl
    | true =>
      have : ps.any (needQ S) = true := List.any_eq_true.2 ⟨q, hq, e⟩
      rw [this] at h
      cases h
  unfold needQ at this
  have h2 : (!decide (q.v ∈ S)) = true := by simp [hv]
  rw [h2, Bool.true_and, Bool.or_eq_false_iff] at this
  exact ⟨of_decide_eq_false this.1, of_decide_eq_false this.2⟩
theorem cut_gon {k : Nat} {ps : List PL} (h : Iv k ps) {D : List Vx} (hne : needP ps D = false) : cutP ps D = gonP ps D := by
  unfold cutP gonP
  refine List.map_congr_left fun q hq => ?_
  obtain ⟨hm, hD⟩ := List.mem_filter.1 hq
  have hD : q.v ∉ D := by simpa using hD
  unfold cutF
  have e : (q.fr.filter fun u => !(decide (u ∈ D) && decide (dwn ps u = some q.v))) = q.fr.filter fun u => decide (u ∉ D) := by
    refine List.filter_congr fun u hu => ?_
    by_cases h1 : u ∈ D
    · have hh := (need_no hne hm hD).1
      cases hf : q.fr with
      | nil => rw [hf] at hu; cases hu
      | cons x l =>
        rw [hf] at hu hh
        rcases List.mem_cons.1 hu with e | ht
        · exact absurd (by rw [← e]; exact h1) hh
        · obtain ⟨y, hy, e1, e2⟩ := h.tail q hm u (by rw [hf]; exact ht)
          have hd : dwn ps u = some q.v := by
            unfold dwn
            rw [← e1, getP_of h.nd hy, ← e2]
            rfl
          simp [h1, hd]
    · simp [h1]
  rw [e]
theorem gon_keys (ps : List PL) (D : List Vx) : keysP (gonP ps D) = (keysP ps).filter fun v => decide (v ∉ D) := by
  unfold keysP gonP
  rw [List.map_map, List.filter_map]
  rfl
theorem Iv.gon {k : Nat} {ps : List PL} (h : Iv k ps) {D : List Vx} (hne : needP ps D = false) : Iv k (gonP ps D) := by
  obtain ⟨F, hF⟩ := h.acy
  have hmem : ∀ q ∈ gonP ps D, ∃ q0 ∈ ps, q0.v ∉ D ∧ q.v = q0.v ∧ q.down = q0.down ∧ q.fr = q0.fr.filter fun u => decide (u ∉ D) := fun q hq => by
    obtain ⟨q0, h0, rfl⟩ := List.mem_map.1 hq
    obtain ⟨h1, h2⟩ := List.mem_filter.1 h0
    exact ⟨q0, h1, by simpa using h2, rfl, rfl, rfl⟩
  have hk : ∀ v, v ∈ keysP (gonP ps D) ↔ v ∈ keysP ps ∧ v ∉ D := fun v => by rw [gon_keys, List.mem_filter]; simp
  refine ⟨by rw [gon_keys]; exact h.nd.filter _, fun v hv => h.ends v ((hk v).1 hv).1, ?_, ?_, ?_, ⟨F, ?_⟩, ?_, ?_⟩
  · intro q hq u hu
    obtain ⟨q0, h0, _, _, _, e⟩ := hmem q hq
    rw [e, List.mem_filter] at hu
    exact (h.tied q0 h0 u hu.1).imp id fun hx => (hk u).2 ⟨hx, by simpa using hu.2⟩
  · intro q hq
    obtain ⟨q0, h0, hD, _, _, e⟩ := hmem q hq
    have hh := (need_no hne h0 hD).1
    rw [e]
    cases hf : q0.fr with
    | nil => exact absurd hf (h.ne q0 h0)
    | cons x l =>
      rw [hf] at hh
      have : x ∉ D := hh
      rw [List.filter_cons_of_pos (by simpa using this)]
      simp
  · intro q hq
    obtain ⟨q0, h0, _, _, _, e⟩ := hmem q hq
    rw [e]
    exact Nat.le_trans (List.length_filter_le _ _) (h.ln q0 h0)
  · intro q hq u hu hx
    obtain ⟨q0, h0, _, ev, _, e⟩ := hmem q hq
    rw [e, List.mem_filter] at hu
    rw [ev]
    exact hF q0 h0 u hu.1 ((hk u).1 hx).1
  · intro q hq u hu
    obtain ⟨q0, h0, hD, ev, _, e⟩ := hmem q hq
    have hh := (need_no hne h0 hD).1
    rw [e] at hu
    cases hf : q0.fr with
    | nil => exact absurd hf (h.ne q0 h0)
    | cons x l =>
      rw [hf] at hh hu
      have hx : x ∉ D := hh
      rw [List.filter_cons_of_pos (by simpa using hx), List.tail_cons, List.mem_filter] at hu
      obtain ⟨y, hy, e1, e2⟩ := h.tail q0 h0 u (by rw [hf]; exact hu.1)
      refine ⟨{ y with fr := y.fr.filter fun u => decide (u ∉ D) }, List.mem_map.2 ⟨y, List.mem_filter.2 ⟨hy, by rw [e1]; exact hu.2⟩, rfl⟩, e1, ?_⟩
      rw [ev]
      exact e2
  · intro q hq
    obtain ⟨q0, h0, hD, _, ed, _⟩ := hmem q hq
    rw [ed]
    exact (h.dn q0 h0).imp id fun hx => (hk _).2 ⟨hx, (need_no hne h0 hD).2⟩
/-- needP asks only who is a member -/
theorem need_same (ps : List PL) {S T : List Vx} (h : ∀ x, x ∈ S ↔ x ∈ T) : needP ps S = needP ps T := by
  unfold needP
  congr 1
  funext q
  unfold needQ
  simp [h]
theorem need_set (ps : List PL) (ids : List Vx) : needP ps (idSet ids) = needP ps ids := need_same ps (idSet_mem ids)
theorem dropE_zero {ps : List PL} {ids : List Vx} (h : dropE ps ids = 0) : mayBe ids = true ∧ (∀ v ∈ ids, v ∈ keysP ps) ∧ needP ps ids = false := by
  unfold dropE at h
  by_cases h1 : mayBe ids = false
  · rw [if_pos h1] at h; cases h
  rw [if_neg h1] at h
  by_cases h2 : (ids.all fun v => decide (v ∈ keysP ps)) = false
  · rw [if_pos h2] at h; cases h
  rw [if_neg h2] at h
  by_cases h3 : needP ps (idSet ids) = true
  · rw [if_pos h3] at h; cases h
  rw [need_set] at h3
  refine ⟨by simpa using h1, ?_, by simpa using h3⟩
  have h2 : (ids.all fun v => decide (v ∈ keysP ps)) = true := by simpa using h2
  rw [List.all_eq_true] at h2
  exact fun v hv => by simpa using h2 v hv
theorem dropP_gon {k : Nat} {ps : List PL} (h : Iv k ps) {ids : List Vx} (hE : dropE ps ids = 0) : dropP ps ids = gonP ps ids := by
  obtain ⟨h1, h2, h3⟩ := dropE_zero hE
  rw [dropP_cut h.nd h2 ((mayBe_iff ids).1 h1).2.1, cut_gon h h3]
theorem Iv.drop {k : Nat} {ps : List PL} (h : Iv k ps) {ids : List Vx} (hE : dropE ps ids = 0) : Iv k (dropP ps ids) := by
  rw [dropP_gon h hE]
  exact h.gon (dropE_zero hE).2.2
end Go.Proofs.Ytjcihaohpbmogaa.Oct
