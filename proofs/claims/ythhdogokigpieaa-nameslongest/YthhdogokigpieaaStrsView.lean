/-
  A slice of texts among a law's arguments; the reference's 'Path' and 'Covers' of any texts; what 'Longest' tells.
-/
import Derived.Test.YthhdogokigpieaaRefCovers
import Derived.Deep.Strs
import Derived.OpenShut
import Derived.ChangeOld
import Derived.SizedLaws
namespace Go.Proofs.Ythhdogokigpieaa.Oct
open Go.RowKit Go.Deep

theorem view_strs {H : Type} {enc : TypeId × Value → H} {P : Program} {w : World} {t e : TypeId} {fuel : Nat} {a : Option Addr} {len cap : Nat} {x : DataW H × List MemPlace}
    (ht : P.underlying t = some (.slice e)) (he : P.underlying e = some .string) (ce : P.cellsOf e = 1)
    (h : DataW.trod enc P w 0 (fun _ => true) true fuel t (Value.slice a len cap).cells.toList = some x) : ∃ l, Strs w a len l := by
  rcases open_strs ht he ce h with ⟨hcs, _⟩ | ⟨ad, l, c, m, Sx, hcs, _, hl, _, hmm, _, hcell⟩
  · simp [Value.cells] at hcs
    obtain ⟨rfl, rfl, rfl⟩ := hcs
    exact ⟨[], rfl, fun h => by omega⟩
  · simp [Value.cells] at hcs
    obtain ⟨rfl, rfl, rfl⟩ := hcs
    have hm : m = cap := by simpa using hmm
    refine ⟨(List.range len).map Sx, by simp, fun hp => ?_⟩
    obtain ⟨b, off, spot⟩ := ad
    have h0 := (hcell 0 (by omega)).1
    have hspot : spot = none := by simpa [Addr.add] using World.cell?_spot h0
    subst hspot
    refine ⟨b, off, rfl, ?_, fun i y hi => ?_⟩
    · have := World.block_lt_of_cell? w _ h0
      simpa [Addr.add] using this
    · have hlt : i < len := by
        have := (List.getElem?_eq_some_iff.1 hi).1
        simpa using this
      have e : Sx i = y := by simpa [List.getElem?_map, List.getElem?_range hlt] using hi
      have hc := (hcell i (by omega)).1
      rw [Addr.add_lit] at hc
      rw [hc, e]
#print axioms view_strs

theorem refPath_any (s : ByteArray) (b : Bool) (hb : isPath s.data.toList = b) (w : World) : Calls Try.prog 12 #[.string s] w fun e w' => e = .returned (.bool b) ∧ Below w.heap.size w w' := by
  by_cases h : s.size ≤ 64
  · exact refPath_b s b hb w (by omega)
  · have hp := isPath_long (s := s) (by omega)
    rw [hp] at hb
    subst hb
    obtain ⟨n, hsn⟩ : ∃ n, s.size = n := ⟨_, rfl⟩
    have q1 : (64 : Int) < n := by omega
    clear h hp
    go_enter Try.func12, Try.ntmps12
    go_wp2_with fail
    go_ret
    exact ⟨rfl, Below.refl _ _⟩

theorem refCovers_any (p s : ByteArray) (b : Bool) (hb : cov p s = b) (w : World) (hn : s.size ≤ 140737488355328) : Calls Try.prog 18 #[.string p, .string s] w fun e w' => e = .returned (.bool b) ∧ Below w.heap.size w w' := by
  by_cases h : p.size ≤ 64
  · exact refCovers_b p s b hb w (by omega) hn
  · have HPP : Hid (isPath p.data.toList = false) := isPath_long (s := p) (by omega)
    have hne : p.data.toList ≠ [] := by
      intro e
      have : p.size = 0 := by rw [size_list, e]; rfl
      omega
    have HNS : Hid (s.size ≤ 140737488355328) := hn
    rw [cov_bad HPP.out hne] at hb
    subst hb
    have f1 : (p.toList == ([] : List UInt8)) = false := by rw [toList_is]; simpa using hne
    have f2 : p.toList.isEmpty = false := by simpa using f1
    clear h hne hn
    cases hps : isPath s.data.toList with
    | false =>
      have HPS : Hid (isPath s.data.toList = false) := hps
      clear hps
      go_enter Try.func18, Try.ntmps18
      go_wp2_with (go_at_call 12; refine (refPath_b s false HPS.out _ HNS.out).mono ?_; rintro e w1 ⟨rfl, hB1⟩; have HB1 : Hid (Below w.heap.size w w1) := hB1; clear hB1)
      go_ret
      exact ⟨rfl, HB1.out⟩
    | true =>
      have HPS : Hid (isPath s.data.toList = true) := hps
      clear hps
      go_enter Try.func18, Try.ntmps18
      go_wp2_with fail
      refine (refPath_b s true HPS.out _ HNS.out).mono ?_
      rintro e w1 ⟨rfl, hB1⟩
      have HB1 : Hid (Below w.heap.size w w1) := hB1
      clear hB1
      go_wp2_with fail
      refine (refPath_any p false HPP.out _).mono ?_
      rintro e w2 ⟨rfl, hB2⟩
      have HB2 : Hid (Below w.heap.size w w2) := HB1.out.trans (hB2.mono HB1.out.size)
      clear hB2
      go_wp2_with fail
      go_ret
      exact ⟨rfl, HB2.out⟩
#print axioms refCovers_any

/-- what stands behind the place and the length that 'Longest' keeps -/
theorem lng_inv (l : List ByteArray) (s : ByteArray) : ∀ t, lngAt l s t = (-1, -1) ∨ ∃ (k : Nat) (y : ByteArray), lngAt l s t = ((k : Int), (y.size : Int)) ∧ k < t ∧ l[k]? = some y ∧ cov y s = true
  | 0 => .inl rfl
  | t + 1 => by
    have ih := lng_inv l s t
    have up : (lngAt l s (t + 1) = lngAt l s t) → lngAt l s (t + 1) = (-1, -1) ∨ ∃ (k : Nat) (y : ByteArray), lngAt l s (t + 1) = ((k : Int), (y.size : Int)) ∧ k < t + 1 ∧ l[k]? = some y ∧ cov y s = true := by
      intro e
      rw [e]
      rcases ih with ih | ⟨k, y, h1, h2, h3, h4⟩
      · exact .inl ih
      · exact .inr ⟨k, y, h1, by omega, h3, h4⟩
    cases hx : l[t]? with
    | none => exact up (by simp only [lngAt, hx])
    | some x =>
      by_cases hc : (lngAt l s t).2 < (x.size : Int) ∧ cov x s = true
      · exact .inr ⟨t, x, by simp only [lngAt, hx]; rw [if_pos hc], by omega, hx, hc.2⟩
      · exact up (by simp only [lngAt, hx]; rw [if_neg hc])
/-- no prefix that covers is longer, and none as long stands ahead -/
theorem lng_max (l : List ByteArray) (s : ByteArray) : ∀ t i x, i < t → l[i]? = some x → cov x s = true → (x.size : Int) ≤ (lngAt l s t).2 ∧ ((x.size : Int) = (lngAt l s t).2 → (lngAt l s t).1 ≤ (i : Int))
  | 0, _, _, h, _, _ => by omega
  | t + 1, i, x, h, hx, hc => by
    have ih := lng_max l s t
    cases hy : l[t]? with
    | none =>
      have hit : i < t := by
        have h1 := (List.getElem?_eq_some_iff.1 hx).1
        have h2 := List.getElem?_eq_none_iff.1 hy
        omega
      have e : lngAt l s (t + 1) = lngAt l s t := by simp only [lngAt, hy]
      rw [e]; exact ih i x hit hx hc
    | some y =>
      by_cases hcy : (lngAt l s t).2 < (y.size : Int) ∧ cov y s = true
      · have e : lngAt l s (t + 1) = ((t : Int), (y.size : Int)) := by simp only [lngAt, hy]; rw [if_pos hcy]
        rw [e]
        by_cases hit : i = t
        · subst hit
          rw [hx] at hy
          cases hy
          exact ⟨Int.le_refl _, fun _ => Int.le_refl _⟩
        · have := (ih i x (by omega) hx hc).1
          constructor
          · show (x.size : Int) ≤ (y.size : Int); omega
          · intro h'; have h2 : (x.size : Int) = (y.size : Int) := h'; omega
      · have e : lngAt l s (t + 1) = lngAt l s t := by simp only [lngAt, hy]; rw [if_neg hcy]
        rw [e]
        by_cases hit : i = t
        · subst hit
          rw [hx] at hy
          cases hy
          have hle : (x.size : Int) ≤ (lngAt l s i).2 := by
            rcases Int.lt_or_le (lngAt l s i).2 (x.size : Int) with h1 | h1
            · exact absurd ⟨h1, hc⟩ hcy
            · exact h1
          refine ⟨hle, fun _ => ?_⟩
          rcases lng_inv l s i with h1 | ⟨k, y', h1, h2, _⟩
          · rw [h1]; show (-1 : Int) ≤ (i : Int); omega
          · rw [h1]; show (k : Int) ≤ (i : Int); omega
        · exact ih i x (by omega) hx hc
#print axioms lng_max
end Go.Proofs.Ythhdogokigpieaa.Oct
