/-
  A slice of texts among a law's arguments; the reference's 'Path' and 'Covers' of any texts; what 'Longest' tells.
-/
import Derived.Test.YtngkajeghmogmaaRefCovers
import Derived.Deep.Strs
import Derived.OpenShut
import Derived.ChangeOld
import Derived.SizedLaws
namespace Go.Proofs.Ytngkajeghmogmaa.Oct
open Go.RowKit Go.Deep

theorem view_strs {H : Type} {enc : TypeId × Value → H} {P : Program} {w : World} {t e : TypeId} {fuel : Nat} {a : Option Addr} {len cap : Nat} {x : DataW H × List MemPlace}
    (ht : P.underlying t = some (.slice e)) (he : P.underlying e = some .string) (ce : P.cellsOf e = 1)
    (h : DataW.trod enc P w 0 (fun _ => true) true fuel t (Value.slice a len cap).cells.toList = some x) : ∃ l, Strs w a len l := by
  rcases open_strs ht he ce h with ⟨hcs, _⟩ | ⟨ad, l, c, m, Sx, hcs, _, hl, _, hmm, _, hcell⟩
  · simp [Value.cells] at hcs
    obtain ⟨rfl, rfl, rfl⟩ := hcs
    exact ⟨[], rfl, fun h => by omega⟩
  · simp [Value.cells] at hcs
    obtain ⟨rfl, rfl, rfl⟩ := hcs
    have hm : m = cap := by simpa using hmm
    refine ⟨(List.range len).map Sx, by simp, fun hp => ?_⟩
    obtain ⟨b, off, spot⟩ := ad
    have h0 := (hcell 0 (by omega)).1
    have hspot : spot = none := by simpa [Addr.add] using World.cell?_spot h0
    subst hspot
    refine ⟨b, off, rfl, ?_, fun i y hi => ?_⟩
    · have := World.block_lt_of_cell? w _ h0
      simpa [Addr.add] using this
    · have hlt : i < len := by
        have := (List.getElem?_eq_some_iff.1 hi).1
        simpa using this
      have e : Sx i = y := by simpa [List.getElem?_map, List.getElem?_range hlt] using hi
      have hc := (hcell i (by omega)).1
      rw [Addr.add_lit] at hc
      rw [hc, e]
#print axioms view_strs

theorem refPath_any (s : ByteArray) (b : Bool) (hb : isPath s.data.toList = b) (w : World) : Calls Try.prog 27 #[.string s] w fun e w' => e = .returned (.bool b) ∧ Below w.heap.size w w' := by
  by_cases h : s.size ≤ 64
  · exact refPath_b s b hb w (by omega)
  · have hp := isPath_long (s := s) (by omega)
    rw [hp] at hb
    subst hb
    obtain ⟨n, hsn⟩ : ∃ n, s.size = n := ⟨_, rfl⟩
    have q1 : (64 : Int) < n := by omega
    clear h hp
    go_enter Try.func27, Try.ntmps27
    go_wp2_with fail
    go_ret
    exact ⟨rfl, Below.refl _ _⟩

theorem refCovers_any (p s : ByteArray) (b : Bool) (hb : cov p s = b) (w : World) (hn : s.size ≤ 140737488355328) : Calls Try.prog 29 #[.string p, .string s] w fun e w' => e = .returned (.bool b) ∧ Below w.heap.size w w' := by
  by_cases h : p.size ≤ 64
  · exact refCovers_b p s b hb w (by omega) hn
  · have HPP : Hid (isPath p.data.toList = false) := isPath_long (s := p) (by omega)
    have hne : p.data.toList ≠ [] := by
      intro e
      have : p.size = 0 := by rw [size_list, e]; rfl
      omega
    have HNS : Hid (s.size ≤ 140737488355328) := hn
    rw [cov_bad HPP.out hne] at hb
    subst hb
    have f1 : (p.toList == ([] : List UInt8)) = false := by rw [toList_is]; simpa using hne
    have f2 : p.toList.isEmpty = false := by simpa using f1
    clear h hne hn
    cases hps : isPath s.data.toList with
    | false =>
      have HPS : Hid (isPath s.data.toList = false) := hps
      clear hps
      go_enter Try.func29, Try.ntmps29
      go_wp2_with (go_at_call 27; refine (refPath_b s false HPS.out _ HNS.out).mono ?_; rintro e w1 ⟨rfl, hB1⟩; have HB1 : Hid (Below w.heap.size w w1) := hB1; clear hB1)
      go_ret
      exact ⟨rfl, HB1.out⟩
    | true =>
      have HPS : Hid (isPath s.data.toList = true) := hps
      clear hps
      go_enter Try.func29, Try.ntmps29
      go_wp2_with fail
      refine (refPath_b s true HPS.out _ HNS.out).mono ?_
      rintro e w1 ⟨rfl, hB1⟩
      have HB1 : Hid (Below w.heap.size w w1) := hB1
      clear hB1
      go_wp2_with fail
      refine (refPath_any p false HPP.out _).mono ?_
      rintro e w2 ⟨rfl, hB2⟩
      have HB2 : Hid (Below w.heap.size w w2) := HB1.out.trans (hB2.mono HB1.out.size)
      clear hB2
      go_wp2_with fail
      go_ret
      exact ⟨rfl, HB2.out⟩
#print axioms refCovers_any
end Go.Proofs.Ytngkajeghmogmaa.Oct
