/-
  Layer 9 (names): the law NamesCovers.
-/
import Derived.Test.YthhdogokigpieaaRefCovers
import Derived.Test.YthhdogokigpieaaParent
import Derived.Test.YthhdogokigpieaaLives
namespace Go.Proofs.Ythhdogokigpieaa.Oct
open Go.RowKit

theorem parent_b (s P : ByteArray) (u : Bool) (hP : par s = P) (hu : (!P.data.toList == []) = u) (w : World) (hn : s.size ≤ 140737488355328) : Calls Try.prog 15 #[.string s] w fun e w' => e = .returned (.tuple #[.string P, .bool u]) ∧ Below w.heap.size w w' := by
  subst hu; subst hP; exact parent_is s w hn
theorem par_size (s : ByteArray) : (par s).size ≤ s.size := by
  rw [size_list, size_list, par, mkS_data]
  cases hk : (hdl s).length - 1 with
  | zero => rw [headOf_zero]; simp
  | succ k =>
    refine headOf_le _ k ?_
    have : (hdl s).length ≤ (split s.data.toList).length := by
      unfold hdl
      split
      · simp
      · simp
    omega
theorem len_pos (l : List UInt8) : 0 < (split l).length := by
  cases hs : split l with
  | nil => exact absurd hs (split_ne _)
  | cons q r => simp
theorem prefix_one {α : Type} {a b : List α} (ha : 0 < a.length) (h : a <+: b) (hb : b.length = 1) : a = b :=
  List.IsPrefix.eq_of_length h (by have := h.length_le; omega)
theorem prefix_less {α : Type} {a b : List α} {k : Nat} (hb : b.length = k + 1) : a <+: b ↔ a = b ∨ a <+: b.take k := by
  constructor
  · intro h
    by_cases e : a.length = b.length
    · exact .inl (List.IsPrefix.eq_of_length h e)
    · refine .inr ?_
      have hl := h.length_le
      have h1 := List.prefix_iff_eq_take.1 h
      rw [List.prefix_iff_eq_take, List.take_take, Nat.min_eq_left (by omega)]
      exact h1
  · rintro (rfl | h)
    · exact List.prefix_refl _
    · exact h.trans (List.take_prefix _ _)
/-- a tree (P9.5): a prefix covers a path just if it is empty, or the path itself, or covers its parent -/
theorem cov_tree {p s : ByteArray} (hs : isPath s.data.toList = true) : cov p s = true ↔ p.data.toList = [] ∨ p = s ∨ ((par s).data.toList ≠ [] ∧ cov p (par s) = true) := by
  have hlen : (hdl s).length = (split s.data.toList).length := by rw [hdl_yes hs, pcs_len]
  have hpos := len_pos s.data.toList
  obtain ⟨k, hk⟩ : ∃ k, (split s.data.toList).length = k + 1 := ⟨(split s.data.toList).length - 1, by omega⟩
  have hpar : (par s).data.toList = headOf s.data.toList k := by rw [par, mkS_data, hlen, hk]; rfl
  rw [cov_iff]
  simp only [hs, true_and]
  cases k with
  | zero =>
    rw [headOf_zero] at hpar
    constructor
    · rintro (h | h)
      · exact .inl h
      · exact .inr (.inl (list_inj (split_inj (prefix_one (len_pos _) h hk))))
    · rintro (h | rfl | ⟨h, _⟩)
      · exact .inl h
      · exact .inr (List.prefix_refl _)
      · exact absurd hpar h
  | succ j =>
    have hsp : split (par s).data.toList = (split s.data.toList).take (j + 1) := by rw [hpar, split_head]
    have hpp : isPath (par s).data.toList = true := path_below hs (by rw [hsp]; exact List.take_prefix _ _)
    have hne := isPath_ne hpp
    rw [prefix_less hk, cov_iff, hsp]
    simp only [hpp, true_and]
    constructor
    · rintro (h | h | h)
      · exact .inl h
      · exact .inr (.inl (list_inj (split_inj h)))
      · exact .inr (.inr ⟨hne, .inr h⟩)
    · rintro (h | rfl | ⟨_, h | h⟩)
      · exact .inl h
      · exact .inr (.inl rfl)
      · exact .inl h
      · exact .inr (.inr h)
#print axioms cov_tree

set_option maxRecDepth 100000 in
set_option maxHeartbeats 2000000 in
theorem covers_law (p s : ByteArray) (w : World) (hp : p.size ≤ 140737488355328) (hn : s.size ≤ 140737488355328) :
    Calls Try.prog 5 #[.string p, .string s] w fun e w' => e = .returned (.bool true) ∧ Below w.heap.size w w' := by
  have HNP : Hid (p.size ≤ 140737488355328) := hp
  have HNS : Hid (s.size ≤ 140737488355328) := hn
  have HB0 : Hid (Below w.heap.size w w) := Below.refl _ _
  obtain ⟨na, hna⟩ : ∃ n, p.size = n := ⟨_, rfl⟩
  obtain ⟨nb, hnb⟩ : ∃ n, s.size = n := ⟨_, rfl⟩
  rw [hna] at hp
  rw [hnb] at hn
  have r1 : (na : Int) ≤ 140737488355328 := by omega
  have r2 : (nb : Int) ≤ 140737488355328 := by omega
  clear hp hn
  by_cases hl : 10000 < na + nb
  · have q : (10000 : Int) < (na : Int) + (nb : Int) := by omega
    clear hl
    go_enter Try.func5, Try.ntmps5
    go_wp2_with fail
    refine (lives_is _).mono ?_
    rintro e w1 ⟨rfl, hB⟩
    go_wp2_with fail
    go_ret
    exact ⟨rfl, hB⟩
  · have q : (na : Int) + (nb : Int) ≤ 10000 := by omega
    clear hl
    cases hps : isPath s.data.toList with
    | false =>
      have HPS : Hid (isPath s.data.toList = false) := hps
      have HC : Hid (cov p s = false) := cov_nopath hps
      clear hps
      go_enter Try.func5, Try.ntmps5
      go_wp2_with fail
      refine (covers_b p s false HC.out _ HNS.out).mono ?_
      rintro e w1 ⟨rfl, hB⟩
      have HB1 : Hid (Below w.heap.size w w1) := HB0.out.trans (hB.mono HB0.out.size)
      clear hB
      go_wp2_with fail
      refine (refCovers_b p s false HC.out _ HNP.out HNS.out).mono ?_
      rintro e w2 ⟨rfl, hB⟩
      have HB2 : Hid (Below w.heap.size w w2) := HB1.out.trans (hB.mono HB1.out.size)
      clear hB
      go_wp2_with fail
      refine (path_b s false HPS.out _ HNS.out).mono ?_
      rintro e w3 ⟨rfl, hB⟩
      have HB3 : Hid (Below w.heap.size w w3) := HB2.out.trans (hB.mono HB2.out.size)
      clear hB
      go_wp2_with fail
      refine (lives_is _).mono ?_
      rintro e w4 ⟨rfl, hB⟩
      have HB4 : Hid (Below w.heap.size w w4) := HB3.out.trans (hB.mono HB3.out.size)
      clear hB
      go_wp2_with fail
      go_ret
      exact ⟨rfl, HB4.out⟩
    | true =>
      have HPS : Hid (isPath s.data.toList = true) := hps
      obtain ⟨P, hP⟩ : ∃ P, par s = P := ⟨_, rfl⟩
      have HP : Hid (par s = P) := hP
      have HNQ : Hid (P.size ≤ 140737488355328) := by
        have e := par_size s
        rw [hP] at e
        exact Nat.le_trans e HNS.out
      have ht := cov_tree (p := p) hps
      rw [hP] at ht
      clear hps hP
      by_cases h0 : p.data.toList = []
      · have HC : Hid (cov p s = true) := ht.2 (.inl h0)
        have f1 : (p.toList == ([] : List UInt8)) = true := by rw [toList_is, h0]; rfl
        have f2 : p.toList = [] := by simpa using f1
        obtain ⟨u, hu⟩ : ∃ u, (!P.data.toList == []) = u := ⟨_, rfl⟩
        have HU : Hid ((!P.data.toList == []) = u) := hu
        clear hu ht h0
        go_enter Try.func5, Try.ntmps5
        go_wp2_with fail
        refine (covers_b p s true HC.out _ HNS.out).mono ?_
        rintro e w1 ⟨rfl, hB⟩
        have HB1 : Hid (Below w.heap.size w w1) := HB0.out.trans (hB.mono HB0.out.size)
        clear hB
        go_wp2_with fail
        refine (refCovers_b p s true HC.out _ HNP.out HNS.out).mono ?_
        rintro e w2 ⟨rfl, hB⟩
        have HB2 : Hid (Below w.heap.size w w2) := HB1.out.trans (hB.mono HB1.out.size)
        clear hB
        go_wp2_with fail
        refine (path_b s true HPS.out _ HNS.out).mono ?_
        rintro e w3 ⟨rfl, hB⟩
        have HB3 : Hid (Below w.heap.size w w3) := HB2.out.trans (hB.mono HB2.out.size)
        clear hB
        go_wp2_with fail
        refine (parent_b s P u HP.out HU.out _ HNS.out).mono ?_
        rintro e w4 ⟨rfl, hB⟩
        have HB4 : Hid (Below w.heap.size w w4) := HB3.out.trans (hB.mono HB3.out.size)
        clear hB
        go_wp2_with fail
        refine (lives_is _).mono ?_
        rintro e w5 ⟨rfl, hB⟩
        have HB5 : Hid (Below w.heap.size w w5) := HB4.out.trans (hB.mono HB4.out.size)
        clear hB
        go_wp2_with fail
        go_ret
        exact ⟨rfl, HB5.out⟩
      · have f1 : (p.toList == ([] : List UInt8)) = false := by rw [toList_is]; simpa using h0
        have f2 : p.toList.isEmpty = false := by simpa using f1
        by_cases h1 : p = s
        · have HC : Hid (cov p s = true) := ht.2 (.inr (.inl h1))
          have f3 : (p.toList == s.toList) = true := by rw [h1]; simp
          obtain ⟨u, hu⟩ : ∃ u, (!P.data.toList == []) = u := ⟨_, rfl⟩
          have HU : Hid ((!P.data.toList == []) = u) := hu
          clear hu ht h0 h1
          go_enter Try.func5, Try.ntmps5
          go_wp2_with fail
          refine (covers_b p s true HC.out _ HNS.out).mono ?_
          rintro e w1 ⟨rfl, hB⟩
          have HB1 : Hid (Below w.heap.size w w1) := HB0.out.trans (hB.mono HB0.out.size)
          clear hB
          go_wp2_with fail
          refine (refCovers_b p s true HC.out _ HNP.out HNS.out).mono ?_
          rintro e w2 ⟨rfl, hB⟩
          have HB2 : Hid (Below w.heap.size w w2) := HB1.out.trans (hB.mono HB1.out.size)
          clear hB
          go_wp2_with fail
          refine (path_b s true HPS.out _ HNS.out).mono ?_
          rintro e w3 ⟨rfl, hB⟩
          have HB3 : Hid (Below w.heap.size w w3) := HB2.out.trans (hB.mono HB2.out.size)
          clear hB
          go_wp2_with fail
          refine (parent_b s P u HP.out HU.out _ HNS.out).mono ?_
          rintro e w4 ⟨rfl, hB⟩
          have HB4 : Hid (Below w.heap.size w w4) := HB3.out.trans (hB.mono HB3.out.size)
          clear hB
          go_wp2_with fail
          refine (lives_is _).mono ?_
          rintro e w5 ⟨rfl, hB⟩
          have HB5 : Hid (Below w.heap.size w w5) := HB4.out.trans (hB.mono HB4.out.size)
          clear hB
          go_wp2_with fail
          go_ret
          exact ⟨rfl, HB5.out⟩
        · have f3 : (p.toList == s.toList) = false := by
            rw [toList_is, toList_is]; simpa using fun e => h1 (list_inj e)
          by_cases h2 : P.data.toList = []
          · have HC : Hid (cov p s = false) := by
              cases hc : cov p s with
              | false => rfl
              | true =>
                rcases ht.1 hc with h | h | ⟨h, _⟩
                · exact absurd h h0
                · exact absurd h h1
                · exact absurd h2 h
            have HU : Hid ((!P.data.toList == []) = false) := by show _ = _; rw [h2]; rfl
            clear ht h0 h1 h2
            go_enter Try.func5, Try.ntmps5
            go_wp2_with fail
            refine (covers_b p s false HC.out _ HNS.out).mono ?_
            rintro e w1 ⟨rfl, hB⟩
            have HB1 : Hid (Below w.heap.size w w1) := HB0.out.trans (hB.mono HB0.out.size)
            clear hB
            go_wp2_with fail
            refine (refCovers_b p s false HC.out _ HNP.out HNS.out).mono ?_
            rintro e w2 ⟨rfl, hB⟩
            have HB2 : Hid (Below w.heap.size w w2) := HB1.out.trans (hB.mono HB1.out.size)
            clear hB
            go_wp2_with fail
            refine (path_b s true HPS.out _ HNS.out).mono ?_
            rintro e w3 ⟨rfl, hB⟩
            have HB3 : Hid (Below w.heap.size w w3) := HB2.out.trans (hB.mono HB2.out.size)
            clear hB
            go_wp2_with fail
            refine (parent_b s P false HP.out HU.out _ HNS.out).mono ?_
            rintro e w4 ⟨rfl, hB⟩
            have HB4 : Hid (Below w.heap.size w w4) := HB3.out.trans (hB.mono HB3.out.size)
            clear hB
            go_wp2_with fail
            refine (lives_is _).mono ?_
            rintro e w5 ⟨rfl, hB⟩
            have HB5 : Hid (Below w.heap.size w w5) := HB4.out.trans (hB.mono HB4.out.size)
            clear hB
            go_wp2_with fail
            go_ret
            exact ⟨rfl, HB5.out⟩
          · have HU : Hid ((!P.data.toList == []) = true) := by show _ = _; simpa using h2
            cases hc : cov p P with
            | true =>
              have HC : Hid (cov p s = true) := ht.2 (.inr (.inr ⟨h2, hc⟩))
              have HCP : Hid (cov p P = true) := hc
              clear ht h0 h1 h2 hc
              go_enter Try.func5, Try.ntmps5
              go_wp2_with fail
              refine (covers_b p s true HC.out _ HNS.out).mono ?_
              rintro e w1 ⟨rfl, hB⟩
              have HB1 : Hid (Below w.heap.size w w1) := HB0.out.trans (hB.mono HB0.out.size)
              clear hB
              go_wp2_with fail
              refine (refCovers_b p s true HC.out _ HNP.out HNS.out).mono ?_
              rintro e w2 ⟨rfl, hB⟩
              have HB2 : Hid (Below w.heap.size w w2) := HB1.out.trans (hB.mono HB1.out.size)
              clear hB
              go_wp2_with fail
              refine (path_b s true HPS.out _ HNS.out).mono ?_
              rintro e w3 ⟨rfl, hB⟩
              have HB3 : Hid (Below w.heap.size w w3) := HB2.out.trans (hB.mono HB2.out.size)
              clear hB
              go_wp2_with fail
              refine (parent_b s P true HP.out HU.out _ HNS.out).mono ?_
              rintro e w4 ⟨rfl, hB⟩
              have HB4 : Hid (Below w.heap.size w w4) := HB3.out.trans (hB.mono HB3.out.size)
              clear hB
              go_wp2_with fail
              refine (covers_b p P true HCP.out _ HNQ.out).mono ?_
              rintro e w5 ⟨rfl, hB⟩
              have HB5 : Hid (Below w.heap.size w w5) := HB4.out.trans (hB.mono HB4.out.size)
              clear hB
              go_wp2_with fail
              refine (lives_is _).mono ?_
              rintro e w6 ⟨rfl, hB⟩
              have HB6 : Hid (Below w.heap.size w w6) := HB5.out.trans (hB.mono HB5.out.size)
              clear hB
              go_wp2_with fail
              go_ret
              exact ⟨rfl, HB6.out⟩
            | false =>
              have HC : Hid (cov p s = false) := by
                cases hcc : cov p s with
                | false => rfl
                | true =>
                  rcases ht.1 hcc with h | h | ⟨_, h⟩
                  · exact absurd h h0
                  · exact absurd h h1
                  · rw [hc] at h; cases h
              have HCP : Hid (cov p P = false) := hc
              clear ht h0 h1 h2 hc
              go_enter Try.func5, Try.ntmps5
              go_wp2_with fail
              refine (covers_b p s false HC.out _ HNS.out).mono ?_
              rintro e w1 ⟨rfl, hB⟩
              have HB1 : Hid (Below w.heap.size w w1) := HB0.out.trans (hB.mono HB0.out.size)
              clear hB
              go_wp2_with fail
              refine (refCovers_b p s false HC.out _ HNP.out HNS.out).mono ?_
              rintro e w2 ⟨rfl, hB⟩
              have HB2 : Hid (Below w.heap.size w w2) := HB1.out.trans (hB.mono HB1.out.size)
              clear hB
              go_wp2_with fail
              refine (path_b s true HPS.out _ HNS.out).mono ?_
              rintro e w3 ⟨rfl, hB⟩
              have HB3 : Hid (Below w.heap.size w w3) := HB2.out.trans (hB.mono HB2.out.size)
              clear hB
              go_wp2_with fail
              refine (parent_b s P true HP.out HU.out _ HNS.out).mono ?_
              rintro e w4 ⟨rfl, hB⟩
              have HB4 : Hid (Below w.heap.size w w4) := HB3.out.trans (hB.mono HB3.out.size)
              clear hB
              go_wp2_with fail
              refine (covers_b p P false HCP.out _ HNQ.out).mono ?_
              rintro e w5 ⟨rfl, hB⟩
              have HB5 : Hid (Below w.heap.size w w5) := HB4.out.trans (hB.mono HB4.out.size)
              clear hB
              go_wp2_with fail
              refine (lives_is _).mono ?_
              rintro e w6 ⟨rfl, hB⟩
              have HB6 : Hid (Below w.heap.size w w6) := HB5.out.trans (hB.mono HB5.out.size)
              clear hB
              go_wp2_with fail
              go_ret
              exact ⟨rfl, HB6.out⟩
#print axioms covers_law
end Go.Proofs.Ythhdogokigpieaa.Oct
