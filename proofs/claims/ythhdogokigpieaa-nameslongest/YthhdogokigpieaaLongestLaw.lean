/-
  Layer 9 (names): the law NamesLongest.
-/
import Derived.Test.YthhdogokigpieaaRefLongest
import Derived.Test.YthhdogokigpieaaLives
namespace Go.Proofs.Ythhdogokigpieaa.Oct
open Go.RowKit

theorem refLongest_i (l : List ByteArray) (s : ByteArray) (a : Option Addr) (n cp : Nat) (i : Int) (hi : (lngAt l s n).1 = i) (w : World) (hl : Strs w a n l) (hs : s.size ≤ 140737488355328) (hn : n ≤ 100000) :
    Calls Try.prog 20 #[.slice a n cp, .string s] w fun e w' => e = .returned (.int .i64 i) ∧ Below w.heap.size w w' := by
  subst hi; exact refLongest_is l s a n cp w hl hs hn
theorem strs_zero {w W : World} {l : List ByteArray} {a : Option Addr} (h : Strs w none 0 l) : Strs W a 0 l := ⟨h.1, fun h => by omega⟩
theorem own_empty (w : World) : (w.alloc (.cells #[] 9)).ownsRow w.heap.size 9 1 (.slice (some ⟨w.heap.size, 0, none⟩) 0 0) 0 [] :=
  ⟨rfl, .inr ⟨w.heap.size, 0, #[], rfl, Nat.le_refl _, World.alloc_heap_new w _, Nat.le_refl _, by unfold maxLen; omega, rfl, rfl⟩⟩
set_option maxRecDepth 100000 in
set_option maxHeartbeats 8000000 in
theorem longest_law (l : List ByteArray) (s : ByteArray) (a : Option Addr) (n cp : Nat) (w : World) (hl : Strs w a n l) (hs : s.size ≤ 140737488355328) :
    Calls Try.prog 6 #[.slice a n cp, .string s] w fun e w' => e = .returned (.bool true) ∧ Below w.heap.size w w' := by
  obtain ⟨i9, hi9, hz0, hz1, hz2⟩ := info_parts info9
  obtain ⟨N, hN⟩ : ∃ N, s.size = N := ⟨_, rfl⟩
  by_cases h1 : 100 < n
  · have q : (100 : Int) < (n : Int) := by omega
    clear h1
    go_enter Try.func6, Try.ntmps6
    go_wp2_with fail
    refine (lives_is _).mono ?_
    rintro e w1 ⟨rfl, hB⟩
    go_wp2_with fail
    go_ret
    exact ⟨rfl, hB⟩
  · have q : (n : Int) ≤ 100 := by omega
    by_cases h2 : 1000 < N
    · have q2 : (1000 : Int) < (N : Int) := by omega
      clear h1 h2
      go_enter Try.func6, Try.ntmps6
      go_wp2_with fail
      refine (lives_is _).mono ?_
      rintro e w1 ⟨rfl, hB⟩
      go_wp2_with fail
      go_ret
      exact ⟨rfl, hB⟩
    · have q2 : (N : Int) ≤ 1000 := by omega
      have HNS : Hid (s.size ≤ 140737488355328) := hs
      have HL : Hid (Strs w a n l) := hl
      have HN : Hid (n ≤ 100) := by show n ≤ 100; omega
      clear h1 h2 hs hl
      by_cases h0 : n = 0
      · subst h0
        cases a with
        | none =>
          have HF : Hid ((lngAt l s 0).1 = -1) := rfl
          obtain ⟨f, hf⟩ : ∃ f : Int, f = -1 := ⟨_, rfl⟩
          rw [← hf] at HF
          have HB4 : Hid (Below w.heap.size w (w.alloc (.cells #[] 9))) := (Below.refl _ w).alloc (Nat.le_refl _) _
          have HL4 : Hid (Strs w none 0 l) := ⟨HL.out.1, fun h => by omega⟩
          go_enter Try.func6, Try.ntmps6
          go_wp2_with fail
          refine (longest_i l s _ _ _ f HF.out _ ((strs_zero HL4.out)) HNS.out (by have := HN.out; omega)).mono ?_
          rintro e w5 ⟨rfl, hB5⟩
          have HB5 : Hid (Below w.heap.size w w5) := HB4.out.trans (hB5.mono HB4.out.size)
          clear hB5
          go_wp2_with fail
          refine (refLongest_i l s _ _ _ f HF.out _ (HL.out.below HB5.out) HNS.out (by have := HN.out; omega)).mono ?_
          rintro e w6 ⟨rfl, hB6⟩
          have HB6 : Hid (Below w.heap.size w w6) := HB5.out.trans (hB6.mono HB5.out.size)
          clear hB6
          subst hf
          go_wp2_with fail
          go_loopw [39] (fun i wr => i = .int .i64 0 ∧ Hid (Below w.heap.size w wr)) (fun _ _ => 0)
          case atStart => exact ⟨rfl, HB6⟩
          case round =>
            obtain ⟨rfl, hb⟩ := hrel
            go_wp2_with fail
            refine (lives_is _).mono ?_
            rintro e w7 ⟨rfl, hB7⟩
            have HB7 : Hid (Below w.heap.size w w7) := hb.out.trans (hB7.mono hb.out.size)
            clear hB7
            go_wp2_with fail
            go_ret
            exact ⟨rfl, HB7.out⟩
        | some ad =>
          have HF : Hid ((lngAt l s 0).1 = -1) := rfl
          obtain ⟨f, hf⟩ : ∃ f : Int, f = -1 := ⟨_, rfl⟩
          rw [← hf] at HF
          have HB4 : Hid (Below w.heap.size w (w.alloc (.cells #[] 9))) := (Below.refl _ w).alloc (Nat.le_refl _) _
          have HL4 : Hid (Strs w none 0 l) := ⟨HL.out.1, fun h => by omega⟩
          go_enter Try.func6, Try.ntmps6
          go_wp2_with fail
          refine (longest_i l s _ _ _ f HF.out _ ((strs_zero HL4.out)) HNS.out (by have := HN.out; omega)).mono ?_
          rintro e w5 ⟨rfl, hB5⟩
          have HB5 : Hid (Below w.heap.size w w5) := HB4.out.trans (hB5.mono HB4.out.size)
          clear hB5
          go_wp2_with fail
          refine (refLongest_i l s _ _ _ f HF.out _ (HL.out.below HB5.out) HNS.out (by have := HN.out; omega)).mono ?_
          rintro e w6 ⟨rfl, hB6⟩
          have HB6 : Hid (Below w.heap.size w w6) := HB5.out.trans (hB6.mono HB5.out.size)
          clear hB6
          subst hf
          go_wp2_with fail
          go_loopw [39] (fun i wr => i = .int .i64 0 ∧ Hid (Below w.heap.size w wr)) (fun _ _ => 0)
          case atStart => exact ⟨rfl, HB6⟩
          case round =>
            obtain ⟨rfl, hb⟩ := hrel
            go_wp2_with fail
            refine (lives_is _).mono ?_
            rintro e w7 ⟨rfl, hB7⟩
            have HB7 : Hid (Below w.heap.size w w7) := hb.out.trans (hB7.mono hb.out.size)
            clear hB7
            go_wp2_with fail
            go_ret
            exact ⟨rfl, HB7.out⟩
      · obtain ⟨b, off, rfl, hbs, hcell⟩ := HL.out.2 (by omega)
        have HCELL : Hid (∀ W, Below w.heap.size w W → ∀ i y, l[i]? = some y → W.cell? ⟨b, off + i, none⟩ = some (.string y)) := fun W hW i y hy => (hW.cell (p := ⟨b, off + i, none⟩) hbs).trans (hcell i y hy)
        have HNEWS : Hid (∀ j u, (l.map Value.string)[j]? = some u → (w.alloc (.cells #[] 9)).cell? ((⟨b, off, none⟩ : Addr).add j) = some u) := by
          intro j u hj
          rw [List.getElem?_map] at hj
          obtain ⟨y, hy, rfl⟩ := Option.map_eq_some_iff.1 hj
          rw [Addr.add_lit]
          exact HCELL.out _ ((Below.refl _ w).alloc (Nat.le_refl _) _) j y hy
        clear hbs hcell
        rcases lng_inv l s n with hi | ⟨k, y, hi, hkn, hy, hcy⟩
        · have HI : Hid (lngAt l s n = (-1, -1)) := hi
          obtain ⟨f, hf⟩ : ∃ f : Int, f = -1 := ⟨_, rfl⟩
          have HF : Hid ((lngAt l s n).1 = f) := by show _ = _; rw [hi, hf]
          clear hi
          go_enter Try.func6, Try.ntmps6
          go_wp2_with (first
            | (with_reducible change wpList _ _ _ ({ dst := some 19, op := _, type := _, pos := _, after := _, guard := _ } :: _) _ _
               refine wpList_append_own _ rfl (.tmp 17) (.tmp 18) 24 rfl w.heap.size 9 i9 (.string ⟨#[]⟩) 1 16 Try.underlying24 hi9 hz0 hz1 hz2 rfl (by decide) _ 0 [] rfl (own_empty w) ⟨b, off, none⟩ n cp (l.map Value.string) rfl (by rw [List.length_map, HL.out.1]; omega) HNEWS.out (by intro u hu; obtain ⟨_, _, rfl⟩ := List.mem_map.1 hu; rfl) (by have := HN.out; unfold maxLen; omega) (by have := HN.out; omega) (by simp) ?_
               intro v4 w4 ho4 hg4 _)
            | fail)
          have HO4 : Hid (OwnS w.heap.size w4 v4 l) := by
            show w4.ownsRow w.heap.size 9 1 v4 l.length (l.map Value.string)
            rw [HL.out.1]
            simpa using ho4
          have HB4 : Hid (Below w.heap.size w w4) := by
            exact ((Below.refl _ w).alloc (Nat.le_refl _) (.cells #[] 9)).trans ⟨hg4.os, hg4.tape, hg4.output, hg4.size, fun k hk => hg4.block k (by rw [World.size_alloc]; omega) (fun e => absurd (Option.some.inj (show some k = some w.heap.size from e)) (by omega))⟩
          clear ho4 hg4
          obtain ⟨g4, c4, hv4, hst4⟩ := HO4.out.strs (by rw [HL.out.1]; omega)
          rw [HL.out.1] at hv4 hst4
          have HST4 : Hid (Strs w4 (some ⟨g4, 0, none⟩) n l) := hst4
          subst hv4
          clear hst4 HO4
          clear h0
          go_wp2_with fail
          refine (longest_i l s _ _ _ f HF.out _ (HST4.out) HNS.out (by have := HN.out; omega)).mono ?_
          rintro e w5 ⟨rfl, hB5⟩
          have HB5 : Hid (Below w.heap.size w w5) := HB4.out.trans (hB5.mono HB4.out.size)
          clear hB5
          go_wp2_with fail
          refine (refLongest_i l s _ _ _ f HF.out _ (HL.out.below HB5.out) HNS.out (by have := HN.out; omega)).mono ?_
          rintro e w6 ⟨rfl, hB6⟩
          have HB6 : Hid (Below w.heap.size w w6) := HB5.out.trans (hB6.mono HB5.out.size)
          clear hB6
          subst hf
          go_wp2_with fail
          go_loopw [39] (fun i wr => ∃ t : Nat, i = .int .i64 (t : Int) ∧ t ≤ n ∧ Hid (Below w.heap.size w wr)) (fun i _ => n - (intOf i).toNat)
          case atStart => exact ⟨0, rfl, by omega, HB6⟩
          case round =>
            obtain ⟨t, rfl, ht, hb⟩ := hrel
            by_cases hlt : t = n
            · subst hlt
              go_wp2_with fail
              refine (lives_is _).mono ?_
              rintro e w7 ⟨rfl, hB7⟩
              have HB7 : Hid (Below w.heap.size w w7) := hb.out.trans (hB7.mono hb.out.size)
              clear hB7
              go_wp2_with fail
              go_ret
              exact ⟨rfl, HB7.out⟩
            · have q1 : (t : Int) < (n : Int) := by omega
              have HT : Hid (t < n) := by show t < n; omega
              have htl : t < l.length := by rw [HL.out.1]; omega
              obtain ⟨x, hx⟩ : ∃ x, l[t]? = some x := ⟨_, List.getElem?_eq_getElem htl⟩
              have HX : Hid (l[t]? = some x) := hx
              have hcx : wr.cell? ⟨b, off + t, none⟩ = some (.string x) := HCELL.out wr hb.out t x hx
              clear hlt htl hx
              cases hcv : cov x s with
              | false =>
                have HC : Hid (cov x s = false) := hcv
                clear hcv
                go_wp2_with fail
                refine (covers_b x s false HC.out _ HNS.out).mono ?_
                rintro e w7 ⟨rfl, hB7⟩
                have HB7 : Hid (Below w.heap.size w w7) := hb.out.trans (hB7.mono hb.out.size)
                clear hB7
                go_wp2_with fail
                go_roundw
                case rel => exact ⟨t + 1, by simp, by have := HT.out; omega, HB7⟩
                case measure => have := HT.out; simp [intOf]; omega
              | true =>
                have HC : Hid (cov x s = true) := hcv
                have hmax := lng_max l s n t x HT.out HX.out hcv
                rw [HI.out] at hmax
                clear hcv
                have := hmax.1
                omega
        · have HI : Hid (lngAt l s n = ((k : Int), (y.size : Int))) := hi
          have HY : Hid (l[k]? = some y) := hy
          have HCY : Hid (cov y s = true) := hcy
          obtain ⟨f, hf⟩ : ∃ f : Int, f = (k : Int) := ⟨_, rfl⟩
          have HF : Hid ((lngAt l s n).1 = f) := by show _ = _; rw [hi, hf]
          have k1 : (k : Int) < (n : Int) := by omega
          have k2 : ¬ (n : Int) ≤ (k : Int) := by omega
          have k3 : ¬ (k : Int) < -1 := by omega
          have k4 : ¬ (k : Int) < 0 := by omega
          clear hi hy hcy hkn
          go_enter Try.func6, Try.ntmps6
          go_wp2_with (first
            | (with_reducible change wpList _ _ _ ({ dst := some 19, op := _, type := _, pos := _, after := _, guard := _ } :: _) _ _
               refine wpList_append_own _ rfl (.tmp 17) (.tmp 18) 24 rfl w.heap.size 9 i9 (.string ⟨#[]⟩) 1 16 Try.underlying24 hi9 hz0 hz1 hz2 rfl (by decide) _ 0 [] rfl (own_empty w) ⟨b, off, none⟩ n cp (l.map Value.string) rfl (by rw [List.length_map, HL.out.1]; omega) HNEWS.out (by intro u hu; obtain ⟨_, _, rfl⟩ := List.mem_map.1 hu; rfl) (by have := HN.out; unfold maxLen; omega) (by have := HN.out; omega) (by simp) ?_
               intro v4 w4 ho4 hg4 _)
            | fail)
          have HO4 : Hid (OwnS w.heap.size w4 v4 l) := by
            show w4.ownsRow w.heap.size 9 1 v4 l.length (l.map Value.string)
            rw [HL.out.1]
            simpa using ho4
          have HB4 : Hid (Below w.heap.size w w4) := by
            exact ((Below.refl _ w).alloc (Nat.le_refl _) (.cells #[] 9)).trans ⟨hg4.os, hg4.tape, hg4.output, hg4.size, fun k hk => hg4.block k (by rw [World.size_alloc]; omega) (fun e => absurd (Option.some.inj (show some k = some w.heap.size from e)) (by omega))⟩
          clear ho4 hg4
          obtain ⟨g4, c4, hv4, hst4⟩ := HO4.out.strs (by rw [HL.out.1]; omega)
          rw [HL.out.1] at hv4 hst4
          have HST4 : Hid (Strs w4 (some ⟨g4, 0, none⟩) n l) := hst4
          subst hv4
          clear hst4 HO4
          clear h0
          go_wp2_with fail
          refine (longest_i l s _ _ _ f HF.out _ (HST4.out) HNS.out (by have := HN.out; omega)).mono ?_
          rintro e w5 ⟨rfl, hB5⟩
          have HB5 : Hid (Below w.heap.size w w5) := HB4.out.trans (hB5.mono HB4.out.size)
          clear hB5
          go_wp2_with fail
          refine (refLongest_i l s _ _ _ f HF.out _ (HL.out.below HB5.out) HNS.out (by have := HN.out; omega)).mono ?_
          rintro e w6 ⟨rfl, hB6⟩
          have HB6 : Hid (Below w.heap.size w w6) := HB5.out.trans (hB6.mono HB5.out.size)
          clear hB6
          subst hf
          go_wp2_with fail
          have d1 : decide (n ≤ k) = false := decide_eq_false (by omega)
          have d2 : decide ((k : Int) < -1) = false := decide_eq_false (by omega)
          simp only [d1, d2, Bool.or_false]
          clear d1 d2
          go_loopw [39] (fun i wr => ∃ t : Nat, i = .int .i64 (t : Int) ∧ t ≤ n ∧ Hid (Below w.heap.size w wr)) (fun i _ => n - (intOf i).toNat)
          case atStart => exact ⟨0, rfl, by omega, HB6⟩
          case round =>
            obtain ⟨t, rfl, ht, hb⟩ := hrel
            by_cases hlt : t = n
            · subst hlt
              have hcy : wr.cell? ⟨b, off + k, none⟩ = some (.string y) := HCELL.out wr hb.out k y HY.out
              go_wp2_with fail
              refine (covers_b y s true HCY.out _ HNS.out).mono ?_
              rintro e w7 ⟨rfl, hB7⟩
              have HB7 : Hid (Below w.heap.size w w7) := hb.out.trans (hB7.mono hb.out.size)
              clear hB7
              go_wp2_with fail
              refine (lives_is _).mono ?_
              rintro e w8 ⟨rfl, hB8⟩
              have HB8 : Hid (Below w.heap.size w w8) := HB7.out.trans (hB8.mono HB7.out.size)
              clear hB8
              go_wp2_with fail
              go_ret
              exact ⟨rfl, HB8.out⟩
            · have q1 : (t : Int) < (n : Int) := by omega
              have HT : Hid (t < n) := by show t < n; omega
              have htl : t < l.length := by rw [HL.out.1]; omega
              obtain ⟨x, hx⟩ : ∃ x, l[t]? = some x := ⟨_, List.getElem?_eq_getElem htl⟩
              have HX : Hid (l[t]? = some x) := hx
              have hcx : wr.cell? ⟨b, off + t, none⟩ = some (.string x) := HCELL.out wr hb.out t x hx
              clear hlt htl hx
              cases hcv : cov x s with
              | false =>
                have HC : Hid (cov x s = false) := hcv
                clear hcv
                go_wp2_with fail
                refine (covers_b x s false HC.out _ HNS.out).mono ?_
                rintro e w7 ⟨rfl, hB7⟩
                have HB7 : Hid (Below w.heap.size w w7) := hb.out.trans (hB7.mono hb.out.size)
                clear hB7
                go_wp2_with fail
                go_roundw
                case rel => exact ⟨t + 1, by simp, by have := HT.out; omega, HB7⟩
                case measure => have := HT.out; simp [intOf]; omega
              | true =>
                have HC : Hid (cov x s = true) := hcv
                have hmax := lng_max l s n t x HT.out HX.out hcv
                rw [HI.out] at hmax
                clear hcv
                obtain ⟨hm1, hm2⟩ := hmax
                have hm3 : (x.size : Int) ≤ (y.size : Int) := hm1
                have HM2 : Hid ((x.size : Int) = (y.size : Int) → (k : Int) ≤ (t : Int)) := hm2
                obtain ⟨X, hX⟩ : ∃ X, x.size = X := ⟨_, rfl⟩
                rw [hX] at hm3 HM2
                clear hm1 hm2
                by_cases he : X = y.size
                · have e1 : ((X : Int) == (y.size : Int)) = true := by simp; omega
                  have e2 : (k : Int) ≤ (t : Int) := HM2.out (by omega)
                  have e3 : ¬ (t : Int) < (k : Int) := by omega
                  have e4 : (X : Int) = (y.size : Int) := by omega
                  clear he
                  go_wp2_with fail
                  refine (covers_b x s true HC.out _ HNS.out).mono ?_
                  rintro e w7 ⟨rfl, hB7⟩
                  have HB7 : Hid (Below w.heap.size w w7) := hb.out.trans (hB7.mono hb.out.size)
                  have hcy : w7.cell? ⟨b, off + k, none⟩ = some (.string y) := HCELL.out w7 HB7.out k y HY.out
                  clear hB7
                  go_wp2_with fail
                  go_roundw
                  case rel => exact ⟨t + 1, by simp, by have := HT.out; omega, HB7⟩
                  case measure => have := HT.out; simp [intOf]; omega
                · have e1 : ((X : Int) == (y.size : Int)) = false := by simp; omega
                  clear he
                  go_wp2_with fail
                  refine (covers_b x s true HC.out _ HNS.out).mono ?_
                  rintro e w7 ⟨rfl, hB7⟩
                  have HB7 : Hid (Below w.heap.size w w7) := hb.out.trans (hB7.mono hb.out.size)
                  have hcy : w7.cell? ⟨b, off + k, none⟩ = some (.string y) := HCELL.out w7 HB7.out k y HY.out
                  clear hB7
                  go_wp2_with fail
                  go_roundw
                  case rel => exact ⟨t + 1, by simp, by have := HT.out; omega, HB7⟩
                  case measure => have := HT.out; simp [intOf]; omega
#print axioms longest_law
end Go.Proofs.Ythhdogokigpieaa.Oct
