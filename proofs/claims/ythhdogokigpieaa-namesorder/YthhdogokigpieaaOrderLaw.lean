/-
  Layer 9 (names): the law NamesOrder.
-/
import Derived.Test.YthhdogokigpieaaOrder
import Derived.Test.YthhdogokigpieaaLives
namespace Go.Proofs.Ythhdogokigpieaa.Oct
open Go.RowKit

set_option maxRecDepth 100000 in
set_option maxHeartbeats 2000000 in
theorem order_law (a b c : ByteArray) (w : World) (ha : a.size ≤ 140737488355328) (hb : b.size ≤ 140737488355328) (hc : c.size ≤ 140737488355328) :
    Calls Try.prog 7 #[.string a, .string b, .string c] w fun e w' => e = .returned (.bool true) ∧ Below w.heap.size w w' := by
  have HNa : Hid (a.size ≤ 140737488355328) := ha
  have HNb : Hid (b.size ≤ 140737488355328) := hb
  have HNc : Hid (c.size ≤ 140737488355328) := hc
  have HB0 : Hid (Below w.heap.size w w) := Below.refl _ _
  obtain ⟨pa, hpa⟩ : ∃ pa, isPath a.data.toList = pa := ⟨_, rfl⟩
  obtain ⟨pc, hpc⟩ : ∃ pc, isPath c.data.toList = pc := ⟨_, rfl⟩
  have HPA : Hid (isPath a.data.toList = pa) := hpa
  have HPC : Hid (isPath c.data.toList = pc) := hpc
  have HSA : Hid (cov a a = pa) := (cov_self a).trans hpa
  have HSC : Hid (cov ⟨#[]⟩ c = pc) := (cov_empty c).trans hpc
  obtain ⟨na, hna⟩ : ∃ n, a.size = n := ⟨_, rfl⟩
  obtain ⟨nb, hnb⟩ : ∃ n, b.size = n := ⟨_, rfl⟩
  obtain ⟨nc, hnc⟩ : ∃ n, c.size = n := ⟨_, rfl⟩
  rw [hna] at ha
  rw [hnb] at hb
  rw [hnc] at hc
  have r1 : (na : Int) ≤ 140737488355328 := by omega
  have r2 : (nb : Int) ≤ 140737488355328 := by omega
  have r3 : (nc : Int) ≤ 140737488355328 := by omega
  clear hpa hpc ha hb hc
  by_cases hl : 1000 < na + nb + nc
  · have q : (1000 : Int) < (na : Int) + (nb : Int) + (nc : Int) := by omega
    clear hl
    go_enter Try.func7, Try.ntmps7
    go_wp2_with fail
    refine (lives_is _).mono ?_
    rintro e w1 ⟨rfl, hB⟩
    go_wp2_with fail
    go_ret
    exact ⟨rfl, hB⟩
  · have q : (na : Int) + (nb : Int) + (nc : Int) ≤ 1000 := by omega
    clear hl
    cases h1 : cov a b with
    | false =>
      have H1 : Hid (cov a b = false) := h1
      clear h1
      go_enter Try.func7, Try.ntmps7
      go_wp2_with fail
      refine (covers_b a b false H1.out _ HNb.out).mono ?_
      rintro e w1 ⟨rfl, hB⟩
      have HB1 : Hid (Below w.heap.size w w1) := HB0.out.trans (hB.mono HB0.out.size)
      clear hB
      go_wp2_with fail
      refine (covers_b a b false H1.out _ HNb.out).mono ?_
      rintro e w2 ⟨rfl, hB⟩
      have HB2 : Hid (Below w.heap.size w w2) := HB1.out.trans (hB.mono HB1.out.size)
      clear hB
      go_wp2_with fail
      refine (covers_b a a pa (HSA.out) _ HNa.out).mono ?_
      rintro e w3 ⟨rfl, hB⟩
      have HB3 : Hid (Below w.heap.size w w3) := HB2.out.trans (hB.mono HB2.out.size)
      clear hB
      go_wp2_with fail
      refine (path_b a pa HPA.out _ HNa.out).mono ?_
      rintro e w4 ⟨rfl, hB⟩
      have HB4 : Hid (Below w.heap.size w w4) := HB3.out.trans (hB.mono HB3.out.size)
      clear hB
      go_wp2_with fail
      refine (covers_b ⟨#[]⟩ c pc HSC.out _ HNc.out).mono ?_
      rintro e w5 ⟨rfl, hB⟩
      have HB5 : Hid (Below w.heap.size w w5) := HB4.out.trans (hB.mono HB4.out.size)
      clear hB
      go_wp2_with fail
      refine (path_b c pc HPC.out _ HNc.out).mono ?_
      rintro e w6 ⟨rfl, hB⟩
      have HB6 : Hid (Below w.heap.size w w6) := HB5.out.trans (hB.mono HB5.out.size)
      clear hB
      go_wp2_with fail
      refine (lives_is _).mono ?_
      rintro e w7 ⟨rfl, hB⟩
      have HB7 : Hid (Below w.heap.size w w7) := HB6.out.trans (hB.mono HB6.out.size)
      clear hB
      go_wp2_with fail
      go_ret
      exact ⟨rfl, HB7.out⟩
    | true =>
      have H1 : Hid (cov a b = true) := h1
      clear h1
      cases h2 : cov b c with
      | false =>
        have H2 : Hid (cov b c = false) := h2
        clear h2
        cases h4 : cov b a with
        | false =>
          have H4 : Hid (cov b a = false) := h4
          clear h4
          go_enter Try.func7, Try.ntmps7
          go_wp2_with fail
          refine (covers_b a b true H1.out _ HNb.out).mono ?_
          rintro e w1 ⟨rfl, hB⟩
          have HB1 : Hid (Below w.heap.size w w1) := HB0.out.trans (hB.mono HB0.out.size)
          clear hB
          go_wp2_with fail
          refine (covers_b b c false H2.out _ HNc.out).mono ?_
          rintro e w2 ⟨rfl, hB⟩
          have HB2 : Hid (Below w.heap.size w w2) := HB1.out.trans (hB.mono HB1.out.size)
          clear hB
          go_wp2_with fail
          refine (covers_b a b true H1.out _ HNb.out).mono ?_
          rintro e w3 ⟨rfl, hB⟩
          have HB3 : Hid (Below w.heap.size w w3) := HB2.out.trans (hB.mono HB2.out.size)
          clear hB
          go_wp2_with fail
          refine (covers_b b a false H4.out _ HNa.out).mono ?_
          rintro e w4 ⟨rfl, hB⟩
          have HB4 : Hid (Below w.heap.size w w4) := HB3.out.trans (hB.mono HB3.out.size)
          clear hB
          go_wp2_with fail
          refine (covers_b a a pa (HSA.out) _ HNa.out).mono ?_
          rintro e w5 ⟨rfl, hB⟩
          have HB5 : Hid (Below w.heap.size w w5) := HB4.out.trans (hB.mono HB4.out.size)
          clear hB
          go_wp2_with fail
          refine (path_b a pa HPA.out _ HNa.out).mono ?_
          rintro e w6 ⟨rfl, hB⟩
          have HB6 : Hid (Below w.heap.size w w6) := HB5.out.trans (hB.mono HB5.out.size)
          clear hB
          go_wp2_with fail
          refine (covers_b ⟨#[]⟩ c pc HSC.out _ HNc.out).mono ?_
          rintro e w7 ⟨rfl, hB⟩
          have HB7 : Hid (Below w.heap.size w w7) := HB6.out.trans (hB.mono HB6.out.size)
          clear hB
          go_wp2_with fail
          refine (path_b c pc HPC.out _ HNc.out).mono ?_
          rintro e w8 ⟨rfl, hB⟩
          have HB8 : Hid (Below w.heap.size w w8) := HB7.out.trans (hB.mono HB7.out.size)
          clear hB
          go_wp2_with fail
          refine (lives_is _).mono ?_
          rintro e w9 ⟨rfl, hB⟩
          have HB9 : Hid (Below w.heap.size w w9) := HB8.out.trans (hB.mono HB8.out.size)
          clear hB
          go_wp2_with fail
          go_ret
          exact ⟨rfl, HB9.out⟩
        | true =>
          have H4 : Hid (cov b a = true) := h4
          have eab : (a.toList == b.toList) = true := by rw [cov_anti H1.out H4.out]; simp
          clear h4
          go_enter Try.func7, Try.ntmps7
          go_wp2_with fail
          refine (covers_b a b true H1.out _ HNb.out).mono ?_
          rintro e w1 ⟨rfl, hB⟩
          have HB1 : Hid (Below w.heap.size w w1) := HB0.out.trans (hB.mono HB0.out.size)
          clear hB
          go_wp2_with fail
          refine (covers_b b c false H2.out _ HNc.out).mono ?_
          rintro e w2 ⟨rfl, hB⟩
          have HB2 : Hid (Below w.heap.size w w2) := HB1.out.trans (hB.mono HB1.out.size)
          clear hB
          go_wp2_with fail
          refine (covers_b a b true H1.out _ HNb.out).mono ?_
          rintro e w3 ⟨rfl, hB⟩
          have HB3 : Hid (Below w.heap.size w w3) := HB2.out.trans (hB.mono HB2.out.size)
          clear hB
          go_wp2_with fail
          refine (covers_b b a true H4.out _ HNa.out).mono ?_
          rintro e w4 ⟨rfl, hB⟩
          have HB4 : Hid (Below w.heap.size w w4) := HB3.out.trans (hB.mono HB3.out.size)
          clear hB
          go_wp2_with fail
          refine (covers_b a a pa (HSA.out) _ HNa.out).mono ?_
          rintro e w5 ⟨rfl, hB⟩
          have HB5 : Hid (Below w.heap.size w w5) := HB4.out.trans (hB.mono HB4.out.size)
          clear hB
          go_wp2_with fail
          refine (path_b a pa HPA.out _ HNa.out).mono ?_
          rintro e w6 ⟨rfl, hB⟩
          have HB6 : Hid (Below w.heap.size w w6) := HB5.out.trans (hB.mono HB5.out.size)
          clear hB
          go_wp2_with fail
          refine (covers_b ⟨#[]⟩ c pc HSC.out _ HNc.out).mono ?_
          rintro e w7 ⟨rfl, hB⟩
          have HB7 : Hid (Below w.heap.size w w7) := HB6.out.trans (hB.mono HB6.out.size)
          clear hB
          go_wp2_with fail
          refine (path_b c pc HPC.out _ HNc.out).mono ?_
          rintro e w8 ⟨rfl, hB⟩
          have HB8 : Hid (Below w.heap.size w w8) := HB7.out.trans (hB.mono HB7.out.size)
          clear hB
          go_wp2_with fail
          refine (lives_is _).mono ?_
          rintro e w9 ⟨rfl, hB⟩
          have HB9 : Hid (Below w.heap.size w w9) := HB8.out.trans (hB.mono HB8.out.size)
          clear hB
          go_wp2_with fail
          go_ret
          exact ⟨rfl, HB9.out⟩
      | true =>
        have H2 : Hid (cov b c = true) := h2
        have H3 : Hid (cov a c = true) := cov_trans H1.out H2.out
        clear h2
        cases h4 : cov b a with
        | false =>
          have H4 : Hid (cov b a = false) := h4
          clear h4
          go_enter Try.func7, Try.ntmps7
          go_wp2_with fail
          refine (covers_b a b true H1.out _ HNb.out).mono ?_
          rintro e w1 ⟨rfl, hB⟩
          have HB1 : Hid (Below w.heap.size w w1) := HB0.out.trans (hB.mono HB0.out.size)
          clear hB
          go_wp2_with fail
          refine (covers_b b c true H2.out _ HNc.out).mono ?_
          rintro e w2 ⟨rfl, hB⟩
          have HB2 : Hid (Below w.heap.size w w2) := HB1.out.trans (hB.mono HB1.out.size)
          clear hB
          go_wp2_with fail
          refine (covers_b a c true H3.out _ HNc.out).mono ?_
          rintro e w3 ⟨rfl, hB⟩
          have HB3 : Hid (Below w.heap.size w w3) := HB2.out.trans (hB.mono HB2.out.size)
          clear hB
          go_wp2_with fail
          refine (covers_b a b true H1.out _ HNb.out).mono ?_
          rintro e w4 ⟨rfl, hB⟩
          have HB4 : Hid (Below w.heap.size w w4) := HB3.out.trans (hB.mono HB3.out.size)
          clear hB
          go_wp2_with fail
          refine (covers_b b a false H4.out _ HNa.out).mono ?_
          rintro e w5 ⟨rfl, hB⟩
          have HB5 : Hid (Below w.heap.size w w5) := HB4.out.trans (hB.mono HB4.out.size)
          clear hB
          go_wp2_with fail
          refine (covers_b a a pa (HSA.out) _ HNa.out).mono ?_
          rintro e w6 ⟨rfl, hB⟩
          have HB6 : Hid (Below w.heap.size w w6) := HB5.out.trans (hB.mono HB5.out.size)
          clear hB
          go_wp2_with fail
          refine (path_b a pa HPA.out _ HNa.out).mono ?_
          rintro e w7 ⟨rfl, hB⟩
          have HB7 : Hid (Below w.heap.size w w7) := HB6.out.trans (hB.mono HB6.out.size)
          clear hB
          go_wp2_with fail
          refine (covers_b ⟨#[]⟩ c pc HSC.out _ HNc.out).mono ?_
          rintro e w8 ⟨rfl, hB⟩
          have HB8 : Hid (Below w.heap.size w w8) := HB7.out.trans (hB.mono HB7.out.size)
          clear hB
          go_wp2_with fail
          refine (path_b c pc HPC.out _ HNc.out).mono ?_
          rintro e w9 ⟨rfl, hB⟩
          have HB9 : Hid (Below w.heap.size w w9) := HB8.out.trans (hB.mono HB8.out.size)
          clear hB
          go_wp2_with fail
          refine (lives_is _).mono ?_
          rintro e w10 ⟨rfl, hB⟩
          have HB10 : Hid (Below w.heap.size w w10) := HB9.out.trans (hB.mono HB9.out.size)
          clear hB
          go_wp2_with fail
          go_ret
          exact ⟨rfl, HB10.out⟩
        | true =>
          have H4 : Hid (cov b a = true) := h4
          have eab : (a.toList == b.toList) = true := by rw [cov_anti H1.out H4.out]; simp
          clear h4
          go_enter Try.func7, Try.ntmps7
          go_wp2_with fail
          refine (covers_b a b true H1.out _ HNb.out).mono ?_
          rintro e w1 ⟨rfl, hB⟩
          have HB1 : Hid (Below w.heap.size w w1) := HB0.out.trans (hB.mono HB0.out.size)
          clear hB
          go_wp2_with fail
          refine (covers_b b c true H2.out _ HNc.out).mono ?_
          rintro e w2 ⟨rfl, hB⟩
          have HB2 : Hid (Below w.heap.size w w2) := HB1.out.trans (hB.mono HB1.out.size)
          clear hB
          go_wp2_with fail
          refine (covers_b a c true H3.out _ HNc.out).mono ?_
          rintro e w3 ⟨rfl, hB⟩
          have HB3 : Hid (Below w.heap.size w w3) := HB2.out.trans (hB.mono HB2.out.size)
          clear hB
          go_wp2_with fail
          refine (covers_b a b true H1.out _ HNb.out).mono ?_
          rintro e w4 ⟨rfl, hB⟩
          have HB4 : Hid (Below w.heap.size w w4) := HB3.out.trans (hB.mono HB3.out.size)
          clear hB
          go_wp2_with fail
          refine (covers_b b a true H4.out _ HNa.out).mono ?_
          rintro e w5 ⟨rfl, hB⟩
          have HB5 : Hid (Below w.heap.size w w5) := HB4.out.trans (hB.mono HB4.out.size)
          clear hB
          go_wp2_with fail
          refine (covers_b a a pa (HSA.out) _ HNa.out).mono ?_
          rintro e w6 ⟨rfl, hB⟩
          have HB6 : Hid (Below w.heap.size w w6) := HB5.out.trans (hB.mono HB5.out.size)
          clear hB
          go_wp2_with fail
          refine (path_b a pa HPA.out _ HNa.out).mono ?_
          rintro e w7 ⟨rfl, hB⟩
          have HB7 : Hid (Below w.heap.size w w7) := HB6.out.trans (hB.mono HB6.out.size)
          clear hB
          go_wp2_with fail
          refine (covers_b ⟨#[]⟩ c pc HSC.out _ HNc.out).mono ?_
          rintro e w8 ⟨rfl, hB⟩
          have HB8 : Hid (Below w.heap.size w w8) := HB7.out.trans (hB.mono HB7.out.size)
          clear hB
          go_wp2_with fail
          refine (path_b c pc HPC.out _ HNc.out).mono ?_
          rintro e w9 ⟨rfl, hB⟩
          have HB9 : Hid (Below w.heap.size w w9) := HB8.out.trans (hB.mono HB8.out.size)
          clear hB
          go_wp2_with fail
          refine (lives_is _).mono ?_
          rintro e w10 ⟨rfl, hB⟩
          have HB10 : Hid (Below w.heap.size w w10) := HB9.out.trans (hB.mono HB9.out.size)
          clear hB
          go_wp2_with fail
          go_ret
          exact ⟨rfl, HB10.out⟩
#print axioms order_law
end Go.Proofs.Ythhdogokigpieaa.Oct
