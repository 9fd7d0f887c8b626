/-
  Layer 9 (names): the law NamesTells.
-/
import Derived.Test.YthhdogokigpieaaRefSplit
import Derived.Test.YthhdogokigpieaaLives
namespace Go.Proofs.Ythhdogokigpieaa.Oct
open Go.RowKit

set_option maxRecDepth 100000 in
set_option maxHeartbeats 2000000 in
theorem tells_law (s : ByteArray) (w : World) (hn : s.size ≤ 140737488355328) :
    Calls Try.prog 3 #[.string s] w fun e w' => e = .returned (.bool true) ∧ Below w.heap.size w w' := by
  have HN : Hid (s.size ≤ 140737488355328) := hn
  have HB0 : Hid (Below w.heap.size w w) := Below.refl _ _
  obtain ⟨bn, hbn⟩ : ∃ b, isName s.data.toList = b := ⟨_, rfl⟩
  obtain ⟨bp, hbp⟩ : ∃ b, isPath s.data.toList = b := ⟨_, rfl⟩
  have HBN : Hid (isName s.data.toList = bn) := hbn
  have HBP : Hid (isPath s.data.toList = bp) := hbp
  obtain ⟨n, hsn⟩ : ∃ n, s.size = n := ⟨_, rfl⟩
  clear hbn hbp hn
  by_cases hl : 10000 < n
  · have q : (10000 : Int) < (n : Int) := by omega
    clear hl
    go_enter Try.func3, Try.ntmps3
    go_wp2_with fail
    refine (lives_is _).mono ?_
    rintro e w1 ⟨rfl, hB⟩
    go_wp2_with fail
    go_ret
    exact ⟨rfl, hB⟩
  · have q : (n : Int) ≤ 10000 := by omega
    clear hl
    go_enter Try.func3, Try.ntmps3
    go_wp2_with fail
    refine (name_b s bn HBN.out _ HN.out).mono ?_
    rintro e w1 ⟨rfl, rfl⟩
    go_wp2_with fail
    refine (refName_b s bn HBN.out _ HN.out).mono ?_
    rintro e w2 ⟨rfl, rfl⟩
    go_wp2_with fail
    refine (path_b s bp HBP.out _ HN.out).mono ?_
    rintro e w3 ⟨rfl, hB⟩
    have HB3 : Hid (Below w.heap.size w w3) := HB0.out.trans (hB.mono HB0.out.size)
    clear hB
    go_wp2_with fail
    refine (refPath_b s bp HBP.out _ HN.out).mono ?_
    rintro e w4 ⟨rfl, hB⟩
    have HB4 : Hid (Below w.heap.size w w4) := HB3.out.trans (hB.mono HB3.out.size)
    clear hB
    go_wp2_with fail
    refine (lives_is _).mono ?_
    rintro e w5 ⟨rfl, hB⟩
    have HB5 : Hid (Below w.heap.size w w5) := HB4.out.trans (hB.mono HB4.out.size)
    clear hB
    go_wp2_with fail
    go_ret
    exact ⟨rfl, HB5.out⟩
#print axioms tells_law
end Go.Proofs.Ythhdogokigpieaa.Oct
