/-
  Layer 2 (hash): the law on 'Sum'.
-/
import Derived.Test.YtgpndgajmmbjhabDoorRefBlock
import Derived.Test.YtgpndgajmmbjhabDoorRefSum
import Derived.Test.YtgpndgajmmbjhabDoorEqualLaw
import Derived.Test.YtgpndgajmmbjhabDoorEq
namespace Go.Proofs.YtgpndgajmmbjhabDoor.Oct
open Go.RowKit Sha

theorem refIs (l D : List UInt8) (hD : sum l = D) (a : Option Addr) (n cp : Nat) (w : World) (hl : In w a n cp l) (hn : n ≤ 100000) :
    Calls Tryd.prog 10 #[.slice a n cp] w fun e w' => e = .returned (.agg (U D).toArray) ∧ Hid (Below w.heap.size w w') := by
  subst hD
  exact (refSum_is (show Hid BlockIs from fun s bs a cp w h => block_is s bs a cp w h) l a n cp w hl hn).mono fun _ _ h => h

set_option maxHeartbeats 400000 in
set_option maxRecDepth 100000 in
theorem sumsLaw (l : List UInt8) (a : Option Addr) (n cp : Nat) (w : World) (hk : KT w) (hs : ST w) (hl : In w a n cp l) :
    Calls Tryd.prog 3 #[.slice a n cp] w fun e w' => e = .returned (.bool true) ∧ Below w.heap.size w w' := by
  obtain ⟨i0, hi, hz0, hz1, hz2⟩ := info_parts info5
  have HK : Hid (KT w) := hk
  have HS : Hid (ST w) := hs
  have HL : Hid (In w a n cp l) := hl
  have HLL : Hid (l.length = n) := hl.1
  have b1 := hl.2.2.1
  clear hk hs hl
  by_cases hbig : 20000 < n
  · have q : (20000 : Int) < (n : Int) := by omega
    go_enter Tryd.func3, Tryd.ntmps3
    go_wp2_with (go_at_call 8; refine (lives_is w HK.out HS.out).mono ?_; rintro e w1 ⟨rfl, hw1⟩)
    go_ret
    exact ⟨rfl, hw1⟩
  · have q : (n : Int) ≤ 20000 := by omega
    have HN : Hid (n ≤ 20000) := by show n ≤ 20000; omega
    clear hbig b1
    obtain ⟨D, hD⟩ : ∃ D, sum l = D := ⟨_, rfl⟩
    have HD : Hid (sum l = D) := hD
    have hq := eq_same D (by rw [← hD]; exact sum_length l)
    obtain ⟨S, hS⟩ : ∃ S : ByteArray, S = ⟨l.toArray⟩ := ⟨_, rfl⟩
    have HSS : Hid (S = ⟨l.toArray⟩) := hS
    clear hD hS
    have H0 : Hid ((w.alloc (.cells #[] 5)).ownsRow w.heap.size 5 1 (.slice (some ⟨w.heap.size, 0, none⟩) 0 0) 0 (U [])) := World.ownsRow_made w #[] 0 (Nat.le_refl _) (by unfold maxLen; omega) rfl
    have HB0 : Hid (Below w.heap.size w (w.alloc (.cells #[] 5))) := (Below.refl _ _).alloc (Nat.le_refl _) _
    go_enter Tryd.func3, Tryd.ntmps3
    go_wp2_with (at_builtin; refine wpList_append_in _ rfl (.tmp 8) (.tmp 9) 22 rfl w.heap.size 5 i0 Tryd.underlying22 hi hz0 hz1 hz2 _ [] 0 rfl rfl H0.out a n cp l rfl (HL.out.below HB0.out) (by have := HN.out; omega) HB0.out.size ?_)
    intro v1 w1 ho1 hg1
    have HB1 : Hid (Below w.heap.size w w1) := HB0.out.grown hg1 HB0.out.size (by intro b hb; simp [Value.ownBlock] at hb; omega)
    obtain ⟨ag, cg, rfl, hin1, -⟩ := own_in ho1 (by rw [HLL.out]; have := HN.out; omega)
    rw [HLL.out] at hin1 ⊢
    have HG : Hid (In w1 ag n cg l) := hin1
    clear ho1 hg1 hin1
    go_wp2_with fail
    refine (sum_is' l D HD.out ag n cg w1 (HK.out.below HB1.out) (HS.out.below HB1.out) HG.out (by have := HN.out; omega)).mono ?_
    rintro e w2 ⟨rfl, HB2⟩
    have HBW2 : Hid (Below w.heap.size w w2) := HB1.out.trans (HB2.out.mono HB1.out.size)
    go_wp2_with fail
    refine (refIs l D HD.out a n cp w2 (HL.out.below HBW2.out) (by have := HN.out; omega)).mono ?_
    rintro e w3 ⟨rfl, HB3⟩
    have HBW3 : Hid (Below w.heap.size w w3) := HBW2.out.trans (HB3.out.mono HBW2.out.size)
    have k1 : (convert 22 9 (.slice ag n cg)).run Tryd.prog w3 = .ok (.string S) w3 := by rw [HSS.out]; exact string_in Tryd.underlying22 Tryd.underlying5 Tryd.underlying9 ((HG.out.below HB2.out).below HB3.out)
    have k2 : (convert 22 9 (.slice a n cp)).run Tryd.prog w3 = .ok (.string S) w3 := by rw [HSS.out]; exact string_in Tryd.underlying22 Tryd.underlying5 Tryd.underlying9 (HL.out.below HBW3.out)
    go_wp2_with (go_at_call 8; refine (lives_is w3 (HK.out.below HBW3.out) (HS.out.below HBW3.out)).mono ?_; rintro e w4 ⟨rfl, hw4⟩)
    go_ret
    exact ⟨rfl, HBW3.out.trans (hw4.mono HBW3.out.size)⟩
#print axioms sumsLaw
end Go.Proofs.YtgpndgajmmbjhabDoor.Oct
