/-
  Layer 3 (mac): the law on tags, walked.
-/
import Derived.Test.YtchblcfbllcbmaaDoorRefTag
import Derived.Test.YtchblcfbllcbmaaDoorLives
import Derived.Test.YtchblcfbllcbmaaDoorEq
namespace Go.Proofs.YtchblcfbllcbmaaDoor.Oct
open Go.RowKit Sha

set_option maxHeartbeats 1000000 in
set_option maxRecDepth 100000 in
theorem tagsLaw (key msg : List UInt8) (a b : Option Addr) (n m cp cq : Nat) (w : World) (hk : KT w) (hs : ST w) (hl : In w a n cp key) (hr : In w b m cq msg) :
    Calls Tryd.prog 3 #[.slice a n cp, .slice b m cq] w fun e w' => e = .returned (.bool true) ∧ Below w.heap.size w w' := by
  obtain ⟨i0, hi, hz0, hz1, hz2⟩ := info_parts info5
  have HK : Hid (KT w) := hk
  have HS : Hid (ST w) := hs
  have HL : Hid (In w a n cp key) := hl
  have HR : Hid (In w b m cq msg) := hr
  have HLL : Hid (key.length = n) := hl.1
  have HRL : Hid (msg.length = m) := hr.1
  have b1 := hl.2.2.1
  have b2 := hr.2.2.1
  clear hk hs hl hr
  by_cases hbig : 20000 < n + m
  · have q : (20000 : Int) < (n : Int) + (m : Int) := by omega
    go_enter Tryd.func3, Tryd.ntmps3
    go_wp2_with (go_at_call 7; refine (lives_is w HK.out HS.out).mono ?_; rintro e w1 ⟨rfl, hw1⟩)
    go_ret
    exact ⟨rfl, hw1.out⟩
  · have q : (n : Int) + (m : Int) ≤ 20000 := by omega
    have HN : Hid (n + m ≤ 20000) := by show n + m ≤ 20000; omega
    clear hbig
    obtain ⟨D, hD⟩ : ∃ D, tagOf key msg = D := ⟨_, rfl⟩
    have HD : Hid (tagOf key msg = D) := hD
    have hq := eq_same D (by rw [← hD]; exact tagOf_len key msg)
    obtain ⟨S1, hS1⟩ : ∃ S : ByteArray, S = ⟨key.toArray⟩ := ⟨_, rfl⟩
    obtain ⟨S2, hS2⟩ : ∃ S : ByteArray, S = ⟨msg.toArray⟩ := ⟨_, rfl⟩
    have HS1 : Hid (S1 = ⟨key.toArray⟩) := hS1
    have HS2 : Hid (S2 = ⟨msg.toArray⟩) := hS2
    clear hD hS1 hS2
    have H0 : Hid ((w.alloc (.cells #[] 5)).ownsRow w.heap.size 5 1 (.slice (some ⟨w.heap.size, 0, none⟩) 0 0) 0 (U [])) := World.ownsRow_made w #[] 0 (Nat.le_refl _) (by unfold maxLen; omega) rfl
    have HB0 : Hid (Below w.heap.size w (w.alloc (.cells #[] 5))) := (Below.refl _ _).alloc (Nat.le_refl _) _
    go_enter Tryd.func3, Tryd.ntmps3
    go_wp2_with (first
      | (with_reducible change wpList _ _ _ ({ dst := some 16, op := _, type := _, pos := _, after := _, guard := _ } :: _) _ _
         refine wpList_append_in _ rfl (.tmp 14) (.tmp 15) 22 rfl w.heap.size 5 i0 Tryd.underlying22 hi hz0 hz1 hz2 _ [] 0 rfl rfl H0.out a n cp key rfl (HL.out.below HB0.out) (by have := HN.out; omega) HB0.out.size ?_
         intro v1 w1 ho1 hg1
         have HB1 : Hid (Below w.heap.size w w1) := HB0.out.grown hg1 HB0.out.size (by intro b hb; exact (H0.out.lt b hb).1)
         obtain ⟨ag, cg, hv1, hin1, -⟩ := own_in ho1 (by simp only [List.nil_append, HLL.out]; have := HN.out; omega)
         simp only [List.nil_append, HLL.out] at hv1 hin1
         subst hv1
         have HG : Hid (In w1 ag n cg key) := hin1
         have H1 : Hid ((w1.alloc (.cells #[] 5)).ownsRow w1.heap.size 5 1 (.slice (some ⟨w1.heap.size, 0, none⟩) 0 0) 0 (U [])) := World.ownsRow_made w1 #[] 0 (Nat.le_refl _) (by unfold maxLen; omega) rfl
         have HB10 : Hid (Below w1.heap.size w1 (w1.alloc (.cells #[] 5))) := (Below.refl _ _).alloc (Nat.le_refl _) _
         clear ho1 hg1 hin1)
      | (with_reducible change wpList _ _ _ ({ dst := some 19, op := _, type := _, pos := _, after := _, guard := _ } :: _) _ _
         refine wpList_append_in _ rfl (.tmp 17) (.tmp 18) 22 rfl w1.heap.size 5 i0 Tryd.underlying22 hi hz0 hz1 hz2 _ [] 0 rfl rfl H1.out b m cq msg rfl ((HR.out.below HB1.out).below HB10.out) (by have := HN.out; omega) HB10.out.size ?_
         intro v2 w2 ho2 hg2
         have HB2 : Hid (Below w1.heap.size w1 w2) := HB10.out.grown hg2 HB10.out.size (by intro b hb; exact (H1.out.lt b hb).1)
         obtain ⟨ah, ch, hv2, hin2, -⟩ := own_in ho2 (by simp only [List.nil_append, HRL.out]; have := HN.out; omega)
         simp only [List.nil_append, HRL.out] at hv2 hin2
         subst hv2
         have HH : Hid (In w2 ah m ch msg) := hin2
         clear ho2 hg2 hin2)
      | fail)
    have HBW2 : Hid (Below w.heap.size w w2) := HB1.out.trans (HB2.out.mono HB1.out.size)
    have HG2 : Hid (In w2 ag n cg key) := HG.out.below HB2.out
    refine (tag_is key msg D HD.out ag ah n m cg ch w2 (HK.out.below HBW2.out) (HS.out.below HBW2.out) HG2.out HH.out (by have := HN.out; omega) (by have := HN.out; omega)).mono ?_
    rintro e w3 ⟨rfl, HB3⟩
    have HBW3 : Hid (Below w.heap.size w w3) := HBW2.out.trans (HB3.out.mono HBW2.out.size)
    go_wp2_with fail
    refine (refTag_is key msg D HD.out a b n m cp cq w3 (HL.out.below HBW3.out) (HR.out.below HBW3.out) (by have := HN.out; omega) (by have := HN.out; omega)).mono ?_
    rintro e w4 ⟨rfl, HB4⟩
    have HBW4 : Hid (Below w.heap.size w w4) := HBW3.out.trans (HB4.out.mono HBW3.out.size)
    have k1 : (convert 22 9 (.slice ag n cg)).run Tryd.prog w4 = .ok (.string S1) w4 := by rw [HS1.out]; exact string_in Tryd.underlying22 Tryd.underlying5 Tryd.underlying9 ((HG2.out.below HB3.out).below HB4.out)
    have k2 : (convert 22 9 (.slice a n cp)).run Tryd.prog w4 = .ok (.string S1) w4 := by rw [HS1.out]; exact string_in Tryd.underlying22 Tryd.underlying5 Tryd.underlying9 (HL.out.below HBW4.out)
    have k3 : (convert 22 9 (.slice ah m ch)).run Tryd.prog w4 = .ok (.string S2) w4 := by rw [HS2.out]; exact string_in Tryd.underlying22 Tryd.underlying5 Tryd.underlying9 ((HH.out.below HB3.out).below HB4.out)
    have k4 : (convert 22 9 (.slice b m cq)).run Tryd.prog w4 = .ok (.string S2) w4 := by rw [HS2.out]; exact string_in Tryd.underlying22 Tryd.underlying5 Tryd.underlying9 (HR.out.below HBW4.out)
    go_wp2_with (go_at_call 7; refine (lives_is w4 (HK.out.below HBW4.out) (HS.out.below HBW4.out)).mono ?_; rintro e w5 ⟨rfl, hw5⟩)
    go_ret
    exact ⟨rfl, HBW4.out.trans (hw5.out.mono HBW4.out.size)⟩
#print axioms tagsLaw
end Go.Proofs.YtchblcfbllcbmaaDoor.Oct
