/-
  Layer 3 (mac): the law on derived keys, walked.
-/
import Derived.Test.YtchblcfbllcbmaaDoorDeriveIs
namespace Go.Proofs.YtchblcfbllcbmaaDoor.Oct
open Go.RowKit Sha

set_option maxHeartbeats 1000000 in
set_option maxRecDepth 100000 in
theorem derivesLaw (key : List UInt8) (a : Option Addr) (n cp : Nat) (s : ByteArray) (w : World) (hk : KT w) (hs : ST w) (hl : In w a n cp key) (hsz : s.size ≤ 140737488355328) :
    Calls Tryd.prog 6 #[.slice a n cp, .string s] w fun e w' => e = .returned (.bool true) ∧ Below w.heap.size w w' := by
  obtain ⟨i0, hi, hz0, hz1, hz2⟩ := info_parts info5
  have HK : Hid (KT w) := hk
  have HS : Hid (ST w) := hs
  have HL : Hid (In w a n cp key) := hl
  have b1 := hl.2.2.1
  clear hk hs hl
  by_cases hbig : 20000 < n + s.size
  · have q : (20000 : Int) < (n : Int) + (s.size : Int) := by omega
    go_enter Tryd.func6, Tryd.ntmps6
    go_wp2_with (go_at_call 7; refine (lives_is w HK.out HS.out).mono ?_; rintro e w1 ⟨rfl, hw1⟩)
    go_ret
    exact ⟨rfl, hw1.out⟩
  · have q : (n : Int) + (s.size : Int) ≤ 20000 := by omega
    have HN : Hid (n + s.size ≤ 20000) := by show n + s.size ≤ 20000; omega
    clear hbig
    obtain ⟨D, hD⟩ : ∃ D, tagOf key (s.data.toList ++ [1]) = D := ⟨_, rfl⟩
    have HD : Hid (tagOf key (s.data.toList ++ [1]) = D) := hD
    have hq := eq_same D (by rw [← hD]; exact tagOf_len _ _)
    clear hD
    go_enter Tryd.func6, Tryd.ntmps6
    go_wp2_with fail
    refine (derive_is key D s HD.out a n cp w HK.out HS.out HL.out (by have := HN.out; omega) (by have := HN.out; omega)).mono ?_
    rintro e w1 ⟨rfl, HB1⟩
    go_wp2_with fail
    refine (refDerive_is key D s HD.out a n cp w1 (HL.out.below HB1.out) (by have := HN.out; omega) (by have := HN.out; omega)).mono ?_
    rintro e w2 ⟨rfl, HB2⟩
    have HBW2 : Hid (Below w.heap.size w w2) := HB1.out.trans (HB2.out.mono HB1.out.size)
    go_wp2_with fail
    refine (derive_is key D s HD.out a n cp w2 (HK.out.below HBW2.out) (HS.out.below HBW2.out) (HL.out.below HBW2.out) (by have := HN.out; omega) (by have := HN.out; omega)).mono ?_
    rintro e W1 ⟨rfl, HB3⟩
    have HBW3 : Hid (Below w.heap.size w W1) := HBW2.out.trans (HB3.out.mono HBW2.out.size)
    obtain ⟨cap, W2, hcv, HIN2, HSP2, HB4, HS2⟩ := label_made (P := Tryd.prog) W1 9 22 5 s Tryd.underlying9 Tryd.underlying22 Tryd.underlying5 (by have := HN.out; omega)
    have HCV : Hid ((convert 9 22 (.string s)).run Tryd.prog W1 = .ok (.slice (some ⟨W1.heap.size, 0, none⟩) s.size cap) W2) := hcv
    have HI3 : Hid (In (W2.alloc (.cells (U [1]).toArray 5)) (some ⟨W1.heap.size, 0, none⟩) s.size cap s.data.toList) := HIN2.out.below ((Below.refl _ W2).alloc (Nat.le_refl _) _)
    have HSP3 : Hid (Spare (W2.alloc (.cells (U [1]).toArray 5)) W1.heap.size s.size cap) := HSP2.out.alloc (by rw [HS2.out]; omega) _
    have HJ3 : Hid (In (W2.alloc (.cells (U [1]).toArray 5)) (some ⟨W2.heap.size, 0, none⟩) 1 1 [1]) := in_new W2 5 [1] (by simp)
    have HB5 : Hid (Below W1.heap.size W1 (W2.alloc (.cells (U [1]).toArray 5))) := HB4.out.alloc HB4.out.size _
    clear hcv
    go_wp2_with (first
      | (with_reducible change wpList _ _ _ ({ dst := some 25, op := _, type := _, pos := _, after := _, guard := _ } :: _) _ _
         refine wpList_conv rfl (.tmp 24) 9 22 rfl (.string s) _ rfl HCV.out ?_)
      | (with_reducible change wpList _ _ _ ({ dst := some 27, op := _, type := _, pos := _, after := _, guard := _ } :: _) _ _
         refine wpList_append_spare _ rfl (.tmp 25) (.tmp 26) 22 rfl 5 i0 Tryd.underlying22 hi hz0 hz1 hz2 W1.heap.size W1.heap.size s.size cap s.data.toList [1] (Nat.le_refl _) (by have := HS2.out; simp; omega) rfl HI3.out HSP3.out ⟨W2.heap.size, 0, none⟩ 1 1 rfl HJ3.out (by have := HN.out; omega) ?_
         intro a4 c4 W4 HI4 HB6)
      | fail)
    have HBW4 : Hid (Below w.heap.size w W4) := HBW3.out.trans ((HB5.out.trans HB6.out).mono HBW3.out.size)
    refine (tag_is key (s.data.toList ++ [1]) D HD.out a a4 n (s.size + 1) cp c4 W4 (HK.out.below HBW4.out) (HS.out.below HBW4.out) (HL.out.below HBW4.out) HI4.out (by have := HN.out; omega) (by have := HN.out; omega)).mono ?_
    rintro e w5 ⟨rfl, HB7⟩
    have HBW5 : Hid (Below w.heap.size w w5) := HBW4.out.trans (HB7.out.mono HBW4.out.size)
    go_wp2_with (go_at_call 7; refine (lives_is w5 (HK.out.below HBW5.out) (HS.out.below HBW5.out)).mono ?_; rintro e w6 ⟨rfl, hw6⟩)
    go_ret
    exact ⟨rfl, HBW5.out.trans (hw6.out.mono HBW5.out.size)⟩
#print axioms derivesLaw
end Go.Proofs.YtchblcfbllcbmaaDoor.Oct
