/-
  Layer 3 (mac): the law on 'Check', walked.
-/
import Derived.Test.YtchblcfbllcbmaaDoorChecks
namespace Go.Proofs.YtchblcfbllcbmaaDoor.Oct
open Go.RowKit Sha

set_option maxHeartbeats 2000000 in
set_option maxRecDepth 100000 in
theorem checks_same (key msg T : List UInt8) (S1 : ByteArray) (hT : tagOf key msg = T) (hS1 : S1 = ⟨T.toArray⟩) (a b c : Option Addr) (n m p cp cq cr : Nat) (w : World) (hk : KT w) (hs : ST w) (hl : In w a n cp key) (hr : In w b m cq msg) (ht : In w c p cr T) (hN : n + m + p ≤ 20000) :
    Calls Tryd.prog 4 #[.slice a n cp, .slice b m cq, .slice c p cr] w fun e w' => e = .returned (.bool true) ∧ Below w.heap.size w w' := by
  obtain ⟨i0, hi, hz0, hz1, hz2⟩ := info_parts info5
  have HK : Hid (KT w) := hk
  have HS : Hid (ST w) := hs
  have HL : Hid (In w a n cp key) := hl
  have HR : Hid (In w b m cq msg) := hr
  have HTG : Hid (In w c p cr T) := ht
  have HN : Hid (n + m + p ≤ 20000) := hN
  have HT : Hid (tagOf key msg = T) := hT
  have HTL : Hid (T.length = 32) := by show _ = _; rw [← hT]; exact tagOf_len _ _
  have HUT : Hid ((U T).length = 32) := by show _ = _; rw [U_length]; exact HTL.out
  have HS1 : Hid (S1 = ⟨T.toArray⟩) := hS1
  have q : (n : Int) + (m : Int) + (p : Int) ≤ 20000 := by omega
  have b1 := hl.2.2.1
  have b2 := hr.2.2.1
  have b3 := ht.2.2.1
  have h25 := slice25
  have h31 := slice25_31
  clear hk hs hl hr ht hN hT hS1
  go_enter Tryd.func4, Tryd.ntmps4
  go_wp2_with fail
  refine (refTag_is key msg T HT.out a b n m cp cq w HL.out HR.out (by have := HN.out; omega) (by have := HN.out; omega)).mono ?_
  rintro e w1 ⟨rfl, HB1⟩
  go_wp2_with (first
    | (with_reducible change wpList _ _ _ ({ dst := none, op := Op.store 25 _ _, type := _, pos := _, after := _, guard := _ } :: _) _ _
       refine wpList_store_blk rfl 25 (.tmp 7) (.tmp 20) rfl w1.heap.size 0 25 (zb 32) (U T) rfl rfl (Blk.new w1 _ 25) (by rw [HUT.out, zb_length]; omega) (by rw [size25, HUT.out]) (U_one _) ?_
       intro w2 hB2 hG2
       have H2 : Hid (Blk w2 w1.heap.size 25 (U T) ∧ Below w1.heap.size w1 w2) := new25 HUT.out hB2.out hG2.out
       clear hB2 hG2)
    | fail)
  have HBW2 : Hid (Below w.heap.size w w2) := HB1.out.trans (H2.out.2.mono HB1.out.size)
  have HD2 : Hid (In w2.drew (some ⟨w1.heap.size, 0, none⟩) 32 32 T) := in25 HTL.out H2.out.1
  have HBD : Hid (Below w.heap.size w w2.drew) := ⟨HBW2.out.os, HBW2.out.tape, HBW2.out.output, HBW2.out.size, HBW2.out.block⟩
  have HKEEP : Hid (∀ W, Below w2.drew.heap.size w2.drew W → (convert 22 9 (.slice c p cr)).run Tryd.prog W = .ok (.string S1) W ∧ (convert 22 9 (.slice (some ⟨w1.heap.size, 0, none⟩) 32 32)).run Tryd.prog W = .ok (.string S1) W) := by
    intro W hW
    refine ⟨?_, ?_⟩
    · rw [HS1.out]; exact string_in Tryd.underlying22 Tryd.underlying5 Tryd.underlying9 ((HTG.out.below HBD.out).below hW)
    · rw [HS1.out]; exact string_in Tryd.underlying22 Tryd.underlying5 Tryd.underlying9 (HD2.out.below hW)
  have kk2 := HKEEP.out w2.drew (Below.refl _ _)
  clear H2 HB1 HBW2
  go_region_held_law (fun w' => (convert 22 9 (.slice c p cr)).run Tryd.prog w' = .ok (.string S1) w' ∧ (convert 22 9 (.slice (some ⟨w1.heap.size, 0, none⟩) 32 32)).run Tryd.prog w' = .ok (.string S1) w') (first | exact kk2 | exact kk3 | exact kk4 | exact kk5 | exact kk6 | exact kk7 | exact kk8 | exact kk9) (first
    | (go_at_call_of 10 (Value.slice (some ⟨w1.heap.size, 0, none⟩) 32 32); refine (check_is key msg T T true HT.out (by simp) a b (some ⟨w1.heap.size, 0, none⟩) n m 32 cp cq 32 w2.drew (HK.out.below HBD.out) (HS.out.below HBD.out) (HL.out.below HBD.out) (HR.out.below HBD.out) HD2.out (by have := HN.out; omega) (by have := HN.out; omega)).mono ?_; rintro e w3 ⟨rfl, HB3⟩; have kk3 := HKEEP.out w3 HB3.out; have HBW3 : Hid (Below w.heap.size w w3) := HBD.out.trans (HB3.out.mono HBD.out.size))
    | (go_at_call_of 10 (Value.slice c p cr); refine (check_is key msg T T true HT.out (by simp) a b c n m p cp cq cr w3 (HK.out.below HBW3.out) (HS.out.below HBW3.out) (HL.out.below HBW3.out) (HR.out.below HBW3.out) (HTG.out.below HBW3.out) (by have := HN.out; omega) (by have := HN.out; omega)).mono ?_; rintro e w4 ⟨rfl, hB4⟩; have HB4 : Hid (Below w2.drew.heap.size w2.drew w4) := HB3.out.trans (hB4.out.mono HB3.out.size); have kk4 := HKEEP.out w4 HB4.out; have HBW4 : Hid (Below w.heap.size w w4) := HBD.out.trans (HB4.out.mono HBD.out.size); clear hB4)
    | (go_at_call_of 10 (Value.slice (some ⟨w1.heap.size, 0, none⟩) 31 32); refine (check_is key msg (T.take 31) T false HT.out (ne_take HTL.out) a b (some ⟨w1.heap.size, 0, none⟩) n m 31 cp cq 32 w4 (HK.out.below HBW4.out) (HS.out.below HBW4.out) (HL.out.below HBW4.out) (HR.out.below HBW4.out) (in_take (HD2.out.below HB4.out)) (by have := HN.out; omega) (by have := HN.out; omega)).mono ?_; rintro e w5 ⟨rfl, hB5⟩; have HB5 : Hid (Below w2.drew.heap.size w2.drew w5) := HB4.out.trans (hB5.out.mono HB4.out.size); have kk5 := HKEEP.out w5 HB5.out; have HBW5 : Hid (Below w.heap.size w w5) := HBD.out.trans (HB5.out.mono HBD.out.size); have kk6 := HKEEP.out (w5.alloc (.cells #[.int .u8 0] 5)) (HB5.out.alloc HB5.out.size _); clear hB5)
    | ((with_reducible change (if _ then Oper.wp _ _ _ _ _ _ else _)); refine step_append_full (w5.alloc (.cells #[.int .u8 0] 5)) (by rfl) (.tmp 47) (.tmp 48) 22 rfl 5 i0 Tryd.underlying22 hi hz0 hz1 hz2 w1.heap.size 32 32 T [0] rfl ((HD2.out.below HB5.out).below ((Below.refl _ w5).alloc (Nat.le_refl _) (.cells #[.int .u8 0] 5))) ⟨w5.heap.size, 0, none⟩ 1 1 rfl (show In (w5.alloc (.cells #[.int .u8 0] 5)) _ _ _ _ from in_new w5 5 [0] (by simp)) (by omega) (by omega) ?_; intro a7 c7 w7 HI7 hB7; have HB7 : Hid (Below w.heap.size w w7) := (HBW5.out.alloc HBW5.out.size _).trans (hB7.out.mono (HBW5.out.alloc HBW5.out.size _).size); have HB27 : Hid (Below w2.drew.heap.size w2.drew w7) := (HB5.out.alloc HB5.out.size _).trans (hB7.out.mono (HB5.out.alloc HB5.out.size _).size); have kk7 : (convert 22 9 (.slice c p cr)).run Tryd.prog w7 = .ok (.string S1) w7 ∧ (convert 22 9 (.slice (some ⟨w1.heap.size, 0, none⟩) 32 32)).run Tryd.prog w7 = .ok (.string S1) w7 := HKEEP.out w7 HB27.out; clear hB7)
    | (go_at_call_of 10 (Value.slice a7 33 c7); refine (check_is key msg (T ++ [0]) T false HT.out ne_more a b a7 n m 33 cp cq c7 w7 (HK.out.below HB7.out) (HS.out.below HB7.out) (HL.out.below HB7.out) (HR.out.below HB7.out) HI7.out (by have := HN.out; omega) (by have := HN.out; omega)).mono ?_; rintro e w8 ⟨rfl, hB8⟩; have HB8 : Hid (Below w.heap.size w w8) := HB7.out.trans (hB8.out.mono HB7.out.size); have kk8 : (convert 22 9 (.slice c p cr)).run Tryd.prog w8 = .ok (.string S1) w8 ∧ (convert 22 9 (.slice (some ⟨w1.heap.size, 0, none⟩) 32 32)).run Tryd.prog w8 = .ok (.string S1) w8 := HKEEP.out w8 (HB27.out.trans (hB8.out.mono HB27.out.size)))
    | (go_at_call 7; refine (lives_is w8 (HK.out.below HB8.out) (HS.out.below HB8.out)).mono ?_; rintro e w9 ⟨rfl, hB9⟩; have kk9 : (convert 22 9 (.slice c p cr)).run Tryd.prog w9 = .ok (.string S1) w9 ∧ (convert 22 9 (.slice (some ⟨w1.heap.size, 0, none⟩) 32 32)).run Tryd.prog w9 = .ok (.string S1) w9 := HKEEP.out w9 ((HB27.out.trans (hB8.out.mono HB27.out.size)).trans (hB9.out.mono (HB27.out.trans (hB8.out.mono HB27.out.size)).size))))
  go_wp2
  go_ret
  exact ⟨rfl, HB8.out.trans (hB9.out.mono HB8.out.size)⟩

set_option maxHeartbeats 2000000 in
set_option maxRecDepth 100000 in
theorem checks_other (key msg tag T : List UInt8) (S1 S2 : ByteArray) (hT : tagOf key msg = T) (hres : decide (T = tag) = false) (hS1 : S1 = ⟨tag.toArray⟩) (hS2 : S2 = ⟨T.toArray⟩) (hSS : (S1.toList == S2.toList) = false) (a b c : Option Addr) (n m p cp cq cr : Nat) (w : World) (hk : KT w) (hs : ST w) (hl : In w a n cp key) (hr : In w b m cq msg) (ht : In w c p cr tag) (hN : n + m + p ≤ 20000) :
    Calls Tryd.prog 4 #[.slice a n cp, .slice b m cq, .slice c p cr] w fun e w' => e = .returned (.bool true) ∧ Below w.heap.size w w' := by
  obtain ⟨i0, hi, hz0, hz1, hz2⟩ := info_parts info5
  have HK : Hid (KT w) := hk
  have HS : Hid (ST w) := hs
  have HL : Hid (In w a n cp key) := hl
  have HR : Hid (In w b m cq msg) := hr
  have HTG : Hid (In w c p cr tag) := ht
  have HN : Hid (n + m + p ≤ 20000) := hN
  have HT : Hid (tagOf key msg = T) := hT
  have HRES : Hid (decide (T = tag) = false) := hres
  have HTL : Hid (T.length = 32) := by show _ = _; rw [← hT]; exact tagOf_len _ _
  have HUT : Hid ((U T).length = 32) := by show _ = _; rw [U_length]; exact HTL.out
  have HS1 : Hid (S1 = ⟨tag.toArray⟩) := hS1
  have HS2 : Hid (S2 = ⟨T.toArray⟩) := hS2
  have q : (n : Int) + (m : Int) + (p : Int) ≤ 20000 := by omega
  have b1 := hl.2.2.1
  have b2 := hr.2.2.1
  have b3 := ht.2.2.1
  have h25 := slice25
  have h31 := slice25_31
  clear hk hs hl hr ht hN hT hres hS1 hS2
  go_enter Tryd.func4, Tryd.ntmps4
  go_wp2_with fail
  refine (refTag_is key msg T HT.out a b n m cp cq w HL.out HR.out (by have := HN.out; omega) (by have := HN.out; omega)).mono ?_
  rintro e w1 ⟨rfl, HB1⟩
  go_wp2_with (first
    | (with_reducible change wpList _ _ _ ({ dst := none, op := Op.store 25 _ _, type := _, pos := _, after := _, guard := _ } :: _) _ _
       refine wpList_store_blk rfl 25 (.tmp 7) (.tmp 20) rfl w1.heap.size 0 25 (zb 32) (U T) rfl rfl (Blk.new w1 _ 25) (by rw [HUT.out, zb_length]; omega) (by rw [size25, HUT.out]) (U_one _) ?_
       intro w2 hB2 hG2
       have H2 : Hid (Blk w2 w1.heap.size 25 (U T) ∧ Below w1.heap.size w1 w2) := new25 HUT.out hB2.out hG2.out
       clear hB2 hG2)
    | fail)
  have HBW2 : Hid (Below w.heap.size w w2) := HB1.out.trans (H2.out.2.mono HB1.out.size)
  have HD2 : Hid (In w2.drew (some ⟨w1.heap.size, 0, none⟩) 32 32 T) := in25 HTL.out H2.out.1
  have HBD : Hid (Below w.heap.size w w2.drew) := ⟨HBW2.out.os, HBW2.out.tape, HBW2.out.output, HBW2.out.size, HBW2.out.block⟩
  have HKEEP : Hid (∀ W, Below w2.drew.heap.size w2.drew W → (convert 22 9 (.slice c p cr)).run Tryd.prog W = .ok (.string S1) W ∧ (convert 22 9 (.slice (some ⟨w1.heap.size, 0, none⟩) 32 32)).run Tryd.prog W = .ok (.string S2) W) := by
    intro W hW
    refine ⟨?_, ?_⟩
    · rw [HS1.out]; exact string_in Tryd.underlying22 Tryd.underlying5 Tryd.underlying9 ((HTG.out.below HBD.out).below hW)
    · rw [HS2.out]; exact string_in Tryd.underlying22 Tryd.underlying5 Tryd.underlying9 (HD2.out.below hW)
  have kk2 := HKEEP.out w2.drew (Below.refl _ _)
  clear H2 HB1 HBW2
  go_region_held_law (fun w' => (convert 22 9 (.slice c p cr)).run Tryd.prog w' = .ok (.string S1) w' ∧ (convert 22 9 (.slice (some ⟨w1.heap.size, 0, none⟩) 32 32)).run Tryd.prog w' = .ok (.string S2) w') (first | exact kk2 | exact kk3 | exact kk4 | exact kk5 | exact kk6 | exact kk7 | exact kk8 | exact kk9) (first
    | (go_at_call_of 10 (Value.slice (some ⟨w1.heap.size, 0, none⟩) 32 32); refine (check_is key msg T T true HT.out (by simp) a b (some ⟨w1.heap.size, 0, none⟩) n m 32 cp cq 32 w2.drew (HK.out.below HBD.out) (HS.out.below HBD.out) (HL.out.below HBD.out) (HR.out.below HBD.out) HD2.out (by have := HN.out; omega) (by have := HN.out; omega)).mono ?_; rintro e w3 ⟨rfl, HB3⟩; have kk3 := HKEEP.out w3 HB3.out; have HBW3 : Hid (Below w.heap.size w w3) := HBD.out.trans (HB3.out.mono HBD.out.size))
    | (go_at_call_of 10 (Value.slice c p cr); refine (check_is key msg tag T false HT.out HRES.out a b c n m p cp cq cr w3 (HK.out.below HBW3.out) (HS.out.below HBW3.out) (HL.out.below HBW3.out) (HR.out.below HBW3.out) (HTG.out.below HBW3.out) (by have := HN.out; omega) (by have := HN.out; omega)).mono ?_; rintro e w4 ⟨rfl, hB4⟩; have HB4 : Hid (Below w2.drew.heap.size w2.drew w4) := HB3.out.trans (hB4.out.mono HB3.out.size); have kk4 := HKEEP.out w4 HB4.out; have HBW4 : Hid (Below w.heap.size w w4) := HBD.out.trans (HB4.out.mono HBD.out.size); clear hB4)
    | (go_at_call_of 10 (Value.slice (some ⟨w1.heap.size, 0, none⟩) 31 32); refine (check_is key msg (T.take 31) T false HT.out (ne_take HTL.out) a b (some ⟨w1.heap.size, 0, none⟩) n m 31 cp cq 32 w4 (HK.out.below HBW4.out) (HS.out.below HBW4.out) (HL.out.below HBW4.out) (HR.out.below HBW4.out) (in_take (HD2.out.below HB4.out)) (by have := HN.out; omega) (by have := HN.out; omega)).mono ?_; rintro e w5 ⟨rfl, hB5⟩; have HB5 : Hid (Below w2.drew.heap.size w2.drew w5) := HB4.out.trans (hB5.out.mono HB4.out.size); have kk5 := HKEEP.out w5 HB5.out; have HBW5 : Hid (Below w.heap.size w w5) := HBD.out.trans (HB5.out.mono HBD.out.size); have kk6 := HKEEP.out (w5.alloc (.cells #[.int .u8 0] 5)) (HB5.out.alloc HB5.out.size _); clear hB5)
    | ((with_reducible change (if _ then Oper.wp _ _ _ _ _ _ else _)); refine step_append_full (w5.alloc (.cells #[.int .u8 0] 5)) (by rfl) (.tmp 47) (.tmp 48) 22 rfl 5 i0 Tryd.underlying22 hi hz0 hz1 hz2 w1.heap.size 32 32 T [0] rfl ((HD2.out.below HB5.out).below ((Below.refl _ w5).alloc (Nat.le_refl _) (.cells #[.int .u8 0] 5))) ⟨w5.heap.size, 0, none⟩ 1 1 rfl (show In (w5.alloc (.cells #[.int .u8 0] 5)) _ _ _ _ from in_new w5 5 [0] (by simp)) (by omega) (by omega) ?_; intro a7 c7 w7 HI7 hB7; have HB7 : Hid (Below w.heap.size w w7) := (HBW5.out.alloc HBW5.out.size _).trans (hB7.out.mono (HBW5.out.alloc HBW5.out.size _).size); have HB27 : Hid (Below w2.drew.heap.size w2.drew w7) := (HB5.out.alloc HB5.out.size _).trans (hB7.out.mono (HB5.out.alloc HB5.out.size _).size); have kk7 : (convert 22 9 (.slice c p cr)).run Tryd.prog w7 = .ok (.string S1) w7 ∧ (convert 22 9 (.slice (some ⟨w1.heap.size, 0, none⟩) 32 32)).run Tryd.prog w7 = .ok (.string S2) w7 := HKEEP.out w7 HB27.out; clear hB7)
    | (go_at_call_of 10 (Value.slice a7 33 c7); refine (check_is key msg (T ++ [0]) T false HT.out ne_more a b a7 n m 33 cp cq c7 w7 (HK.out.below HB7.out) (HS.out.below HB7.out) (HL.out.below HB7.out) (HR.out.below HB7.out) HI7.out (by have := HN.out; omega) (by have := HN.out; omega)).mono ?_; rintro e w8 ⟨rfl, hB8⟩; have HB8 : Hid (Below w.heap.size w w8) := HB7.out.trans (hB8.out.mono HB7.out.size); have kk8 : (convert 22 9 (.slice c p cr)).run Tryd.prog w8 = .ok (.string S1) w8 ∧ (convert 22 9 (.slice (some ⟨w1.heap.size, 0, none⟩) 32 32)).run Tryd.prog w8 = .ok (.string S2) w8 := HKEEP.out w8 (HB27.out.trans (hB8.out.mono HB27.out.size)))
    | (go_at_call 7; refine (lives_is w8 (HK.out.below HB8.out) (HS.out.below HB8.out)).mono ?_; rintro e w9 ⟨rfl, hB9⟩; have kk9 : (convert 22 9 (.slice c p cr)).run Tryd.prog w9 = .ok (.string S1) w9 ∧ (convert 22 9 (.slice (some ⟨w1.heap.size, 0, none⟩) 32 32)).run Tryd.prog w9 = .ok (.string S2) w9 := HKEEP.out w9 ((HB27.out.trans (hB8.out.mono HB27.out.size)).trans (hB9.out.mono (HB27.out.trans (hB8.out.mono HB27.out.size)).size))))
  go_wp2
  go_ret
  exact ⟨rfl, HB8.out.trans (hB9.out.mono HB8.out.size)⟩

theorem strEq (l r : List UInt8) : ((⟨l.toArray⟩ : ByteArray).toList == (⟨r.toArray⟩ : ByteArray).toList) = decide (l = r) := by
  rw [ByteArray.toList_eq, ByteArray.toList_eq]
  simp [Bool.beq_eq_decide_eq]

theorem checksLaw (key msg tag : List UInt8) (a b c : Option Addr) (n m p cp cq cr : Nat) (w : World) (hk : KT w) (hs : ST w) (hl : In w a n cp key) (hr : In w b m cq msg) (ht : In w c p cr tag) :
    Calls Tryd.prog 4 #[.slice a n cp, .slice b m cq, .slice c p cr] w fun e w' => e = .returned (.bool true) ∧ Below w.heap.size w w' := by
  by_cases hbig : 20000 < n + m + p
  · have HK : Hid (KT w) := hk
    have HS : Hid (ST w) := hs
    have b1 := hl.2.2.1
    have b2 := hr.2.2.1
    have b3 := ht.2.2.1
    have q : (20000 : Int) < (n : Int) + (m : Int) + (p : Int) := by omega
    clear hk hs hl hr ht
    go_enter Tryd.func4, Tryd.ntmps4
    go_wp2_with (go_at_call 7; refine (lives_is w HK.out HS.out).mono ?_; rintro e w1 ⟨rfl, hw1⟩)
    go_ret
    exact ⟨rfl, hw1.out⟩
  · by_cases he : tagOf key msg = tag
    · subst he
      exact checks_same key msg _ _ rfl rfl a b c n m p cp cq cr w hk hs hl hr ht (by omega)
    · exact checks_other key msg tag _ _ _ rfl (decide_eq_false he) rfl rfl (by rw [strEq]; exact decide_eq_false (fun h => he h.symm)) a b c n m p cp cq cr w hk hs hl hr ht (by omega)
#print axioms checksLaw
end Go.Proofs.YtchblcfbllcbmaaDoor.Oct
