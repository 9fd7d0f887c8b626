/-
  Layer 3 (mac): the law on keys, walked.
-/
import Derived.Test.YtchblcfbllcbmaaDoorTagsLaw
import Derived.Test.YtchblcfbllcbmaaDoorZeros
namespace Go.Proofs.YtchblcfbllcbmaaDoor.Oct
open Go.RowKit Sha

set_option maxHeartbeats 1000000 in
set_option maxRecDepth 100000 in
theorem keys_long (key msg : List UInt8) (a b : Option Addr) (n m cp cq : Nat) (more : Int) (w : World) (hk : KT w) (hs : ST w) (hl : In w a n cp key) (hr : In w b m cq msg) (hN : n + m ≤ 20000) (hn : 64 < n) :
    Calls Tryd.prog 5 #[.slice a n cp, .slice b m cq, .int .i64 more] w fun e w' => e = .returned (.bool true) ∧ Below w.heap.size w w' := by
  have HK : Hid (KT w) := hk
  have HS : Hid (ST w) := hs
  have HL : Hid (In w a n cp key) := hl
  have HR : Hid (In w b m cq msg) := hr
  have HN : Hid (n + m ≤ 20000) := hN
  have q : (n : Int) + (m : Int) ≤ 20000 := by omega
  have q1 : (64 : Int) < (n : Int) := by omega
  have b1 := hl.2.2.1
  have b2 := hr.2.2.1
  obtain ⟨D, hD⟩ : ∃ D, sum key = D := ⟨_, rfl⟩
  obtain ⟨T, hT⟩ : ∃ T, tagOf key msg = T := ⟨_, rfl⟩
  have hT2 : tagOf D msg = T := by rw [← hT, ← hD]; exact tag_long key msg (by rw [hl.1]; exact hn)
  have HD : Hid (sum key = D) := hD
  have HT : Hid (tagOf key msg = T) := hT
  have HT2 : Hid (tagOf D msg = T) := hT2
  have HDL : Hid (D.length = 32) := by show _ = _; rw [← hD]; exact sum_length _
  have HUD : Hid ((U D).length = 32) := by show _ = _; rw [U_length]; exact HDL.out
  have hq := eq_same T (by rw [← hT]; exact tagOf_len key msg)
  have h25 := slice25
  clear hk hs hl hr hN hn hD hT hT2
  go_enter Tryd.func5, Tryd.ntmps5
  go_wp2_with fail
  refine (sum_is' key D HD.out a n cp w HK.out HS.out HL.out (by have := HN.out; omega)).mono ?_
  rintro e w1 ⟨rfl, HB1⟩
  go_wp2_with (first
    | (with_reducible change wpList _ _ _ ({ dst := none, op := Op.store 25 _ _, type := _, pos := _, after := _, guard := _ } :: _) _ _
       refine wpList_store_blk rfl 25 (.tmp 7) (.tmp 20) rfl w1.heap.size 0 25 (zb 32) (U D) rfl rfl (Blk.new w1 _ 25) (by rw [HUD.out, zb_length]; omega) (by rw [size25, HUD.out]) (U_one _) ?_
       intro w2 hB2 hG2
       have H2 : Hid (Blk w2 w1.heap.size 25 (U D) ∧ Below w1.heap.size w1 w2) := new25 HUD.out hB2.out hG2.out
       clear hB2 hG2)
    | fail)
  have HBW2 : Hid (Below w.heap.size w w2) := HB1.out.trans (H2.out.2.mono HB1.out.size)
  have HD2 : Hid (In w2 (some ⟨w1.heap.size, 0, none⟩) 32 32 D) := in25 HDL.out H2.out.1
  have HBD : Hid (Below w.heap.size w w2.drew) := ⟨HBW2.out.os, HBW2.out.tape, HBW2.out.output, HBW2.out.size, HBW2.out.block⟩
  clear H2 HB1 HBW2
  go_region_held_law (fun _ => True) (trivial) (first
    | (go_at_call_of 8 (Value.slice a n cp); refine (tag_is key msg T HT.out a b n m cp cq w2.drew (HK.out.below HBD.out) (HS.out.below HBD.out) (HL.out.below HBD.out) (HR.out.below HBD.out) (by have := HN.out; omega) (by have := HN.out; omega)).mono ?_; rintro e w3 ⟨rfl, HB3⟩; have HBW3 : Hid (Below w.heap.size w w3) := HBD.out.trans (HB3.out.mono HBD.out.size))
    | (go_at_call_of 8 (Value.slice (some ⟨w1.heap.size, 0, none⟩) 32 32); refine (tag_is D msg T HT2.out (some ⟨w1.heap.size, 0, none⟩) b 32 m 32 cq w3 (HK.out.below HBW3.out) (HS.out.below HBW3.out) ((show In w2.drew _ _ _ _ from HD2.out).below HB3.out) (HR.out.below HBW3.out) (by omega) (by have := HN.out; omega)).mono ?_; rintro e w4 ⟨rfl, HB4⟩; have HBW4 : Hid (Below w.heap.size w w4) := HBW3.out.trans (HB4.out.mono HBW3.out.size))
    | (go_at_call 7; refine (lives_is w4 (HK.out.below HBW4.out) (HS.out.below HBW4.out)).mono ?_; rintro e w5 ⟨rfl, hw5⟩))
  go_wp2
  go_ret
  exact ⟨rfl, HBW4.out.trans (hw5.out.mono HBW4.out.size)⟩

set_option maxHeartbeats 1000000 in
set_option maxRecDepth 100000 in
theorem keys_short (key msg : List UInt8) (a b : Option Addr) (n m cp cq : Nat) (more : Int) (w : World) (hk : KT w) (hs : ST w) (hl : In w a n cp key) (hr : In w b m cq msg) (hN : n + m ≤ 20000) (hn : n ≤ 64) :
    Calls Tryd.prog 5 #[.slice a n cp, .slice b m cq, .int .i64 more] w fun e w' => e = .returned (.bool true) ∧ Below w.heap.size w w' := by
  obtain ⟨i0, hi, hz0, hz1, hz2⟩ := info_parts info5
  have HK : Hid (KT w) := hk
  have HS : Hid (ST w) := hs
  have HL : Hid (In w a n cp key) := hl
  have HR : Hid (In w b m cq msg) := hr
  have HLL : Hid (key.length = n) := hl.1
  have HN : Hid (n + m ≤ 20000) := hN
  have HN64 : Hid (n ≤ 64) := hn
  have q : (n : Int) + (m : Int) ≤ 20000 := by omega
  have q1 : (n : Int) ≤ 64 := by omega
  have b1 := hl.2.2.1
  have b2 := hr.2.2.1
  have hwr : IntKind.u64.wrap more = more % 18446744073709551616 := IntKind.wrap_u64 more
  have hnn : 0 ≤ IntKind.u64.wrap more := by rw [hwr]; omega
  have hwm : IntKind.u64.wrap (65 - (n : Int)) = 65 - (n : Int) := by rw [IntKind.wrap_u64]; omega
  have htm : (IntKind.u64.wrap more).tmod (65 - (n : Int)) = (IntKind.u64.wrap more) % (65 - (n : Int)) := Int.tmod_eq_emod_of_nonneg hnn
  have hlo : 0 ≤ (IntKind.u64.wrap more) % (65 - (n : Int)) := Int.emod_nonneg _ (by omega)
  have hhi : (IntKind.u64.wrap more) % (65 - (n : Int)) < 65 - (n : Int) := Int.emod_lt_of_pos _ (by omega)
  obtain ⟨k, hkk⟩ : ∃ k : Nat, (IntKind.u64.wrap more).tmod (65 - (n : Int)) = (k : Int) := ⟨((IntKind.u64.wrap more) % (65 - (n : Int))).toNat, by rw [htm]; omega⟩
  have HKN : Hid (n + k ≤ 64) := by show n + k ≤ 64; omega
  have q2 : (k : Int) ≤ 64 := by omega
  clear hwr hnn htm hlo hhi
  obtain ⟨T, hT⟩ : ∃ T, tagOf key msg = T := ⟨_, rfl⟩
  have hT2 : tagOf (key ++ List.replicate k 0) msg = T := by rw [← hT]; exact tag_zeros key msg k (by rw [hl.1]; exact HKN.out)
  have HT : Hid (tagOf key msg = T) := hT
  have HT2 : Hid (tagOf (key ++ List.replicate k 0) msg = T) := hT2
  have hq := eq_same T (by rw [← hT]; exact tagOf_len key msg)
  clear hk hs hl hr hN hn hT hT2
  go_enter Tryd.func5, Tryd.ntmps5
  go_wp2_with fail
  refine (tag_is key msg T HT.out a b n m cp cq w HK.out HS.out HL.out HR.out (by have := HN.out; omega) (by have := HN.out; omega)).mono ?_
  rintro e w1 ⟨rfl, HB1⟩
  have H0 : Hid ((w1.alloc (.cells #[] 5)).ownsRow w1.heap.size 5 1 (.slice (some ⟨w1.heap.size, 0, none⟩) 0 0) 0 (U [])) := World.ownsRow_made w1 #[] 0 (Nat.le_refl _) (by unfold maxLen; omega) rfl
  have HB0 : Hid (Below w1.heap.size w1 (w1.alloc (.cells #[] 5))) := (Below.refl _ _).alloc (Nat.le_refl _) _
  go_wp2_with (first
    | (with_reducible change wpList _ _ _ ({ dst := some 44, op := _, type := _, pos := _, after := _, guard := _ } :: _) _ _
       refine wpList_append_in _ rfl (.tmp 42) (.tmp 43) 22 rfl w1.heap.size 5 i0 Tryd.underlying22 hi hz0 hz1 hz2 _ [] 0 rfl rfl H0.out a n cp key rfl ((HL.out.below HB1.out).below HB0.out) (by have := HN.out; omega) HB0.out.size ?_
       intro v2 w2 ho2 hg2
       have HB2 : Hid (Below w1.heap.size w1 w2) := HB0.out.grown hg2 HB0.out.size (by intro b hb; exact (H0.out.lt b hb).1)
       have HO2 : Hid (Own 5 w1.heap.size w2 v2 key) := ho2
       clear ho2 hg2)
    | (with_reducible change wpList _ _ _ ({ dst := some 46, op := _, type := _, pos := _, after := _, guard := _ } :: _) _ _
       refine wpList_zeros _ rfl (.tmp 44) (.tmp 45) 22 3 5 i0 .i64 rfl Tryd.underlying22 Tryd.underlying3 hi hz0 hz1 hz2 v2 key w1.heap.size rfl HO2.out HB2.out.size k rfl (by rw [HLL.out]; have := HKN.out; omega) ?_
       intro v3 w3 ho3 hg3
       have HB3 : Hid (Below w1.heap.size w1 w3) := HB2.out.grown hg3.out HB2.out.size (by intro b hb; exact (World.ownsRow.lt HO2.out b hb).1)
       have hl3 : (key ++ List.replicate k 0).length = n + k := by rw [List.length_append, HLL.out, List.length_replicate]
       obtain ⟨a3, c3, hv3, hin3, -⟩ := own_in ho3.out (by rw [hl3]; have := HKN.out; omega)
       rw [hl3] at hv3 hin3
       subst hv3
       have HI3 : Hid (In w3 a3 (n + k) c3 (key ++ List.replicate k 0)) := hin3
       clear ho3 hg3 hl3 hin3)
    | fail)
  have HBW3 : Hid (Below w.heap.size w w3) := HB1.out.trans (HB3.out.mono HB1.out.size)
  refine (tag_is (key ++ List.replicate k 0) msg T HT2.out a3 b (n + k) m c3 cq w3 (HK.out.below HBW3.out) (HS.out.below HBW3.out) HI3.out (HR.out.below HBW3.out) (by have := HKN.out; omega) (by have := HN.out; omega)).mono ?_
  rintro e w4 ⟨rfl, HB4⟩
  have HBW4 : Hid (Below w.heap.size w w4) := HBW3.out.trans (HB4.out.mono HBW3.out.size)
  go_wp2_with (go_at_call 7; refine (lives_is w4 (HK.out.below HBW4.out) (HS.out.below HBW4.out)).mono ?_; rintro e w5 ⟨rfl, hw5⟩)
  go_ret
  exact ⟨rfl, HBW4.out.trans (hw5.out.mono HBW4.out.size)⟩

theorem keysLaw (key msg : List UInt8) (a b : Option Addr) (n m cp cq : Nat) (more : Int) (w : World) (hk : KT w) (hs : ST w) (hl : In w a n cp key) (hr : In w b m cq msg) :
    Calls Tryd.prog 5 #[.slice a n cp, .slice b m cq, .int .i64 more] w fun e w' => e = .returned (.bool true) ∧ Below w.heap.size w w' := by
  by_cases hbig : 20000 < n + m
  · have HK : Hid (KT w) := hk
    have HS : Hid (ST w) := hs
    have b1 := hl.2.2.1
    have b2 := hr.2.2.1
    have q : (20000 : Int) < (n : Int) + (m : Int) := by omega
    clear hk hs hl hr
    go_enter Tryd.func5, Tryd.ntmps5
    go_wp2_with (go_at_call 7; refine (lives_is w HK.out HS.out).mono ?_; rintro e w1 ⟨rfl, hw1⟩)
    go_ret
    exact ⟨rfl, hw1.out⟩
  · by_cases hn : 64 < n
    · exact keys_long key msg a b n m cp cq more w hk hs hl hr (by omega) hn
    · exact keys_short key msg a b n m cp cq more w hk hs hl hr (by omega) (by omega)
#print axioms keysLaw
end Go.Proofs.YtchblcfbllcbmaaDoor.Oct
