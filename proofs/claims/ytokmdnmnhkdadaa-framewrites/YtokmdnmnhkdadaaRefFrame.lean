/-
  Layer 4 (frame): the reference's frame.
-/
import Derived.Test.YtokmdnmnhkdadaaSums
namespace Go.Proofs.Ytokmdnmnhkdadaa.Oct
open Go.RowKit

set_option maxHeartbeats 400000 in
theorem four_is (n : Nat) (hn : n < 4294967296) (w : World) :
    Calls Try.prog 11 #[.int .u32 (n : Int)] w fun e w' => e = .returned (.slice (some ⟨w.heap.size, 0, none⟩) 4 4) ∧ In w' (some ⟨w.heap.size, 0, none⟩) 4 4 (be4 n) ∧ Below w.heap.size w w' := by
  have q0 : (n : Int) < 4294967296 := by omega
  go_enter Try.func11, Try.ntmps11
  go_wp2
  go_ret
  refine ⟨rfl, ?_, (Below.refl _ w).alloc (Nat.le_refl _) _⟩
  have e : (U (be4 n)).toArray = #[.int .u8 ((n : Int) / 16777216), .int .u8 ((n : Int) / 65536 % 256), .int .u8 ((n : Int) / 256 % 256), .int .u8 ((n : Int) % 256)] := by
    have h24 : (n : Int) / 16777216 = ((UInt8.ofNat (n / 16777216)).toNat : Int) := by rw [← be_byte24]; omega
    rw [h24, be_byte16, be_byte8, be_byte]
    rfl
  have h := in_new w 5 (be4 n) (by rw [be4_length]; omega)
  rw [e] at h
  exact h

theorem refFrame_long (l : List UInt8) (a : Option Addr) (n cp : Nat) (w : World) (hl : In w a n cp l) (hn : 65536 < n) :
    Calls Try.prog 9 #[.slice a n cp] w fun e w' => e = .returned (.tuple #[.slice none 0 0, .int .i64 3]) ∧ w = w' := by
  have b1 := hl.2.2.1
  have q : (65536 : Int) < (n : Int) := by omega
  go_enter Try.func9, Try.ntmps9
  go_wp2
  go_ret2
  exact ⟨rfl, rfl⟩

set_option maxHeartbeats 1000000 in
theorem refFrame_is (l : List UInt8) (a : Option Addr) (n cp : Nat) (w : World) (hl : In w a n cp l) (hn : n ≤ 65536) :
    Calls Try.prog 9 #[.slice a n cp] w fun e w' => ∃ v', e = .returned (.tuple #[v', .int .i64 0]) ∧ Own 5 w.heap.size w' v' (frameOf l) ∧ Below w.heap.size w w' := by
  obtain ⟨i0, hi, hz0, hz1, hz2⟩ := info_parts info5
  have HL : Hid (In w a n cp l) := hl
  have HLL : Hid (l.length = n) := hl.1
  have HN : Hid (n ≤ 65536) := hn
  have q0 : (n : Int) ≤ 65536 := by omega
  clear hl
  go_enter Try.func9, Try.ntmps9
  go_wp2_with fail
  refine (four_is n (by omega) w).mono ?_
  rintro e w1 ⟨rfl, hin1, hb1⟩
  have HI1 : Hid (In w1 (some ⟨w.heap.size, 0, none⟩) 4 4 (be4 n)) := hin1
  have HB1 : Hid (Below w.heap.size w w1) := hb1
  clear hin1 hb1
  have H0 : Hid ((w1.alloc (.cells #[] 5)).ownsRow w1.heap.size 5 1 (.slice (some ⟨w1.heap.size, 0, none⟩) 0 0) 0 (U [])) := World.ownsRow_made w1 #[] 0 (Nat.le_refl _) (by unfold maxLen; omega) rfl
  have HB0 : Hid (Below w1.heap.size w1 (w1.alloc (.cells #[] 5))) := (Below.refl _ _).alloc (Nat.le_refl _) _
  go_wp2_with (at_builtin; refine wpList_append_in _ rfl (.tmp 13) (.tmp 14) 22 rfl w1.heap.size 5 i0 Try.underlying22 hi hz0 hz1 hz2 _ [] 0 rfl rfl H0.out (some ⟨w.heap.size, 0, none⟩) 4 4 (be4 n) rfl (HI1.out.below HB0.out) (by omega) HB0.out.size ?_)
  intro v2 w2 ho2 hg2
  have HO2 : Hid (Own 5 w1.heap.size w2 v2 (be4 n)) := ho2
  have HB2 : Hid (Below w1.heap.size w1 w2) := HB0.out.grown hg2 HB0.out.size (by intro b hb; simp [Value.ownBlock] at hb; omega)
  clear ho2 hg2
  go_wp2_with fail
  refine (refSum_is (be4 n) _ 4 4 w2 (HI1.out.below HB2.out)).mono ?_
  rintro e w3 ⟨rfl, rfl⟩
  have HS1 : Hid ((crc (be4 n)).toNat < 4294967296) := lt32 (crc (be4 n))
  obtain ⟨s1, hs1e⟩ : ∃ s, s = (crc (be4 n)).toNat := ⟨_, rfl⟩
  have HS1e : Hid (s1 = (crc (be4 n)).toNat) := hs1e
  rw [← hs1e] at HS1 ⊢
  clear hs1e
  go_wp2_with fail
  refine (four_is s1 HS1.out w2).mono ?_
  rintro e w4 ⟨rfl, hin4, hb4⟩
  have HI4 : Hid (In w4 (some ⟨w2.heap.size, 0, none⟩) 4 4 (be4 s1)) := hin4
  have HB4 : Hid (Below w1.heap.size w1 w4) := HB2.out.trans (hb4.mono HB2.out.size)
  have HO4 : Hid (w4.ownsRow w1.heap.size 5 1 v2 4 (U (be4 n))) := own_size rfl (HO2.out.below hb4 (Nat.le_refl _))
  clear hin4 hb4
  have HWB4 : Hid (Below w.heap.size w w4) := HB1.out.trans (HB4.out.mono HB1.out.size)
  go_wp2_with (first
    | (at_builtin; refine wpList_append_in _ rfl (.tmp 15) (.tmp 18) 22 rfl w1.heap.size 5 i0 Try.underlying22 hi hz0 hz1 hz2 v2 (be4 n) 4 rfl rfl HO4.out (some ⟨w2.heap.size, 0, none⟩) 4 4 (be4 s1) rfl HI4.out (by omega) HB4.out.size ?_; intro v5 w5 ho5 hg5; have HO5 : Hid (w5.ownsRow w1.heap.size 5 1 v5 8 (U (be4 n ++ be4 s1))) := own_size rfl ho5; have HB5 : Hid (Below w1.heap.size w1 w5) := HB4.out.grown hg5 HB4.out.size (by intro b hb; exact (HO4.out.lt b hb).1); clear ho5 hg5; have HWB5 : Hid (Below w.heap.size w w5) := HB1.out.trans (HB5.out.mono HB1.out.size))
    | (at_builtin; refine wpList_append_in _ rfl (.tmp 20) (.tmp 21) 22 rfl w1.heap.size 5 i0 Try.underlying22 hi hz0 hz1 hz2 v5 (be4 n ++ be4 s1) 8 rfl rfl HO5.out a n cp l rfl (HL.out.below HWB5.out) (by have := HN.out; omega) HB5.out.size ?_; intro v6 w6 ho6 hg6; have HO6 : Hid (Own 5 w1.heap.size w6 v6 (be4 n ++ be4 s1 ++ l)) := ho6; have HB6 : Hid (Below w1.heap.size w1 w6) := HB5.out.grown hg6 HB5.out.size (by intro b hb; exact (HO5.out.lt b hb).1); clear ho6 hg6; have HWB6 : Hid (Below w.heap.size w w6) := HB1.out.trans (HB6.out.mono HB1.out.size))
    | (go_at_call 7; fail))
  refine (refSum_is l a n cp w6 (HL.out.below HWB6.out)).mono ?_
  rintro e w7 ⟨rfl, rfl⟩
  have HS2 : Hid ((crc l).toNat < 4294967296) := lt32 (crc l)
  obtain ⟨s2, hs2e⟩ : ∃ s, s = (crc l).toNat := ⟨_, rfl⟩
  have HS2e : Hid (s2 = (crc l).toNat) := hs2e
  rw [← hs2e] at HS2 ⊢
  clear hs2e
  go_wp2_with fail
  refine (four_is s2 HS2.out w6).mono ?_
  rintro e w8 ⟨rfl, hin8, hb8⟩
  have HI8 : Hid (In w8 (some ⟨w6.heap.size, 0, none⟩) 4 4 (be4 s2)) := hin8
  have HB8 : Hid (Below w1.heap.size w1 w8) := HB6.out.trans (hb8.mono HB6.out.size)
  have HL8 : Hid ((be4 n ++ be4 s1 ++ l).length = n + 8) := by show _ = _; rw [List.length_append, HLL.out]; show 8 + n = _; omega
  have HO8 : Hid (w8.ownsRow w1.heap.size 5 1 v6 (n + 8) (U (be4 n ++ be4 s1 ++ l))) := own_size HL8.out (HO6.out.below hb8 (Nat.le_refl _))
  clear hin8 hb8
  go_wp2_with (at_builtin; refine wpList_append_in _ rfl (.tmp 23) (.tmp 26) 22 rfl w1.heap.size 5 i0 Try.underlying22 hi hz0 hz1 hz2 v6 (be4 n ++ be4 s1 ++ l) (n + 8) HL8.out rfl HO8.out (some ⟨w6.heap.size, 0, none⟩) 4 4 (be4 s2) rfl HI8.out (by have := HN.out; omega) HB8.out.size ?_; intro v9 w9 ho9 hg9; have HO9 : Hid (Own 5 w1.heap.size w9 v9 (be4 n ++ be4 s1 ++ l ++ be4 s2)) := ho9; have HB9 : Hid (Below w1.heap.size w1 w9) := HB8.out.grown hg9 HB8.out.size (by intro b hb; exact (HO8.out.lt b hb).1); clear ho9 hg9)
  go_ret2
  refine ⟨v9, rfl, ?_, HB1.out.trans (HB9.out.mono HB1.out.size)⟩
  have e : frameOf l = be4 n ++ be4 s1 ++ l ++ be4 s2 := by unfold frameOf; rw [HLL.out, HS1e.out, HS2e.out]
  rw [e]
  exact HO9.out.mono HB1.out.size
#print axioms refFrame_is
end Go.Proofs.Ytokmdnmnhkdadaa.Oct
