/-
  Layer 4 (frame): 'Frame'.
-/
import Derived.Test.YtchblcfbllcbmabFrame
namespace Go.Proofs.Ytchblcfbllcbmab.Oct
open Go.RowKit

theorem frame_long (l : List UInt8) (a : Option Addr) (n cp : Nat) (w : World) (hl : In w a n cp l) (hn : 65536 < n) :
    Calls Try.prog 11 #[.slice a n cp] w fun e w' => e = .returned (.tuple #[.slice none 0 0, .int .i64 3]) ∧ w = w' := by
  have b1 := hl.2.2.1
  have q : (65536 : Int) < (n : Int) := by omega
  go_enter Try.func11, Try.ntmps11
  go_wp2
  go_ret2
  exact ⟨rfl, rfl⟩

set_option maxHeartbeats 1000000 in
theorem frame_is (l : List UInt8) (a : Option Addr) (n cp : Nat) (w : World) (hl : In w a n cp l) (hn : n ≤ 65536) :
    Calls Try.prog 11 #[.slice a n cp] w fun e w' => ∃ v', e = .returned (.tuple #[v', .int .i64 0]) ∧ Own 5 w.heap.size w' v' (frameOf l) ∧ Below w.heap.size w w' := by
  obtain ⟨i0, hi, hz0, hz1, hz2⟩ := info_parts info5
  have HL : Hid (In w a n cp l) := hl
  have HLL : Hid (l.length = n) := hl.1
  have HN : Hid (n ≤ 65536) := hn
  have q0 : (n : Int) ≤ 65536 := by omega
  obtain ⟨N, hN⟩ : ∃ N, N = n + 12 := ⟨_, rfl⟩
  have hN1 : (n : Int) + 12 = (N : Int) := by omega
  have hN2 : N ≤ 65548 := by omega
  clear hl hN
  go_enter Try.func11, Try.ntmps11
  go_wp2_with (first
    | (at_make; refine wpList_make_two _ rfl _ _ 22 rfl 5 i0 Try.underlying22 hi hz0 hz1 hz2 _ _ _ _ 0 N rfl rfl (by omega) (by omega) (by omega) (by omega) ?_; intro w1 hrow1 hsz1 hb1; have HO1 : Hid (Own 5 w.heap.size w1 (.slice (some ⟨w.heap.size, 0, none⟩) 0 N) []) := (⟨rfl, .inr ⟨_, N, _, rfl, Nat.le_refl _, hrow1.out, Nat.zero_le _, by unfold maxLen; omega, by simp [noughts], rfl⟩⟩); have HB1 : Hid (Below w.heap.size w w1) := hb1; clear hrow1 hsz1 hb1)
    | (go_at_call 19; fail))
  refine (number_is n (by omega) _ [] w.heap.size w1 HO1.out HB1.out.size (by simp)).mono ?_
  rintro e w2 ⟨v2, rfl, ho2, hb2⟩
  rw [List.nil_append] at ho2
  have HB2 : Hid (Below w.heap.size w w2) := HB1.out.trans hb2
  have HO2 : Hid (Own 5 w.heap.size w2 v2 (be4 n)) := ho2
  obtain ⟨a2, c2, rfl, hin2, -⟩ := own_in ho2 (by rw [be4_length]; omega)
  have HI2 : Hid (In w2 a2 4 c2 (be4 n)) := hin2
  clear ho2 hb2 hin2
  rw [be4_length] at *
  go_wp2_with fail
  refine (sum_is (be4 n) a2 4 c2 w2 HI2.out).mono ?_
  rintro e w3 ⟨rfl, rfl⟩
  have hs1 := lt32 (crc (be4 n))
  have HS1 : Hid ((crc (be4 n)).toNat < 4294967296) := hs1
  obtain ⟨s1, hs1e⟩ : ∃ s, s = (crc (be4 n)).toNat := ⟨_, rfl⟩
  have HS1e : Hid (s1 = (crc (be4 n)).toNat) := hs1e
  rw [← hs1e] at HS1 ⊢
  clear hs1 hs1e
  go_wp2_with fail
  refine (number_is s1 HS1.out _ (be4 n) w.heap.size w2 HO2.out HB2.out.size (by rw [be4_length]; omega)).mono ?_
  rintro e w4 ⟨v4, rfl, ho4, hb4⟩
  have HB4 : Hid (Below w.heap.size w w4) := HB2.out.trans hb4
  have HO4 : Hid (Own 5 w.heap.size w4 v4 (be4 n ++ be4 s1)) := ho4
  have HO4s : Hid (w4.ownsRow w.heap.size 5 1 v4 8 (U (be4 n ++ be4 s1))) := own_size rfl ho4
  clear ho4 hb4
  go_wp2_with (first
    | (at_builtin; refine wpList_append_in _ rfl (.tmp 21) (.tmp 22) 22 rfl w.heap.size 5 i0 Try.underlying22 hi hz0 hz1 hz2 v4 (be4 n ++ be4 s1) 8 rfl rfl HO4s.out a n cp l rfl (HL.out.below HB4.out) (by have := HN.out; omega) HB4.out.size ?_; intro v5 w5 ho5 hg5; have HO5 : Hid (Own 5 w.heap.size w5 v5 (be4 n ++ be4 s1 ++ l)) := ho5; have HB5 : Hid (Below w.heap.size w w5) := HB4.out.grown hg5 HB4.out.size (by intro b hb; exact (HO4s.out.lt b hb).1); clear ho5 hg5)
    | (go_at_call 12; fail))
  refine (sum_is l a n cp w5 (HL.out.below HB5.out)).mono ?_
  rintro e w6 ⟨rfl, rfl⟩
  have HS2 : Hid ((crc l).toNat < 4294967296) := lt32 (crc l)
  obtain ⟨s2, hs2e⟩ : ∃ s, s = (crc l).toNat := ⟨_, rfl⟩
  have HS2e : Hid (s2 = (crc l).toNat) := hs2e
  rw [← hs2e] at HS2 ⊢
  clear hs2e
  go_wp2_with fail
  refine (number_is s2 HS2.out _ (be4 n ++ be4 s1 ++ l) w.heap.size w5 HO5.out HB5.out.size (by rw [List.length_append, HLL.out]; have := HN.out; show 8 + n ≤ _; omega)).mono ?_
  rintro e w7 ⟨v7, rfl, ho7, hb7⟩
  have HO7 : Hid (Own 5 w.heap.size w7 v7 (be4 n ++ be4 s1 ++ l ++ be4 s2)) := ho7
  have HB7 : Hid (Below w.heap.size w w7) := HB5.out.trans hb7
  clear ho7 hb7
  go_wp2
  go_ret2
  refine ⟨v7, rfl, ?_, HB7.out⟩
  have e : frameOf l = be4 n ++ be4 s1 ++ l ++ be4 s2 := by unfold frameOf; rw [HLL.out, HS1e.out, HS2e.out]
  rw [e]
  exact HO7.out
#print axioms frame_is
end Go.Proofs.Ytchblcfbllcbmab.Oct
