/-
  Layer 2 (hash): the law on digests that everybody knows.
-/
import Derived.Test.YtakgglkfhcopgaaDoorHex
import Derived.Test.YtakgglkfhcopgaaDoorLives
namespace Go.Proofs.YtakgglkfhcopgaaDoor.Oct
open Go.RowKit Sha

def m56 : List UInt8 := [97, 98, 99, 100, 98, 99, 100, 101, 99, 100, 101, 102, 100, 101, 102, 103, 101, 102, 103, 104, 102, 103, 104, 105, 103, 104, 105, 106, 104, 105, 106, 107, 105, 106, 107, 108, 106, 107, 108, 109, 107, 108, 109, 110, 108, 109, 110, 111, 109, 110, 111, 112, 110, 111, 112, 113]
theorem hex56 : hexOf (sum m56) = [50, 52, 56, 100, 54, 97, 54, 49, 100, 50, 48, 54, 51, 56, 98, 56, 101, 53, 99, 48, 50, 54, 57, 51, 48, 99, 51, 101, 54, 48, 51, 57, 97, 51, 51, 99, 101, 52, 53, 57, 54, 52, 102, 102, 50, 49, 54, 55, 102, 54, 101, 99, 101, 100, 100, 52, 49, 57, 100, 98, 48, 54, 99, 49] := by decide +kernel
theorem hex3 : hexOf (sum [97, 98, 99]) = [98, 97, 55, 56, 49, 54, 98, 102, 56, 102, 48, 49, 99, 102, 101, 97, 52, 49, 52, 49, 52, 48, 100, 101, 53, 100, 97, 101, 50, 50, 50, 51, 98, 48, 48, 51, 54, 49, 97, 51, 57, 54, 49, 55, 55, 97, 57, 99, 98, 52, 49, 48, 102, 102, 54, 49, 102, 50, 48, 48, 49, 53, 97, 100] := by decide +kernel
theorem known2 : ∃ D0 D1 : List UInt8, sum m56 = D0 ∧ sum [97, 98, 99] = D1 ∧ D0.length = 32 ∧ D1.length = 32 ∧ (⟨(hexOf D0).toArray⟩ : ByteArray) = ⟨#[50, 52, 56, 100, 54, 97, 54, 49, 100, 50, 48, 54, 51, 56, 98, 56, 101, 53, 99, 48, 50, 54, 57, 51, 48, 99, 51, 101, 54, 48, 51, 57, 97, 51, 51, 99, 101, 52, 53, 57, 54, 52, 102, 102, 50, 49, 54, 55, 102, 54, 101, 99, 101, 100, 100, 52, 49, 57, 100, 98, 48, 54, 99, 49]⟩ ∧ (⟨(hexOf D1).toArray⟩ : ByteArray) = ⟨#[98, 97, 55, 56, 49, 54, 98, 102, 56, 102, 48, 49, 99, 102, 101, 97, 52, 49, 52, 49, 52, 48, 100, 101, 53, 100, 97, 101, 50, 50, 50, 51, 98, 48, 48, 51, 54, 49, 97, 51, 57, 54, 49, 55, 55, 97, 57, 99, 98, 52, 49, 48, 102, 102, 54, 49, 102, 50, 48, 48, 49, 53, 97, 100]⟩ :=
  ⟨_, _, rfl, rfl, sum_length _, sum_length _, by rw [hex56], by rw [hex3]⟩

theorem slice25 (b : Nat) (W : World) : (Instr.sliceAt 25 (.pointer (some ⟨b, 0, none⟩)) none none none).run Tryd.prog W = .ok (.slice (some ⟨b, 0, none⟩) 32 32) W := by
  obtain ⟨i, hi, -⟩ := Option.map_eq_some_iff.1 (show (Tryd.prog.info? 5).map (·.size) = some 1 by kernel_rfl)
  simp [Instr.sliceAt, Instr.sureAddr, run_underlying Tryd.underlying25, Instr.sliceBounds, sizeOf, typeInfo, hi, Addr.add_lit]

set_option maxHeartbeats 1000000 in
set_option maxRecDepth 100000 in
theorem knownLaw (w : World) (hk : KT w) (hs : ST w) : Calls Tryd.prog 8 #[] w fun e w' => e = .returned (.bool true) ∧ Below w.heap.size w w' := by
  have HK : Hid (KT w) := hk
  have HS : Hid (ST w) := hs
  obtain ⟨D0, D1, hD0, hD1, hl0, hl1, hh0, hh1⟩ := known2
  have HD0 : Hid (sum m56 = D0) := hD0
  have HD1 : Hid (sum [97, 98, 99] = D1) := hD1
  have HL0 : Hid ((U D0).length = 32) := by show _ = _; rw [U_length, hl0]
  have HL1 : Hid ((U D1).length = 32) := by show _ = _; rw [U_length, hl1]
  have HH0 : Hid ((⟨(hexOf D0).toArray⟩ : ByteArray) = ⟨#[50, 52, 56, 100, 54, 97, 54, 49, 100, 50, 48, 54, 51, 56, 98, 56, 101, 53, 99, 48, 50, 54, 57, 51, 48, 99, 51, 101, 54, 48, 51, 57, 97, 51, 51, 99, 101, 52, 53, 57, 54, 52, 102, 102, 50, 49, 54, 55, 102, 54, 101, 99, 101, 100, 100, 52, 49, 57, 100, 98, 48, 54, 99, 49]⟩) := hh0
  have HH1 : Hid ((⟨(hexOf D1).toArray⟩ : ByteArray) = ⟨#[98, 97, 55, 56, 49, 54, 98, 102, 56, 102, 48, 49, 99, 102, 101, 97, 52, 49, 52, 49, 52, 48, 100, 101, 53, 100, 97, 101, 50, 50, 50, 51, 98, 48, 48, 51, 54, 49, 97, 51, 57, 54, 49, 55, 55, 97, 57, 99, 98, 52, 49, 48, 102, 102, 54, 49, 102, 50, 48, 48, 49, 53, 97, 100]⟩) := hh1
  have HE0 : Hid (D0.length = 32) := hl0
  have HE1 : Hid (D1.length = 32) := hl1
  clear hk hs hD0 hD1 hl0 hl1 hh0 hh1
  have hcv := Lib.run_convert_bytes_const (P := Tryd.prog) w 22 5 #[.int .u8 97, .int .u8 98, .int .u8 99, .int .u8 100, .int .u8 98, .int .u8 99, .int .u8 100, .int .u8 101, .int .u8 99, .int .u8 100, .int .u8 101, .int .u8 102, .int .u8 100, .int .u8 101, .int .u8 102, .int .u8 103, .int .u8 101, .int .u8 102, .int .u8 103, .int .u8 104, .int .u8 102, .int .u8 103, .int .u8 104, .int .u8 105, .int .u8 103, .int .u8 104, .int .u8 105, .int .u8 106, .int .u8 104, .int .u8 105, .int .u8 106, .int .u8 107, .int .u8 105, .int .u8 106, .int .u8 107, .int .u8 108, .int .u8 106, .int .u8 107, .int .u8 108, .int .u8 109, .int .u8 107, .int .u8 108, .int .u8 109, .int .u8 110, .int .u8 108, .int .u8 109, .int .u8 110, .int .u8 111, .int .u8 109, .int .u8 110, .int .u8 111, .int .u8 112, .int .u8 110, .int .u8 111, .int .u8 112, .int .u8 113] 56 56 Tryd.underlying22 Tryd.underlying5
  go_enter Tryd.func8, Tryd.ntmps8
  go_wp2_with fail
  have HIN : Hid (In (w.alloc (.cells (U m56).toArray 5 (56, 57))) (some ⟨w.heap.size, 0, none⟩) 56 56 m56) := in_const w 5 m56 (56, 57) (by decide)
  have HWA : Hid (Below w.heap.size w (w.alloc (.cells (U m56).toArray 5 (56, 57)))) := (Below.refl _ w).alloc (Nat.le_refl _) _
  clear hcv
  change Calls Tryd.prog 10 _ (w.alloc (.cells (U m56).toArray 5 (56, 57))) _
  generalize w.alloc (.cells (U m56).toArray 5 (56, 57)) = WA at *
  refine (sum_is' m56 D0 HD0.out _ 56 56 WA (HK.out.below HWA.out) (HS.out.below HWA.out) HIN.out (by omega)).mono ?_
  rintro e w1 ⟨rfl, HW1⟩
  have HBW1 : Hid (Below w.heap.size w w1) := HWA.out.trans (HW1.out.mono HWA.out.size)
  have HA : Hid (Blk (w1.alloc (.cells (zb 32).toArray 25)) w1.heap.size 25 (zb 32)) := Blk.new w1 _ 25
  go_wp2_with (first
    | (refine wpList_store_blk rfl 25 (.tmp 1) (.tmp 5) rfl w1.heap.size 0 25 (zb 32) (U D0) rfl rfl HA.out (by rw [HL0.out, zb_length]; omega) (by rw [size25, HL0.out]) (U_one _) ?_; intro w2 hB2 hG2; have HC : Hid (Blk w2 w1.heap.size 25 (U D0)) := stored HL0.out hB2.out; have HBW2 : Hid (Below w1.heap.size w1 w2) := ((Below.refl _ w1).alloc (Nat.le_refl _) (.cells (zb 32).toArray 25)).grown hG2.out (by simp) (by intro k hk; have := Option.some.inj hk; omega); clear hB2 hG2; have hcv := Lib.run_convert_bytes_const (P := Tryd.prog) w2 22 5 #[.int .u8 97, .int .u8 98, .int .u8 99] 3 3 Tryd.underlying22 Tryd.underlying5)
    | fail)
  have HIN3 : Hid (In (w2.alloc (.cells (U [97, 98, 99]).toArray 5 (3, 4))) (some ⟨w2.heap.size, 0, none⟩) 3 3 [97, 98, 99]) := in_const w2 5 [97, 98, 99] (3, 4) (by simp)
  have HWB : Hid (Below w2.heap.size w2 (w2.alloc (.cells (U [97, 98, 99]).toArray 5 (3, 4)))) := (Below.refl _ w2).alloc (Nat.le_refl _) _
  clear hcv
  change Calls Tryd.prog 10 _ (w2.alloc (.cells (U [97, 98, 99]).toArray 5 (3, 4))) _
  generalize w2.alloc (.cells (U [97, 98, 99]).toArray 5 (3, 4)) = WB at *
  have HBW2' : Hid (Below w.heap.size w w2) := HBW1.out.trans (HBW2.out.mono HBW1.out.size)
  have HBWB : Hid (Below w.heap.size w WB) := HBW2'.out.trans (HWB.out.mono HBW2'.out.size)
  refine (sum_is' [97, 98, 99] D1 HD1.out _ 3 3 WB (HK.out.below HBWB.out) (HS.out.below HBWB.out) HIN3.out (by omega)).mono ?_
  rintro e w3 ⟨rfl, HW3⟩
  have H23 : Hid (Below w2.heap.size w2 w3) := HWB.out.trans (HW3.out.mono HWB.out.size)
  have HBW3 : Hid (Below w.heap.size w w3) := HBW2'.out.trans (H23.out.mono HBW2'.out.size)
  have HA3 : Hid (Blk (w3.alloc (.cells (zb 32).toArray 25)) w3.heap.size 25 (zb 32)) := Blk.new w3 _ 25
  have hs1 := slice25 w1.heap.size
  have hs3 := slice25 w3.heap.size
  go_wp2_with (first
    | (refine wpList_store_blk rfl 25 (.tmp 2) (.tmp 8) rfl w3.heap.size 0 25 (zb 32) (U D1) rfl rfl HA3.out (by rw [HL1.out, zb_length]; omega) (by rw [size25, HL1.out]) (U_one _) ?_; intro w4 hB4 hG4; have HD : Hid (Blk w4 w3.heap.size 25 (U D1)) := stored HL1.out hB4.out; have H34 : Hid (Below w3.heap.size w3 w4) := ((Below.refl _ w3).alloc (Nat.le_refl _) (.cells (zb 32).toArray 25)).grown hG4.out (by simp) (by intro k hk; have := Option.some.inj hk; omega); clear hB4 hG4)
    | (go_at_call 18; fail))
  have HC3 : Hid (Blk w3 w1.heap.size 25 (U D0)) := HC.out.below H23.out HC.out.lt
  have HC4 : Hid (Blk w4 w1.heap.size 25 (U D0)) := HC3.out.below H34.out HC3.out.lt
  have HBW4 : Hid (Below w.heap.size w w4) := HBW3.out.trans (H34.out.mono HBW3.out.size)
  have HI0 : Hid (In w4 (some ⟨w1.heap.size, 0, none⟩) 32 32 D0) := by
    have e := in_blk HC4.out (by rw [HE0.out]; omega)
    rw [HE0.out] at e; exact e
  refine (hex_is D0 _ 32 32 w4 HI0.out (by omega)).mono ?_
  rintro e w5 ⟨rfl, hb5⟩
  rw [HH0.out]
  have HB5 : Hid (Below w4.heap.size w4 w5) := hb5
  have HBW5 : Hid (Below w.heap.size w w5) := HBW4.out.trans (hb5.mono HBW4.out.size)
  have HD5 : Hid (Blk w5 w3.heap.size 25 (U D1)) := HD.out.below hb5 HD.out.lt
  have HI1 : Hid (In w5 (some ⟨w3.heap.size, 0, none⟩) 32 32 D1) := by
    have e := in_blk HD5.out (by rw [HE1.out]; omega)
    rw [HE1.out] at e; exact e
  clear hb5
  go_wp2_with fail
  refine (hex_is D1 _ 32 32 w5 HI1.out (by omega)).mono ?_
  rintro e w6 ⟨rfl, hb6⟩
  rw [HH1.out]
  have HBW6 : Hid (Below w.heap.size w w6) := HBW5.out.trans (hb6.mono HBW5.out.size)
  clear hb6
  go_wp2_with (go_at_call 9; refine (lives_is w6 (HK.out.below HBW6.out) (HS.out.below HBW6.out)).mono ?_; rintro e w7 ⟨rfl, hw7⟩)
  go_ret
  exact ⟨rfl, HBW6.out.trans (hw7.mono HBW6.out.size)⟩
#print axioms knownLaw
end Go.Proofs.YtakgglkfhcopgaaDoor.Oct
