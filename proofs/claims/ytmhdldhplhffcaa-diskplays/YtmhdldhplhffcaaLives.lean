/-
  Layer 5 (disk): the chapter's example.
-/
import Derived.Test.YtmhdldhplhffcaaDk
namespace Go.Proofs.Ytmhdldhplhffcaa.Oct
open Go.RowKit Go.Maps Go.Lib

/-- the example's disks -/
theorem story : ∃ D1 D2 D3 D4 D5 : Disk, (fresh 2).write 0 (onesOf 1) = (0, D1) ∧ D1.arm 0 = (0, D2) ∧ D2.flush = (50, D3) ∧ D3.down = true ∧ D3.restart [] = (0, D4) ∧ D3.restart [0] = (0, D5) ∧
    (D1.ops < 100 ∧ D2.ops < 100 ∧ D3.ops < 100 ∧ D4.ops < 100 ∧ D5.ops < 100) ∧ (D4.down = false ∧ D4.n = 2 ∧ settled D4.sure D4.pend 0 = zeros) ∧ (D5.down = false ∧ D5.n = 2 ∧ settled D5.sure D5.pend 0 = onesOf 1) := by
  refine ⟨{ (fresh 2).spent with pend := [(0, onesOf 1)] }, { (fresh 2).spent with pend := [(0, onesOf 1)], plan := some 0 }, { (fresh 2).spent with pend := [(0, onesOf 1)], plan := some 0, down := true }, { (fresh 2).spent with pend := [], plan := none, down := false }, { (fresh 2).spent with sure := settled (fun _ => zeros) [(0, onesOf 1)], pend := [], plan := none, down := false }, ?_, ?_, ?_, rfl, ?_, ?_, ?_, ?_, ?_⟩
  · unfold Disk.write
    rw [if_neg (by simp [fresh]), if_neg (by rw [onesOf_length]; simp [fresh]), if_neg (by simp [fresh, Disk.out])]
    rfl
  · unfold Disk.arm
    rw [if_neg (by simp [fresh, Disk.spent]), if_neg (by omega)]
    rfl
  · unfold Disk.flush
    rw [if_neg (by simp [fresh, Disk.spent]), if_pos (by simp [Disk.out])]
    rfl
  · unfold Disk.restart
    rw [if_pos (by simp)]
    rfl
  · unfold Disk.restart
    rw [if_pos (by simp)]
    simp [kept, fresh, Disk.spent]
  · simp [fresh, Disk.spent]
  · exact ⟨rfl, rfl, rfl⟩
  · exact ⟨rfl, rfl, by simp [settled, put]⟩

/-- bytes as a string -/
def strOf (l : List UInt8) : ByteArray := ⟨l.toArray⟩
theorem strOf_eq {l r : List UInt8} : strOf l = strOf r ↔ l = r := by
  unfold strOf
  constructor
  · intro h
    have := congrArg (fun b : ByteArray => b.data.toList) h
    simpa using this
  · rintro rfl; rfl
theorem in_blkt {w : World} {b : Nat} {t : TypeId} {l : List UInt8} (h : Blk w b t (U l)) (hl : l.length ≤ 140737488355328) : In w (some ⟨b, 0, none⟩) l.length l.length l := by
  refine ⟨rfl, Nat.le_refl _, hl, by simp, fun _ => ⟨b, 0, rfl, h.lt, fun i c hc => ?_⟩⟩
  rw [Nat.zero_add]
  exact h.cell (by simp [U, hc])
theorem conv_blk {w : World} {b : Nat} {t : TypeId} {l : List UInt8} (h : Blk w b t (U l)) (hl : l.length = 256) : (convert 30 9 (.slice (some ⟨b, 0, none⟩) 256 256)).run Try.prog w = .ok (.string (strOf l)) w := by
  have := string_in (P := Try.prog) (e := 5) (t9 := 9) (t22 := 30) Try.underlying30 Try.underlying5 Try.underlying9 (in_blkt h (by omega))
  rw [hl] at this
  exact this
theorem InI.none (w : World) : InI w none 0 0 [] := ⟨rfl, Nat.le_refl _, fun h => by cases h⟩

set_option maxHeartbeats 1000000 in
set_option maxRecDepth 100000 in
theorem lives_is (w : World) : Calls Try.prog 13 #[] w fun e w' => e = .returned (.bool true) ∧ Below w.heap.size w w' := by
  obtain ⟨D1, D2, D3, D4, D5, e1, e2, e3, e3d, e4, e5, eo, e6, e7⟩ := story
  have HE : Hid ((fresh 2).write 0 (onesOf 1) = (0, D1) ∧ D1.arm 0 = (0, D2) ∧ D2.flush = (50, D3) ∧ D3.down = true ∧ D3.restart [] = (0, D4) ∧ D3.restart [0] = (0, D5)) := ⟨e1, e2, e3, e3d, e4, e5⟩
  have HO : Hid (D1.ops < 100 ∧ D2.ops < 100 ∧ D3.ops < 100 ∧ D4.ops < 100 ∧ D5.ops < 100) := eo
  have H4 : Hid (D4.down = false ∧ D4.n = 2 ∧ settled D4.sure D4.pend 0 = zeros) := e6
  have H5 : Hid (D5.down = false ∧ D5.n = 2 ∧ settled D5.sure D5.pend 0 = onesOf 1) := e7
  clear e1 e2 e3 e3d e4 e5 eo e6 e7
  go_enter Try.func13, Try.ntmps13
  go_wp2_with fail
  refine (new_is 2 (by omega) (by omega) w).mono ?_
  rintro e w1 ⟨rfl, hd1, hb1⟩
  obtain ⟨d, hd⟩ : ∃ d, d = w.heap.size + 1 + 1 := ⟨_, rfl⟩
  rw [← hd] at hd1 ⊢
  have HD1 : Hid (DkB w1 w.heap.size d (fresh 2)) := ⟨_, hd1, fun k hk => hk.1⟩
  have HB1 : Hid (Below w.heap.size w w1) := hb1
  clear hd1 hb1 hd
  go_wp2_with fail
  refine (ones_is 1 w1).mono ?_
  rintro e w2 ⟨rfl, hb2, hB2⟩
  have HO2 : Hid (In w2 (some ⟨w1.heap.size, 0, none⟩) 256 256 (onesOf 1)) := by
    have := in_blkt hb2 (by rw [onesOf_length]; omega)
    rw [onesOf_length] at this
    exact this
  have HD2 : Hid (DkB w2 w.heap.size d (fresh 2)) := HD1.out.below hB2
  have HB2 : Hid (Below w.heap.size w w2) := HB1.out.trans (hB2.mono HB1.out.size)
  clear hb2 hB2
  go_wp2_with fail
  obtain ⟨S, hS, hSB⟩ := HD2.out
  refine (write_dk hS (by simp [fresh]) 0 _ 256 256 (onesOf 1) HO2.out).mono ?_
  rintro e w3 ⟨rfl, ha⟩
  rw [HE.out.1] at ha ⊢
  obtain ⟨hd3, hb3⟩ := ha.toB hSB HB2.out.size
  have HD3 : Hid (DkB w3 w.heap.size d D1) := hd3
  have HB3 : Hid (Below w.heap.size w w3) := HB2.out.trans hb3
  clear hS hSB ha hd3 hb3
  go_wp2_with fail
  obtain ⟨S, hS, hSB⟩ := HD3.out
  refine (arm_dk hS 0 (by omega)).mono ?_
  rintro e w4 ⟨rfl, ha⟩
  rw [HE.out.2.1] at ha ⊢
  obtain ⟨hd4, hb4⟩ := ha.toB hSB HB3.out.size
  have HD4 : Hid (DkB w4 w.heap.size d D2) := hd4
  have HB4 : Hid (Below w.heap.size w w4) := HB3.out.trans hb4
  clear hS hSB ha hd4 hb4
  go_wp2_with fail
  obtain ⟨S, hS, hSB⟩ := HD4.out
  refine (flush_dk hS (by have := HO.out; omega)).mono ?_
  rintro e w5 ⟨rfl, ha⟩
  rw [HE.out.2.2.1] at ha ⊢
  obtain ⟨hd5, hb5⟩ := ha.toB hSB HB4.out.size
  have HD5 : Hid (DkB w5 w.heap.size d D3) := hd5
  have HB5 : Hid (Below w.heap.size w w5) := HB4.out.trans hb5
  clear hS hSB ha hd5 hb5
  go_wp2_with fail
  obtain ⟨S, hS, hSB⟩ := HD5.out
  refine (down_dk hS).mono ?_
  rintro e w5 ⟨rfl, rfl⟩
  rw [HE.out.2.2.2.1]
  clear hS hSB
  go_wp2_with fail
  refine (HD5.out.clone HB5.out.size (by have := HO.out; omega)).mono ?_
  rintro e w6 ⟨rfl, ht6, hb6⟩
  obtain ⟨c, hc⟩ : ∃ c, c = w5.heap.size := ⟨_, rfl⟩
  rw [← hc] at ht6 ⊢
  have HT6 : Hid (Two w6 w.heap.size d D3 c D3) := ht6
  have HB6 : Hid (Below w.heap.size w w6) := HB5.out.trans (hb6.mono HB5.out.size)
  clear ht6 hb6 hc
  go_wp2_with fail
  refine (HT6.out.call HB6.out.size (fun S hS => restart_dk hS (by have := HO.out; omega) none 0 0 [] (InI.none _) (by omega))).mono ?_
  rintro e w7 ⟨rfl, ht7, hb7⟩
  rw [HE.out.2.2.2.2.1] at ht7 ⊢
  have HT7 : Hid (Two w7 w.heap.size d D4 c D3) := ht7
  have HB7 : Hid (Below w.heap.size w w7) := HB6.out.trans hb7
  clear ht7 hb7
  go_wp2_with fail
  have HA7 : Hid (Below w7.heap.size w7 (w7.alloc (.cells #[.int .i64 0] 3))) := (Below.refl _ w7).alloc (Nat.le_refl _) _
  have HI7 : Hid (InI (w7.alloc (.cells #[.int .i64 0] 3)) (some ⟨w7.heap.size, 0, none⟩) 1 1 [0]) := ⟨rfl, Nat.le_refl _, fun _ => ⟨_, 0, rfl, by simp, fun i z hz => by
    have hlt := (List.getElem?_eq_some_iff.1 hz).1
    have : i = 0 := by simp at hlt; omega
    subst this
    simp at hz
    subst hz
    exact (Blk.new w7 #[.int .i64 0] 3).cell rfl⟩⟩
  refine ((HT7.out.below HA7.out).swap.call (Nat.le_trans HB7.out.size HA7.out.size) (fun S hS => restart_dk hS (by have := HO.out; omega) _ 1 1 [0] HI7.out (by omega))).mono ?_
  rintro e w8 ⟨rfl, ht8, hb8⟩
  rw [HE.out.2.2.2.2.2] at ht8 ⊢
  have HT8 : Hid (Two w8 w.heap.size d D4 c D5) := ht8.swap
  have HB8 : Hid (Below w.heap.size w w8) := (HB7.out.trans (HA7.out.mono HB7.out.size)).trans hb8
  clear ht8 hb8
  go_wp2_with fail
  obtain ⟨S, hS, hSB⟩ := HT8.out.first
  refine (read_dk hS (by have := HO.out; omega) H4.out.1 0 (by rw [H4.out.2.1]; omega)).mono ?_
  rintro e w9 ⟨rfl, hw9⟩
  rw [H4.out.2.2] at hw9
  have HW9 : Hid (Blk w9 w8.heap.size 72 (U zeros) ∧ Below w8.heap.size w8 w9) := by
    rw [hw9]
    exact ⟨Blk.new w8 (U zeros).toArray 72, (Below.refl _ w8).alloc (Nat.le_refl _) _⟩
  obtain ⟨B9, hB9⟩ : ∃ B9, B9 = w8.heap.size := ⟨_, rfl⟩
  rw [← hB9] at HW9 ⊢
  have HB9 : Hid (B9 = w8.heap.size) := hB9
  have HT9 : Hid (Two w9 w.heap.size d D4 c D5) := HT8.out.below (by rw [← hB9]; exact HW9.out.2)
  clear hS hSB hw9 hB9
  go_wp2_with fail
  obtain ⟨S, hS, hSB⟩ := HT9.out.swap.first
  refine (read_dk hS (by have := HO.out; omega) H5.out.1 0 (by rw [H5.out.2.1]; omega)).mono ?_
  rintro e w10 ⟨rfl, hw10⟩
  rw [H5.out.2.2] at hw10
  have HW10 : Hid (Blk w10 w9.heap.size 72 (U (onesOf 1)) ∧ Below w9.heap.size w9 w10) := by
    rw [hw10]
    exact ⟨Blk.new w9 (U (onesOf 1)).toArray 72, (Below.refl _ w9).alloc (Nat.le_refl _) _⟩
  obtain ⟨B10, hB10⟩ : ∃ B10, B10 = w9.heap.size := ⟨_, rfl⟩
  rw [← hB10] at HW10 ⊢
  have HX : Hid (Blk w10 B9 72 (U zeros) ∧ Blk w10 B10 72 (U (onesOf 1)) ∧ Below w.heap.size w w10) := by
    refine ⟨HW9.out.1.below HW10.out.2 (by rw [hB10]; exact HW9.out.1.lt), HW10.out.1, ?_⟩
    have h89 := HW9.out.2
    rw [HB9.out] at h89
    have h910 := HW10.out.2
    rw [hB10] at h910
    exact (HB8.out.trans (h89.mono HB8.out.size)).trans (h910.mono (Nat.le_trans HB8.out.size h89.size))
  clear hS hSB hw10 hB10
  go_wp2_with fail
  obtain ⟨s0, hs0⟩ : ∃ s0, s0 = strOf zeros := ⟨_, rfl⟩
  obtain ⟨s1, hs1⟩ : ∃ s1, s1 = strOf (onesOf 1) := ⟨_, rfl⟩
  have HC : Hid (∀ W, Below w10.heap.size w10 W → (convert 30 9 (.slice (some ⟨B9, 0, none⟩) 256 256)).run Try.prog W = .ok (.string s0) W ∧ (convert 30 9 (.slice (some ⟨B10, 0, none⟩) 256 256)).run Try.prog W = .ok (.string s1) W) := fun W hW => by
    rw [hs0, hs1]
    exact ⟨conv_blk (HX.out.1.below hW HX.out.1.lt) zeros_length, conv_blk (HX.out.2.1.below hW HX.out.2.1.lt) (onesOf_length 1)⟩
  have HBD : Hid (Below w10.heap.size w10 w10.drew) := ⟨rfl, rfl, rfl, Nat.le_refl _, fun _ _ => rfl⟩
  have o0 : Calls Try.prog 24 #[.int .u8 0] w10.drew fun e w' => e = .returned (.slice (some ⟨w10.heap.size, 0, none⟩) 256 256) ∧ Hid ((convert 30 9 (.slice (some ⟨w10.heap.size, 0, none⟩) 256 256)).run Try.prog w' = .ok (.string s0) w' ∧ Below w10.heap.size w10 w') := (ones_is 0 w10.drew).mono fun e w' ⟨he, hb, hB⟩ => ⟨he, by rw [hs0]; exact conv_blk (l := zeros) hb zeros_length, HBD.out.trans hB⟩
  have o1 : ∀ W, Calls Try.prog 24 #[.int .u8 1] W fun e w' => e = .returned (.slice (some ⟨W.heap.size, 0, none⟩) 256 256) ∧ Hid ((convert 30 9 (.slice (some ⟨W.heap.size, 0, none⟩) 256 256)).run Try.prog w' = .ok (.string s1) w' ∧ Below W.heap.size W w') := fun W => (ones_is 1 W).mono fun e w' ⟨he, hb, hB⟩ => ⟨he, by rw [hs1]; exact conv_blk (l := onesOf 1) hb (onesOf_length 1), hB⟩
  clear hs0 hs1
  go_region_held_law (fun w' => (convert 30 9 (.slice (some ⟨B9, 0, none⟩) 256 256)).run Try.prog w' = .ok (.string s0) w' ∧ (convert 30 9 (.slice (some ⟨B10, 0, none⟩) 256 256)).run Try.prog w' = .ok (.string s1) w') (first | exact HC.out _ HBD.out | exact HC.out _ H11.out.2 | exact HC.out _ H12.out) (first
    | (go_at_call_of 24 (Value.int IntKind.u8 0); refine o0.mono ?_; rintro e w11 ⟨rfl, H11⟩; have k11 := H11.out.1)
    | (go_at_call_of 24 (Value.int IntKind.u8 1); refine (o1 w11).mono ?_; rintro e w12 ⟨rfl, h12⟩; have k12 := h12.out.1; have H12 : Hid (Below w10.heap.size w10 w12) := H11.out.2.trans (h12.out.2.mono H11.out.2.size); clear h12))
  go_wp2
  go_ret
  exact ⟨rfl, HX.out.2.2.trans (H12.out.mono HX.out.2.2.size)⟩
#print axioms lives_is
#print axioms story
end Go.Proofs.Ytmhdldhplhffcaa.Oct
