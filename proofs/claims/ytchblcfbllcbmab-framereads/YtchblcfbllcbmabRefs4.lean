/-
  Layer 4 (frame): the reference's 'Unframe': a frame.
-/
import Derived.Test.YtchblcfbllcbmabRefs
namespace Go.Proofs.Ytchblcfbllcbmab.Oct
open Go.RowKit

theorem made_own (w : World) (k : Nat) : ((w.drewN k).alloc (.cells #[] 5)).ownsRow w.heap.size 5 1 (.slice (some ⟨w.heap.size, 0, none⟩) 0 0) 0 (U []) := World.ownsRow_made (w.drewN k) #[] 0 (Nat.le_refl _) (by unfold maxLen; omega) rfl
theorem made_below (w : World) (k : Nat) : Below w.heap.size w ((w.drewN k).alloc (.cells #[] 5)) := by
  have h := (Below.refl w.heap.size (w.drewN k)).alloc (Nat.le_refl _) (.cells #[] 5)
  exact ⟨h.os, h.tape, h.output, h.size, h.block⟩

set_option maxRecDepth 100000 in
set_option maxHeartbeats 1600000 in
theorem refUnframe_good (l : List UInt8) (b off n cp m : Nat) (w : World) (hl : In w (some ⟨b, off, none⟩) n cp l) (hn : 8 ≤ n) (hok : (crc (l.take 4)).toNat = num4 (l.drop 4)) (hnum : num4 l = m) (hm : m ≤ 65536) (hs : m + 12 ≤ n) (hgood : (crc (bodyOf l)).toNat = num4 (l.drop (m + 8))) :
    Calls Try.prog 8 #[.slice (some ⟨b, off, none⟩) n cp] w fun e w' => ∃ a' c, e = .returned (.tuple #[.slice a' m c, .int .i64 ((m : Int) + 12), .int .i64 0]) ∧ Hid (Own 5 w.heap.size w' (.slice a' m c) (bodyOf l)) ∧ Hid (Below w.heap.size w w') := by
  have b1 := hl.2.2.1
  have b2 := hl.2.1
  have HL : Hid (In w (some ⟨b, off, none⟩) n cp l) := hl
  have HP1 : Hid (In w (some ⟨b, off, none⟩) 4 cp (l.take 4)) := by show In _ _ _ _ _; have e := hl.piece 0 4 (by omega) (by omega); simpa using e
  have HP2 : Hid (In w (some ⟨b, off + 4, none⟩) (n - 4) (cp - 4) (l.drop 4)) := by
    have e := hl.piece 4 n (by omega) (by omega)
    rw [List.take_of_length_le (by rw [hl.1]; exact Nat.le_refl _)] at e
    exact e
  obtain ⟨X, hX⟩ : ∃ X, X = num4 (l.drop 4) := ⟨_, rfl⟩
  have HN2 : Hid (∀ k, Calls Try.prog 15 #[.slice (some ⟨b, off + 4, none⟩) (n - 4) (cp - 4)] (w.drewN k) fun e w' => e = .returned (.int .u32 (X : Int)) ∧ ∃ k, w' = w.drewN k) := fun k => by
    rw [hX]
    refine (refnum_is (l.drop 4) b (off + 4) (n - 4) (cp - 4) (w.drewN k) (in_drewN HP2.out) (by omega)).mono ?_
    rintro e w' ⟨rfl, j, rfl⟩
    exact ⟨rfl, k + j, World.drewN_drewN w k j⟩
  have HS1 : Hid (∀ k, Calls Try.prog 16 #[.slice (some ⟨b, off, none⟩) 4 cp] (w.drewN k) fun e w' => e = .returned (.int .u32 (X : Int)) ∧ w.drewN k = w') := fun k => by
    rw [hX, ← hok]
    exact refSum_is (l.take 4) _ 4 cp (w.drewN k) (in_drewN HP1.out)
  have HN1 : Hid (∀ k, Calls Try.prog 15 #[.slice (some ⟨b, off, none⟩) n cp] (w.drewN k) fun e w' => e = .returned (.int .u32 (m : Int)) ∧ ∃ k, w' = w.drewN k) := fun k => by
    rw [← hnum]
    refine (refnum_is l b off n cp (w.drewN k) (in_drewN HL.out) (by omega)).mono ?_
    rintro e w' ⟨rfl, j, rfl⟩
    exact ⟨rfl, k + j, World.drewN_drewN w k j⟩
  have q1 : (8 : Int) ≤ (n : Int) := by omega
  have q2 : (8 : Int) ≤ (cp : Int) := by omega
  have q3 : ¬ cp = 4 := by omega
  have q4 : 4 ≤ cp := by omega
  have q5 : 4 ≤ n := by omega
  have q6 : (m : Int) ≤ 65536 := by omega
  have q7 : (m : Int) + 12 ≤ (n : Int) := by omega
  have hll := hl.1
  obtain ⟨m8, hm8⟩ : ∃ m8 : Nat, m8 = m + 8 := ⟨_, rfl⟩
  have HM8 : Hid (m8 = m + 8) := hm8
  have q8 : 8 + (m : Int) = (m8 : Int) := by omega
  have q9 : (m8 : Int) ≤ (n : Int) := by omega
  have q10 : (m8 : Int) ≤ (cp : Int) := by omega
  have q11 : (8 : Int) ≤ (m8 : Int) := by omega
  have q12 : ¬ cp = m8 := by omega
  have q13 : m8 ≤ cp := by omega
  have q14 : m8 ≤ n := by omega
  have HP3 : Hid (In w (some ⟨b, off + 8, none⟩) (m8 - 8) (cp - 8) (bodyOf l)) := by
    have e := hl.piece 8 m8 (by omega) (by omega)
    subst hm8 hnum
    exact e
  have HP4 : Hid (In w (some ⟨b, off + m8, none⟩) (n - m8) (cp - m8) (l.drop m8)) := by
    have e := hl.piece m8 n (by omega) (by omega)
    rw [List.take_of_length_le (by rw [hl.1]; exact Nat.le_refl _)] at e
    exact e
  obtain ⟨Z, hZ⟩ : ∃ Z, Z = num4 (l.drop m8) := ⟨_, rfl⟩
  obtain ⟨Y, hY⟩ : ∃ Y, Y = (crc (bodyOf l)).toNat := ⟨_, rfl⟩
  have HN4 : Hid (∀ k, Calls Try.prog 15 #[.slice (some ⟨b, off + m8, none⟩) (n - m8) (cp - m8)] (w.drewN k) fun e w' => e = .returned (.int .u32 (Z : Int)) ∧ ∃ k, w' = w.drewN k) := fun k => by
    rw [hZ]
    refine (refnum_is (l.drop m8) b (off + m8) (n - m8) (cp - m8) (w.drewN k) (in_drewN HP4.out) (by omega)).mono ?_
    rintro e w' ⟨rfl, j, rfl⟩
    exact ⟨rfl, k + j, World.drewN_drewN w k j⟩
  have HS3 : Hid (∀ k, Calls Try.prog 16 #[.slice (some ⟨b, off + 8, none⟩) (m8 - 8) (cp - 8)] (w.drewN k) fun e w' => e = .returned (.int .u32 (Y : Int)) ∧ w.drewN k = w') := fun k => by
    rw [hY]
    exact refSum_is (bodyOf l) _ (m8 - 8) (cp - 8) (w.drewN k) (in_drewN HP3.out)
  have heq : (Z : Int) = (Y : Int) := by rw [hZ, hY, hm8]; omega
  clear hl hok hX hnum hm hs hll hgood hZ hY hm8
  have HBL : Hid ((bodyOf l).length = m8 - 8) := HP3.out.1
  have HM65 : Hid (m ≤ 65536) := by show _ ≤ _; omega
  obtain ⟨i0, hi, hz0, hz1, hz2⟩ := info_parts info5
  go_enter Try.func8, Try.ntmps8
  go_wp2_with fail
  go_region_with (first | (go_at_call 15; refine (HN2.out 1).mono ?_; rintro e w1 ⟨rfl, k1, rfl⟩) | (go_at_call 15; refine (HN2.out _).mono ?_; rintro e w1 ⟨rfl, k1, rfl⟩) | (go_at_call 16; refine (HS1.out _).mono ?_; rintro e w2 ⟨rfl, rfl⟩))
  all_goals go_wp2_with fail
  all_goals refine (HN1.out _).mono ?_
  all_goals rintro e w3 ⟨rfl, k3, rfl⟩
  all_goals go_wp2_with fail
  all_goals refine (HN4.out _).mono ?_
  all_goals rintro e w4 ⟨rfl, k4, rfl⟩
  all_goals go_wp2_with fail
  all_goals refine (HS3.out _).mono ?_
  all_goals rintro e w5 ⟨rfl, rfl⟩
  all_goals (
    go_wp2_with (at_builtin; refine wpList_append_in _ rfl (.tmp 41) (.tmp 42) 22 rfl w.heap.size 5 i0 Try.underlying22 hi hz0 hz1 hz2 _ [] 0 rfl rfl (made_own w k4) (some ⟨b, off + 8, none⟩) (m8 - 8) (cp - 8) (bodyOf l) rfl (HP3.out.below (made_below w k4)) (by have h1 := HM8.out; have h2 := HM65.out; omega) (made_below w k4).size ?_)
    intro v2 w2 ho2 hg2
    have ho3 : Own 5 w.heap.size w2 v2 (bodyOf l) := ho2
    have hb2 : Below w.heap.size w w2 := (made_below w k4).grown hg2 (made_below w k4).size (by intro b hb; simp [Value.ownBlock] at hb; omega)
    obtain ⟨a2, c2, hv2, -, -⟩ := own_in ho3 (by rw [HBL.out]; have h1 := HM8.out; have h2 := HM65.out; omega)
    have hlm : (bodyOf l).length = m := by rw [HBL.out, HM8.out]; omega
    rw [hlm] at hv2
    subst hv2
    have HI2 : Hid (Own 5 w.heap.size w2 (.slice a2 m c2) (bodyOf l)) := ho3
    have HB2 : Hid (Below w.heap.size w w2) := hb2
    clear ho2 hg2 ho3 hb2 hlm
    go_wp2
    go_ret3
    exact ⟨_, _, rfl, HI2, HB2⟩)
end Go.Proofs.Ytchblcfbllcbmab.Oct
