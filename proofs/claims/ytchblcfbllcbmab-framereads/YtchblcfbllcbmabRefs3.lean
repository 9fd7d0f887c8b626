/-
  Layer 4 (frame): the reference's 'Unframe': the bytes of a frame have another sum.
-/
import Derived.Test.YtchblcfbllcbmabRefs
namespace Go.Proofs.Ytchblcfbllcbmab.Oct
open Go.RowKit

set_option maxRecDepth 100000 in
set_option maxHeartbeats 1600000 in
theorem refUnframe_body (l : List UInt8) (b off n cp m : Nat) (w : World) (hl : In w (some ⟨b, off, none⟩) n cp l) (hn : 8 ≤ n) (hok : (crc (l.take 4)).toNat = num4 (l.drop 4)) (hnum : num4 l = m) (hm : m ≤ 65536) (hs : m + 12 ≤ n) (hbad : (crc (bodyOf l)).toNat ≠ num4 (l.drop (m + 8))) :
    Calls Try.prog 8 #[.slice (some ⟨b, off, none⟩) n cp] w fun e w' => e = .returned (.tuple #[.slice none 0 0, .int .i64 0, .int .i64 40]) ∧ ∃ k, w' = w.drewN k := by
  have b1 := hl.2.2.1
  have b2 := hl.2.1
  have HL : Hid (In w (some ⟨b, off, none⟩) n cp l) := hl
  have HP1 : Hid (In w (some ⟨b, off, none⟩) 4 cp (l.take 4)) := by show In _ _ _ _ _; have e := hl.piece 0 4 (by omega) (by omega); simpa using e
  have HP2 : Hid (In w (some ⟨b, off + 4, none⟩) (n - 4) (cp - 4) (l.drop 4)) := by
    have e := hl.piece 4 n (by omega) (by omega)
    rw [List.take_of_length_le (by rw [hl.1]; exact Nat.le_refl _)] at e
    exact e
  obtain ⟨X, hX⟩ : ∃ X, X = num4 (l.drop 4) := ⟨_, rfl⟩
  have HN2 : Hid (∀ k, Calls Try.prog 15 #[.slice (some ⟨b, off + 4, none⟩) (n - 4) (cp - 4)] (w.drewN k) fun e w' => e = .returned (.int .u32 (X : Int)) ∧ ∃ k, w' = w.drewN k) := fun k => by
    rw [hX]
    refine (refnum_is (l.drop 4) b (off + 4) (n - 4) (cp - 4) (w.drewN k) (in_drewN HP2.out) (by omega)).mono ?_
    rintro e w' ⟨rfl, j, rfl⟩
    exact ⟨rfl, k + j, World.drewN_drewN w k j⟩
  have HS1 : Hid (∀ k, Calls Try.prog 16 #[.slice (some ⟨b, off, none⟩) 4 cp] (w.drewN k) fun e w' => e = .returned (.int .u32 (X : Int)) ∧ w.drewN k = w') := fun k => by
    rw [hX, ← hok]
    exact refSum_is (l.take 4) _ 4 cp (w.drewN k) (in_drewN HP1.out)
  have HN1 : Hid (∀ k, Calls Try.prog 15 #[.slice (some ⟨b, off, none⟩) n cp] (w.drewN k) fun e w' => e = .returned (.int .u32 (m : Int)) ∧ ∃ k, w' = w.drewN k) := fun k => by
    rw [← hnum]
    refine (refnum_is l b off n cp (w.drewN k) (in_drewN HL.out) (by omega)).mono ?_
    rintro e w' ⟨rfl, j, rfl⟩
    exact ⟨rfl, k + j, World.drewN_drewN w k j⟩
  have q1 : (8 : Int) ≤ (n : Int) := by omega
  have q2 : (8 : Int) ≤ (cp : Int) := by omega
  have q3 : ¬ cp = 4 := by omega
  have q4 : 4 ≤ cp := by omega
  have q5 : 4 ≤ n := by omega
  have q6 : (m : Int) ≤ 65536 := by omega
  have q7 : (m : Int) + 12 ≤ (n : Int) := by omega
  have hll := hl.1
  obtain ⟨m8, hm8⟩ : ∃ m8 : Nat, m8 = m + 8 := ⟨_, rfl⟩
  have HM8 : Hid (m8 = m + 8) := hm8
  have q8 : 8 + (m : Int) = (m8 : Int) := by omega
  have q9 : (m8 : Int) ≤ (n : Int) := by omega
  have q10 : (m8 : Int) ≤ (cp : Int) := by omega
  have q11 : (8 : Int) ≤ (m8 : Int) := by omega
  have q12 : ¬ cp = m8 := by omega
  have q13 : m8 ≤ cp := by omega
  have q14 : m8 ≤ n := by omega
  have HP3 : Hid (In w (some ⟨b, off + 8, none⟩) (m8 - 8) (cp - 8) (bodyOf l)) := by
    have e := hl.piece 8 m8 (by omega) (by omega)
    subst hm8 hnum
    exact e
  have HP4 : Hid (In w (some ⟨b, off + m8, none⟩) (n - m8) (cp - m8) (l.drop m8)) := by
    have e := hl.piece m8 n (by omega) (by omega)
    rw [List.take_of_length_le (by rw [hl.1]; exact Nat.le_refl _)] at e
    exact e
  obtain ⟨Z, hZ⟩ : ∃ Z, Z = num4 (l.drop m8) := ⟨_, rfl⟩
  obtain ⟨Y, hY⟩ : ∃ Y, Y = (crc (bodyOf l)).toNat := ⟨_, rfl⟩
  have HN4 : Hid (∀ k, Calls Try.prog 15 #[.slice (some ⟨b, off + m8, none⟩) (n - m8) (cp - m8)] (w.drewN k) fun e w' => e = .returned (.int .u32 (Z : Int)) ∧ ∃ k, w' = w.drewN k) := fun k => by
    rw [hZ]
    refine (refnum_is (l.drop m8) b (off + m8) (n - m8) (cp - m8) (w.drewN k) (in_drewN HP4.out) (by omega)).mono ?_
    rintro e w' ⟨rfl, j, rfl⟩
    exact ⟨rfl, k + j, World.drewN_drewN w k j⟩
  have HS3 : Hid (∀ k, Calls Try.prog 16 #[.slice (some ⟨b, off + 8, none⟩) (m8 - 8) (cp - 8)] (w.drewN k) fun e w' => e = .returned (.int .u32 (Y : Int)) ∧ w.drewN k = w') := fun k => by
    rw [hY]
    exact refSum_is (bodyOf l) _ (m8 - 8) (cp - 8) (w.drewN k) (in_drewN HP3.out)
  have hne : ¬ (Z : Int) = (Y : Int) := by rw [hZ, hY, hm8]; omega
  clear hl hok hX hnum hm hs hll hbad hZ hY hm8
  go_enter Try.func8, Try.ntmps8
  go_wp2_with fail
  go_region_with (first | (go_at_call 15; refine (HN2.out 1).mono ?_; rintro e w1 ⟨rfl, k1, rfl⟩) | (go_at_call 15; refine (HN2.out _).mono ?_; rintro e w1 ⟨rfl, k1, rfl⟩) | (go_at_call 16; refine (HS1.out _).mono ?_; rintro e w2 ⟨rfl, rfl⟩))
  all_goals go_wp2_with fail
  all_goals refine (HN1.out _).mono ?_
  all_goals rintro e w3 ⟨rfl, k3, rfl⟩
  all_goals go_wp2_with fail
  all_goals refine (HN4.out _).mono ?_
  all_goals rintro e w4 ⟨rfl, k4, rfl⟩
  all_goals go_wp2_with fail
  all_goals refine (HS3.out _).mono ?_
  all_goals rintro e w5 ⟨rfl, rfl⟩
  all_goals go_wp2
  all_goals go_ret3
  all_goals exact ⟨rfl, _, rfl⟩
end Go.Proofs.Ytchblcfbllcbmab.Oct
