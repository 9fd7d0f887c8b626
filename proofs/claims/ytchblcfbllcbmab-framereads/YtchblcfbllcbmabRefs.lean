/-
  Layer 4 (frame): the reference's 'Unframe'.
-/
import Derived.Test.YtchblcfbllcbmabReads1
namespace Go.Proofs.Ytchblcfbllcbmab.Oct
open Go.RowKit

theorem refUnframe_short (l : List UInt8) (a : Option Addr) (n cp : Nat) (w : World) (_hl : In w a n cp l) (hn : n < 8) :
    Calls Try.prog 8 #[.slice a n cp] w fun e w' => e = .returned (.tuple #[.slice none 0 0, .int .i64 0, .int .i64 10]) ∧ ∃ k, w' = w.drewN k := by
  have q1 : (n : Int) < 8 := by omega
  go_enter Try.func8, Try.ntmps8
  go_wp2
  go_ret3
  exact ⟨rfl, 0, rfl⟩

set_option maxHeartbeats 800000 in
theorem refUnframe_head (l : List UInt8) (b off n cp : Nat) (w : World) (hl : In w (some ⟨b, off, none⟩) n cp l) (hn : 8 ≤ n) (hbad : (crc (l.take 4)).toNat ≠ num4 (l.drop 4)) :
    Calls Try.prog 8 #[.slice (some ⟨b, off, none⟩) n cp] w fun e w' => e = .returned (.tuple #[.slice none 0 0, .int .i64 0, .int .i64 40]) ∧ ∃ k, w' = w.drewN k := by
  have b1 := hl.2.2.1
  have b2 := hl.2.1
  have HL : Hid (In w (some ⟨b, off, none⟩) n cp l) := hl
  have HP1 : Hid (In w (some ⟨b, off, none⟩) 4 cp (l.take 4)) := by show In _ _ _ _ _; have e := hl.piece 0 4 (by omega) (by omega); simpa using e
  have HP2 : Hid (In w (some ⟨b, off + 4, none⟩) (n - 4) (cp - 4) (l.drop 4)) := by
    have e := hl.piece 4 n (by omega) (by omega)
    rw [List.take_of_length_le (by rw [hl.1]; exact Nat.le_refl _)] at e
    exact e
  obtain ⟨X, hX⟩ : ∃ X, X = num4 (l.drop 4) := ⟨_, rfl⟩
  obtain ⟨Y, hY⟩ : ∃ Y, Y = (crc (l.take 4)).toNat := ⟨_, rfl⟩
  have HN2 : Hid (∀ k, Calls Try.prog 15 #[.slice (some ⟨b, off + 4, none⟩) (n - 4) (cp - 4)] (w.drewN k) fun e w' => e = .returned (.int .u32 (X : Int)) ∧ ∃ k, w' = w.drewN k) := fun k => by
    rw [hX]
    refine (refnum_is (l.drop 4) b (off + 4) (n - 4) (cp - 4) (w.drewN k) (in_drewN HP2.out) (by omega)).mono ?_
    rintro e w' ⟨rfl, j, rfl⟩
    exact ⟨rfl, k + j, World.drewN_drewN w k j⟩
  have HS1 : Hid (∀ k, Calls Try.prog 16 #[.slice (some ⟨b, off, none⟩) 4 cp] (w.drewN k) fun e w' => e = .returned (.int .u32 (Y : Int)) ∧ w.drewN k = w') := fun k => by
    rw [hY]
    exact refSum_is (l.take 4) _ 4 cp (w.drewN k) (in_drewN HP1.out)
  have hne : ¬ (X : Int) = (Y : Int) := by omega
  have q1 : (8 : Int) ≤ (n : Int) := by omega
  have q2 : (8 : Int) ≤ (cp : Int) := by omega
  have q3 : ¬ cp = 4 := by omega
  have q4 : 4 ≤ cp := by omega
  have q5 : 4 ≤ n := by omega
  clear hl hbad hX hY
  go_enter Try.func8, Try.ntmps8
  go_wp2_with fail
  go_region_with (first | (go_at_call 15; refine (HN2.out 1).mono ?_; rintro e w1 ⟨rfl, k1, rfl⟩) | (go_at_call 15; refine (HN2.out _).mono ?_; rintro e w1 ⟨rfl, k1, rfl⟩) | (go_at_call 16; refine (HS1.out _).mono ?_; rintro e w2 ⟨rfl, rfl⟩))
  all_goals go_wp2
  all_goals go_ret3
  all_goals exact ⟨rfl, _, rfl⟩
end Go.Proofs.Ytchblcfbllcbmab.Oct
