/-
  Layer 4 (frame): 'open' of a number that is too great.
-/
import Derived.Test.YtchblcfbllcbmabOpen
namespace Go.Proofs.Ytchblcfbllcbmab.Oct
open Go.RowKit

set_option maxRecDepth 100000 in
set_option maxHeartbeats 400000 in
theorem open_long (l : List UInt8) (b off n cp m : Nat) (w : World) (hl : In w (some ⟨b, off, none⟩) n cp l) (hn : 8 ≤ n) (hok : (crc (l.take 4)).toNat = num4 (l.drop 4)) (hnum : num4 l = m) (hm : 65536 < m) (hm2 : m < 4294967296) :
    Calls Try.prog 13 #[.slice (some ⟨b, off, none⟩) n cp] w fun e w' => e = .returned (.tuple #[.slice none 0 0, .int .i64 0, .int .i64 3]) ∧ ∃ k, w' = w.drewN k := by
  have HOK : Hid ((crc (l.take 4)).toNat = num4 (l.drop 4)) := hok
  have HNUM : Hid (num4 l = m) := hnum
  have b1 := hl.2.2.1
  have b2 := hl.2.1
  have HL : Hid (In w (some ⟨b, off, none⟩) n cp l) := hl
  have HP1 : Hid (In w (some ⟨b, off, none⟩) 4 cp (l.take 4)) := by show In _ _ _ _ _; have e := hl.piece 0 4 (by omega) (by omega); simpa using e
  have HP2 : Hid (In w (some ⟨b, off + 4, none⟩) (n - 4) (cp - 4) (l.drop 4)) := by
    have e := hl.piece 4 n (by omega) (by omega)
    rw [List.take_of_length_le (by rw [hl.1]; exact Nat.le_refl _)] at e
    exact e
  have q1 : (8 : Int) ≤ (n : Int) := by omega
  have q2 : (8 : Int) ≤ (cp : Int) := by omega
  have q3 : ¬ cp = 4 := by omega
  have q4 : 4 ≤ cp := by omega
  have q5 : 4 ≤ n := by omega
  have HM : Hid (4 ≤ n - 4) := by show 4 ≤ n - 4; omega
  have HN4 : Hid (4 ≤ n) := q5
  have q7 : (65536 : Int) < (m : Int) := by omega
  clear hl hok hnum hm hm2
  go_enter Try.func13, Try.ntmps13
  go_wp2_with fail
  go_region_with (go_at_call 20; refine (isSum_is _ _ _ _ _ _ _ _ _ (show In w.drew _ _ _ _ from HP1.out) (show In w.drew _ _ _ _ from HP2.out) HM.out).mono ?_; rintro e w1 ⟨rfl, rfl⟩; rw [decide_eq_true HOK.out])
  all_goals go_wp2_with fail
  all_goals refine (num_is l _ n cp _ (In.drewN HL.out 1) HN4.out).mono ?_
  all_goals rintro e w1 ⟨rfl, rfl⟩
  all_goals rw [HNUM.out]
  all_goals clear HP1 HP2 HM HN4 HL b1 b2 q2 q3 q4 q5 HOK HNUM
  all_goals go_wp2
  all_goals go_ret3
  all_goals exact ⟨rfl, 1, rfl⟩

#print axioms open_long
end Go.Proofs.Ytchblcfbllcbmab.Oct
