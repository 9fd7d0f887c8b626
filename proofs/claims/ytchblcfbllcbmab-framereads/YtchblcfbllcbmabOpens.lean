/-
  Layer 4 (frame): 'open', whatever it answers.
-/
import Derived.Test.YtchblcfbllcbmabOpen
namespace Go.Proofs.Ytchblcfbllcbmab.Oct
open Go.RowKit

theorem open_short (l : List UInt8) (a : Option Addr) (n cp : Nat) (w : World) (_hl : In w a n cp l) (hn : n < 8) :
    Calls Try.prog 13 #[.slice a n cp] w fun e w' => e = .returned (.tuple #[.slice none 0 0, .int .i64 0, .int .i64 10]) ∧ ∃ k, w' = w.drewN k := by
  have q1 : (n : Int) < 8 := by omega
  go_enter Try.func13, Try.ntmps13
  go_wp2
  go_ret3
  exact ⟨rfl, 0, rfl⟩

set_option maxHeartbeats 400000 in
theorem open_head8 (l : List UInt8) (b off n cp : Nat) (w : World) (hl : In w (some ⟨b, off, none⟩) n cp l) (hn : 8 ≤ n) (hbad : (crc (l.take 4)).toNat ≠ num4 (l.drop 4)) :
    Calls Try.prog 13 #[.slice (some ⟨b, off, none⟩) n cp] w fun e w' => e = .returned (.tuple #[.slice none 0 0, .int .i64 0, .int .i64 40]) ∧ ∃ k, w' = w.drewN k := by
  have HBAD : Hid ((crc (l.take 4)).toNat ≠ num4 (l.drop 4)) := hbad
  have b1 := hl.2.2.1
  have b2 := hl.2.1
  have HL : Hid (In w (some ⟨b, off, none⟩) n cp l) := hl
  have HP1 : Hid (In w (some ⟨b, off, none⟩) 4 cp (l.take 4)) := by show In _ _ _ _ _; have e := hl.piece 0 4 (by omega) (by omega); simpa using e
  have HP2 : Hid (In w (some ⟨b, off + 4, none⟩) (n - 4) (cp - 4) (l.drop 4)) := by
    have e := hl.piece 4 n (by omega) (by omega)
    rw [List.take_of_length_le (by rw [hl.1]; exact Nat.le_refl _)] at e
    exact e
  have q1 : (8 : Int) ≤ (n : Int) := by omega
  have q2 : (8 : Int) ≤ (cp : Int) := by omega
  have q3 : ¬ cp = 4 := by omega
  have q4 : 4 ≤ cp := by omega
  have q5 : 4 ≤ n := by omega
  have HM : Hid (4 ≤ n - 4) := by show 4 ≤ n - 4; omega
  have HN4 : Hid (4 ≤ n) := q5
  clear hl hbad
  go_enter Try.func13, Try.ntmps13
  go_wp2_with fail
  go_region_with (go_at_call 20; refine (isSum_is _ _ _ _ _ _ _ _ _ (show In w.drew _ _ _ _ from HP1.out) (show In w.drew _ _ _ _ from HP2.out) HM.out).mono ?_; rintro e w1 ⟨rfl, rfl⟩; rw [decide_eq_false HBAD.out])
  all_goals go_wp2
  all_goals go_ret3
  all_goals exact ⟨rfl, 1, rfl⟩

set_option maxHeartbeats 400000 in
theorem open_cut (l : List UInt8) (b off n cp m : Nat) (w : World) (hl : In w (some ⟨b, off, none⟩) n cp l) (hn : 8 ≤ n) (hok : (crc (l.take 4)).toNat = num4 (l.drop 4)) (hnum : num4 l = m) (hm : m ≤ 65536) (hs : n < m + 12) :
    Calls Try.prog 13 #[.slice (some ⟨b, off, none⟩) n cp] w fun e w' => e = .returned (.tuple #[.slice none 0 0, .int .i64 0, .int .i64 10]) ∧ ∃ k, w' = w.drewN k := by
  have HOK : Hid ((crc (l.take 4)).toNat = num4 (l.drop 4)) := hok
  have HNUM : Hid (num4 l = m) := hnum
  have b1 := hl.2.2.1
  have b2 := hl.2.1
  have HL : Hid (In w (some ⟨b, off, none⟩) n cp l) := hl
  have HP1 : Hid (In w (some ⟨b, off, none⟩) 4 cp (l.take 4)) := by show In _ _ _ _ _; have e := hl.piece 0 4 (by omega) (by omega); simpa using e
  have HP2 : Hid (In w (some ⟨b, off + 4, none⟩) (n - 4) (cp - 4) (l.drop 4)) := by
    have e := hl.piece 4 n (by omega) (by omega)
    rw [List.take_of_length_le (by rw [hl.1]; exact Nat.le_refl _)] at e
    exact e
  have q1 : (8 : Int) ≤ (n : Int) := by omega
  have q2 : (8 : Int) ≤ (cp : Int) := by omega
  have q3 : ¬ cp = 4 := by omega
  have q4 : 4 ≤ cp := by omega
  have q5 : 4 ≤ n := by omega
  have HM : Hid (4 ≤ n - 4) := by show 4 ≤ n - 4; omega
  have HN4 : Hid (4 ≤ n) := q5
  have q7 : (m : Int) ≤ 65536 := by omega
  have q8 : (n : Int) < (m : Int) + 12 := by omega
  clear hl hok hnum
  go_enter Try.func13, Try.ntmps13
  go_wp2_with fail
  go_region_with (go_at_call 20; refine (isSum_is _ _ _ _ _ _ _ _ _ (show In w.drew _ _ _ _ from HP1.out) (show In w.drew _ _ _ _ from HP2.out) HM.out).mono ?_; rintro e w1 ⟨rfl, rfl⟩; rw [decide_eq_true HOK.out])
  all_goals go_wp2_with fail
  all_goals refine (num_is l _ n cp _ (In.drewN HL.out 1) HN4.out).mono ?_
  all_goals rintro e w1 ⟨rfl, rfl⟩
  all_goals rw [HNUM.out]
  all_goals go_wp2
  all_goals go_ret3
  all_goals exact ⟨rfl, 1, rfl⟩

set_option maxHeartbeats 400000 in
theorem open_body8 (l : List UInt8) (b off n cp m : Nat) (w : World) (hl : In w (some ⟨b, off, none⟩) n cp l) (hn : 8 ≤ n) (hok : (crc (l.take 4)).toNat = num4 (l.drop 4)) (hnum : num4 l = m) (hm : m ≤ 65536) (hs : m + 12 ≤ n) (hbody : (crc ((l.take (m + 8)).drop 8)).toNat ≠ num4 (l.drop (m + 8))) :
    Calls Try.prog 13 #[.slice (some ⟨b, off, none⟩) n cp] w fun e w' => e = .returned (.tuple #[.slice none 0 0, .int .i64 0, .int .i64 40]) ∧ ∃ k, w' = w.drewN k := by
  have HOK : Hid ((crc (l.take 4)).toNat = num4 (l.drop 4)) := hok
  have HNUM : Hid (num4 l = m) := hnum
  have HBAD : Hid ((crc ((l.take (m + 8)).drop 8)).toNat ≠ num4 (l.drop (m + 8))) := hbody
  have b1 := hl.2.2.1
  have b2 := hl.2.1
  have HL : Hid (In w (some ⟨b, off, none⟩) n cp l) := hl
  have HP1 : Hid (In w (some ⟨b, off, none⟩) 4 cp (l.take 4)) := by show In _ _ _ _ _; have e := hl.piece 0 4 (by omega) (by omega); simpa using e
  have HP2 : Hid (In w (some ⟨b, off + 4, none⟩) (n - 4) (cp - 4) (l.drop 4)) := by
    have e := hl.piece 4 n (by omega) (by omega)
    rw [List.take_of_length_le (by rw [hl.1]; exact Nat.le_refl _)] at e
    exact e
  have q1 : (8 : Int) ≤ (n : Int) := by omega
  have q2 : (8 : Int) ≤ (cp : Int) := by omega
  have q3 : ¬ cp = 4 := by omega
  have q4 : 4 ≤ cp := by omega
  have q5 : 4 ≤ n := by omega
  have HM : Hid (4 ≤ n - 4) := by show 4 ≤ n - 4; omega
  have HN4 : Hid (4 ≤ n) := q5
  have q7 : (m : Int) ≤ 65536 := by omega
  have HP3 : Hid (In w (some ⟨b, off + 8, none⟩) m (cp - 8) ((l.take (m + 8)).drop 8)) := by
    have e := hl.piece 8 (m + 8) (by omega) (by omega)
    rw [show m + 8 - 8 = m by omega] at e
    exact e
  have HP4 : Hid (In w (some ⟨b, off + (m + 8), none⟩) (n - (m + 8)) (cp - (m + 8)) (l.drop (m + 8))) := by
    have e := hl.piece (m + 8) n (by omega) (by omega)
    rw [List.take_of_length_le (by rw [hl.1]; exact Nat.le_refl _)] at e
    exact e
  have q8 : (m : Int) + 12 ≤ (n : Int) := by omega
  have q9 : ¬ cp = 8 := by omega
  have q10 : ¬ cp = m + 8 := by omega
  have q11 : (m : Int) + 8 ≤ (cp : Int) := by omega
  have q12 : (m : Int) + 12 ≤ (cp : Int) := by omega
  have q13 : ((m : Int) + 8).toNat = m + 8 := by omega
  have HM4 : Hid (4 ≤ n - (m + 8)) := by show 4 ≤ n - (m + 8); omega
  clear hl hok hnum hbody hs
  go_enter Try.func13, Try.ntmps13
  go_wp2_with fail
  go_region_with (go_at_call 20; refine (isSum_is _ _ _ _ _ _ _ _ _ (show In w.drew _ _ _ _ from HP1.out) (show In w.drew _ _ _ _ from HP2.out) HM.out).mono ?_; rintro e w1 ⟨rfl, rfl⟩; rw [decide_eq_true HOK.out])
  all_goals go_wp2_with fail
  all_goals refine (num_is l _ n cp _ (In.drewN HL.out 1) HN4.out).mono ?_
  all_goals rintro e w1 ⟨rfl, rfl⟩
  all_goals rw [HNUM.out]
  all_goals go_wp2_with fail
  all_goals refine (isSum_is _ _ _ _ m _ (cp - 8) _ _ (In.drewN HP3.out 1) (In.drewN HP4.out 1) HM4.out).mono ?_
  all_goals rintro e w1 ⟨rfl, rfl⟩
  all_goals rw [decide_eq_false HBAD.out]
  all_goals go_wp2
  all_goals go_ret3
  all_goals exact ⟨rfl, 1, rfl⟩

set_option maxHeartbeats 400000 in
theorem open_good (l : List UInt8) (b off n cp m : Nat) (w : World) (hl : In w (some ⟨b, off, none⟩) n cp l) (hn : 8 ≤ n) (hok : (crc (l.take 4)).toNat = num4 (l.drop 4)) (hnum : num4 l = m) (hm : m ≤ 65536) (hs : m + 12 ≤ n) (hbody : (crc ((l.take (m + 8)).drop 8)).toNat = num4 (l.drop (m + 8))) :
    Calls Try.prog 13 #[.slice (some ⟨b, off, none⟩) n cp] w fun e w' => e = .returned (.tuple #[.slice (some ⟨b, off + 8, none⟩) m (cp - 8), .int .i64 ((m : Int) + 12), .int .i64 0]) ∧ ∃ k, w' = w.drewN k := by
  have HOK : Hid ((crc (l.take 4)).toNat = num4 (l.drop 4)) := hok
  have HNUM : Hid (num4 l = m) := hnum
  have HBAD : Hid ((crc ((l.take (m + 8)).drop 8)).toNat = num4 (l.drop (m + 8))) := hbody
  have b1 := hl.2.2.1
  have b2 := hl.2.1
  have HL : Hid (In w (some ⟨b, off, none⟩) n cp l) := hl
  have HP1 : Hid (In w (some ⟨b, off, none⟩) 4 cp (l.take 4)) := by show In _ _ _ _ _; have e := hl.piece 0 4 (by omega) (by omega); simpa using e
  have HP2 : Hid (In w (some ⟨b, off + 4, none⟩) (n - 4) (cp - 4) (l.drop 4)) := by
    have e := hl.piece 4 n (by omega) (by omega)
    rw [List.take_of_length_le (by rw [hl.1]; exact Nat.le_refl _)] at e
    exact e
  have q1 : (8 : Int) ≤ (n : Int) := by omega
  have q2 : (8 : Int) ≤ (cp : Int) := by omega
  have q3 : ¬ cp = 4 := by omega
  have q4 : 4 ≤ cp := by omega
  have q5 : 4 ≤ n := by omega
  have HM : Hid (4 ≤ n - 4) := by show 4 ≤ n - 4; omega
  have HN4 : Hid (4 ≤ n) := q5
  have q7 : (m : Int) ≤ 65536 := by omega
  have HP3 : Hid (In w (some ⟨b, off + 8, none⟩) m (cp - 8) ((l.take (m + 8)).drop 8)) := by
    have e := hl.piece 8 (m + 8) (by omega) (by omega)
    rw [show m + 8 - 8 = m by omega] at e
    exact e
  have HP4 : Hid (In w (some ⟨b, off + (m + 8), none⟩) (n - (m + 8)) (cp - (m + 8)) (l.drop (m + 8))) := by
    have e := hl.piece (m + 8) n (by omega) (by omega)
    rw [List.take_of_length_le (by rw [hl.1]; exact Nat.le_refl _)] at e
    exact e
  have q8 : (m : Int) + 12 ≤ (n : Int) := by omega
  have q9 : ¬ cp = 8 := by omega
  have q10 : ¬ cp = m + 8 := by omega
  have q11 : (m : Int) + 8 ≤ (cp : Int) := by omega
  have q12 : (m : Int) + 12 ≤ (cp : Int) := by omega
  have q13 : ((m : Int) + 8).toNat = m + 8 := by omega
  have HM4 : Hid (4 ≤ n - (m + 8)) := by show 4 ≤ n - (m + 8); omega
  clear hl hok hnum hbody hs
  go_enter Try.func13, Try.ntmps13
  go_wp2_with fail
  go_region_with (go_at_call 20; refine (isSum_is _ _ _ _ _ _ _ _ _ (show In w.drew _ _ _ _ from HP1.out) (show In w.drew _ _ _ _ from HP2.out) HM.out).mono ?_; rintro e w1 ⟨rfl, rfl⟩; rw [decide_eq_true HOK.out])
  all_goals go_wp2_with fail
  all_goals refine (num_is l _ n cp _ (In.drewN HL.out 1) HN4.out).mono ?_
  all_goals rintro e w1 ⟨rfl, rfl⟩
  all_goals rw [HNUM.out]
  all_goals go_wp2_with fail
  all_goals refine (isSum_is _ _ _ _ m _ (cp - 8) _ _ (In.drewN HP3.out 1) (In.drewN HP4.out 1) HM4.out).mono ?_
  all_goals rintro e w1 ⟨rfl, rfl⟩
  all_goals rw [decide_eq_true HBAD.out]
  all_goals go_wp2
  all_goals go_ret3
  all_goals exact ⟨rfl, 1, rfl⟩

#print axioms open_good
end Go.Proofs.Ytchblcfbllcbmab.Oct
