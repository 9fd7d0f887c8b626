/-
  Layer 4 (frame): which bytes begin with a frame; 'open'.
-/
import Derived.Test.YtchblcfbllcbmabOpens
import Derived.Test.YtchblcfbllcbmabOpenLong
namespace Go.Proofs.Ytchblcfbllcbmab.Oct
open Go.RowKit

/-- what is wrong with the frame that the bytes begin with: 0: nothing -/
def errOf (l : List UInt8) : Nat :=
  if l.length < 8 then 10 else if (crc (l.take 4)).toNat ≠ num4 (l.drop 4) then 40 else if 65536 < num4 l then 3 else if l.length < num4 l + 12 then 10 else if (crc ((l.take (num4 l + 8)).drop 8)).toNat ≠ num4 (l.drop (num4 l + 8)) then 40 else 0
/-- the bytes of the frame that the bytes begin with -/
def bodyOf (l : List UInt8) : List UInt8 := (l.take (num4 l + 8)).drop 8
theorem good_of {l : List UInt8} (h : errOf l = 0) : 8 ≤ l.length ∧ (crc (l.take 4)).toNat = num4 (l.drop 4) ∧ num4 l ≤ 65536 ∧ num4 l + 12 ≤ l.length ∧ (crc (bodyOf l)).toNat = num4 (l.drop (num4 l + 8)) := by
  unfold errOf at h
  split at h
  · omega
  split at h
  · omega
  split at h
  · omega
  split at h
  · omega
  split at h
  · omega
  rename_i h1 h2 h3 h4 h5
  exact ⟨by omega, Decidable.not_not.1 h2, by omega, by omega, Decidable.not_not.1 h5⟩
theorem bodyOf_length {l : List UInt8} (h : errOf l = 0) : (bodyOf l).length = num4 l := by
  have := good_of h
  unfold bodyOf
  rw [List.length_drop, List.length_take]
  omega
theorem num4_lt4 (l : List UInt8) : num4 l < 4294967296 := by
  have := numTo_lt l 4
  rw [numTo_four] at this
  omega

/-- 'open' of bytes that begin with a frame -/
theorem open_ok (l : List UInt8) (b off n cp m : Nat) (w : World) (hl : In w (some ⟨b, off, none⟩) n cp l) (h : errOf l = 0) (hm : num4 l = m) :
    Calls Try.prog 13 #[.slice (some ⟨b, off, none⟩) n cp] w fun e w' => e = .returned (.tuple #[.slice (some ⟨b, off + 8, none⟩) m (cp - 8), .int .i64 ((m : Int) + 12), .int .i64 0]) ∧ ∃ k, w' = w.drewN k := by
  obtain ⟨h1, h2, h3, h4, h5⟩ := good_of h
  have hn := hl.1
  exact open_good l b off n cp m w hl (by omega) h2 hm (by omega) (by omega) (by subst hm; exact h5)
/-- 'open' of bytes that don't -/
theorem open_none (l : List UInt8) (a : Option Addr) (n cp : Nat) (w : World) (hl : In w a n cp l) (h : errOf l ≠ 0) :
    Calls Try.prog 13 #[.slice a n cp] w fun e w' => e = .returned (.tuple #[.slice none 0 0, .int .i64 0, .int .i64 (errOf l : Int)]) ∧ ∃ k, w' = w.drewN k := by
  have hn := hl.1
  by_cases h8 : n < 8
  · have e : errOf l = 10 := by unfold errOf; rw [if_pos (by omega)]
    rw [e]
    exact open_short l a n cp w hl h8
  · obtain ⟨b, off, rfl, -, -⟩ := hl.2.2.2.2 (by omega)
    by_cases h2 : (crc (l.take 4)).toNat ≠ num4 (l.drop 4)
    · have e : errOf l = 40 := by unfold errOf; rw [if_neg (by omega), if_pos h2]
      rw [e]
      exact open_head8 l b off n cp w hl (by omega) h2
    · by_cases h3 : 65536 < num4 l
      · have e : errOf l = 3 := by unfold errOf; rw [if_neg (by omega), if_neg h2, if_pos h3]
        rw [e]
        exact open_long l b off n cp _ w hl (by omega) (Decidable.not_not.1 h2) rfl h3 (num4_lt4 l)
      · by_cases h4 : l.length < num4 l + 12
        · have e : errOf l = 10 := by unfold errOf; rw [if_neg (by omega), if_neg h2, if_neg h3, if_pos h4]
          rw [e]
          exact open_cut l b off n cp _ w hl (by omega) (Decidable.not_not.1 h2) rfl (by omega) (by omega)
        · by_cases h5 : (crc ((l.take (num4 l + 8)).drop 8)).toNat ≠ num4 (l.drop (num4 l + 8))
          · have e : errOf l = 40 := by unfold errOf; rw [if_neg (by omega), if_neg h2, if_neg h3, if_neg h4, if_pos h5]
            rw [e]
            exact open_body8 l b off n cp _ w hl (by omega) (Decidable.not_not.1 h2) rfl (by omega) (by omega) h5
          · exact absurd (by unfold errOf; rw [if_neg (by omega), if_neg h2, if_neg h3, if_neg h4, if_neg h5]) h

/-- the frames that bytes begin with: where each stands, and how many bytes it has -/
def framesOf (l : List UInt8) : Nat → Nat → List (Nat × Nat)
  | 0, _ => []
  | f + 1, at_ => if errOf (l.drop at_) = 0 then (at_, num4 (l.drop at_)) :: framesOf l f (at_ + num4 (l.drop at_) + 12) else []
#print axioms open_none
end Go.Proofs.Ytchblcfbllcbmab.Oct
