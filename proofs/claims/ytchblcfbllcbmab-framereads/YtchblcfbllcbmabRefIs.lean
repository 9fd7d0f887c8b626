/-
  Layer 4 (frame): the reference's 'Unframe', whatever it answers.
-/
import Derived.Test.YtchblcfbllcbmabRefs2
import Derived.Test.YtchblcfbllcbmabRefs3
import Derived.Test.YtchblcfbllcbmabRefs4
namespace Go.Proofs.Ytchblcfbllcbmab.Oct
open Go.RowKit

theorem refUnframe_ok (l : List UInt8) (b off n cp m : Nat) (w : World) (hl : In w (some ⟨b, off, none⟩) n cp l) (h : errOf l = 0) (hm : num4 l = m) :
    Calls Try.prog 8 #[.slice (some ⟨b, off, none⟩) n cp] w fun e w' => ∃ a' c, e = .returned (.tuple #[.slice a' m c, .int .i64 ((m : Int) + 12), .int .i64 0]) ∧ Hid (Own 5 w.heap.size w' (.slice a' m c) (bodyOf l)) ∧ Hid (Below w.heap.size w w') := by
  obtain ⟨h1, h2, h3, h4, h5⟩ := good_of h
  have hn := hl.1
  refine (refUnframe_good l b off n cp m w hl (by omega) h2 hm (by omega) (by omega) (by subst hm; exact h5)).mono ?_
  rintro e w' h
  exact h
theorem refUnframe_none (l : List UInt8) (a : Option Addr) (n cp : Nat) (w : World) (hl : In w a n cp l) (h : errOf l ≠ 0) :
    Calls Try.prog 8 #[.slice a n cp] w fun e w' => e = .returned (.tuple #[.slice none 0 0, .int .i64 0, .int .i64 (errOf l : Int)]) ∧ ∃ k, w' = w.drewN k := by
  have hn := hl.1
  by_cases h8 : n < 8
  · have e : errOf l = 10 := by unfold errOf; rw [if_pos (by omega)]
    rw [e]
    exact refUnframe_short l a n cp w hl h8
  · obtain ⟨b, off, rfl, -, -⟩ := hl.2.2.2.2 (by omega)
    by_cases h2 : (crc (l.take 4)).toNat ≠ num4 (l.drop 4)
    · have e : errOf l = 40 := by unfold errOf; rw [if_neg (by omega), if_pos h2]
      rw [e]
      exact refUnframe_head l b off n cp w hl (by omega) h2
    · by_cases h3 : 65536 < num4 l
      · have e : errOf l = 3 := by unfold errOf; rw [if_neg (by omega), if_neg h2, if_pos h3]
        rw [e]
        exact refUnframe_long l b off n cp _ w hl (by omega) (Decidable.not_not.1 h2) rfl h3
      · by_cases h4 : l.length < num4 l + 12
        · have e : errOf l = 10 := by unfold errOf; rw [if_neg (by omega), if_neg h2, if_neg h3, if_pos h4]
          rw [e]
          exact refUnframe_cut l b off n cp _ w hl (by omega) (Decidable.not_not.1 h2) rfl (by omega) (by omega)
        · by_cases h5 : (crc ((l.take (num4 l + 8)).drop 8)).toNat ≠ num4 (l.drop (num4 l + 8))
          · have e : errOf l = 40 := by unfold errOf; rw [if_neg (by omega), if_neg h2, if_neg h3, if_neg h4, if_pos h5]
            rw [e]
            exact refUnframe_body l b off n cp _ w hl (by omega) (Decidable.not_not.1 h2) rfl (by omega) (by omega) h5
          · exact absurd (by unfold errOf; rw [if_neg (by omega), if_neg h2, if_neg h3, if_neg h4, if_neg h5]) h
end Go.Proofs.Ytchblcfbllcbmab.Oct
