/-
  Layer 4 (frame): 'slices.Clone' of bytes, 'All' and 'frames' up to their closures.
-/
import Derived.Test.YtchblcfbllcbmabUnframe
import Derived.Test.YtchblcfbllcbmabSlices
namespace Go.Proofs.Ytchblcfbllcbmab.Oct
open Go.RowKit

/-- 'slices.Clone' of bytes -/
theorem clone_is (l : List UInt8) (a : Option Addr) (n cp : Nat) (w : World) (hl : In w a n cp l) (hn : n ≤ 1000000) :
    Calls Try.prog 14 #[.slice a n cp] w fun e w' => ∃ a' c, e = .returned (.slice a' n c) ∧ Hid (In w' a' n c l) ∧ Hid (Below w.heap.size w w') ∧ Hid (0 < n → ∃ g, a' = some ⟨g, 0, none⟩ ∧ w.heap.size ≤ g) := by
  cases a with
  | none =>
    have h1 := hl.2.2.2.1 rfl
    have h2 := hl.2.1
    have h3 := hl.1
    obtain rfl : cp = 0 := h1
    obtain rfl : n = 0 := by omega
    obtain rfl : l = [] := List.eq_nil_of_length_eq_zero h3
    refine (clone_nil w).mono ?_
    rintro e w' ⟨rfl, rfl⟩
    exact ⟨none, 0, rfl, In.nil w, Below.refl _ _, fun h => absurd h (by omega)⟩
  | some ad =>
    obtain ⟨i0, hi, hz0, hz1, hz2⟩ := info_parts info5
    have HL : Hid (In w (some ad) n cp l) := hl
    have HLL : Hid (l.length = n) := hl.1
    have HN : Hid (n ≤ 1000000) := hn
    have h2 : ∀ W, (Op.equal 22 (.slice (some ad) n cp) (.slice none 0 0)).run Try.prog W = .ok false W := fun W => run_equalIn_slice_nil W 9999 22 5 (some ad) n cp Try.underlying22
    have h3 : ∀ W, (binOp .eql 22 (.slice (some ad) n cp) (.slice none 0 0)).run Try.prog W = .ok (.bool false) W := by intro W; simp [binOp, h2]
    have H0 : Hid ((w.alloc (.cells #[] 5)).ownsRow w.heap.size 5 1 (.slice (some ⟨w.heap.size, 0, none⟩) 0 0) 0 (U [])) := World.ownsRow_made w #[] 0 (Nat.le_refl _) (by unfold maxLen; omega) rfl
    have HB0 : Hid (Below w.heap.size w (w.alloc (.cells #[] 5))) := (Below.refl _ _).alloc (Nat.le_refl _) _
    clear h2 hl hn
    go_enter Try.func14, Try.ntmps14
    go_wp2_with (at_builtin; refine wpList_append_in _ rfl (.tmp 5) (.tmp 6) 22 rfl w.heap.size 5 i0 Try.underlying22 hi hz0 hz1 hz2 _ [] 0 rfl rfl H0.out (some ad) n cp l rfl (HL.out.below HB0.out) (by have := HN.out; omega) HB0.out.size ?_; intro v1 w1 ho1 hg1)
    go_ret
    have HB1 : Below w.heap.size w w1 := HB0.out.grown hg1 HB0.out.size (by intro b hb; exact (H0.out.lt b hb).1)
    obtain ⟨ag, cg, hv1, hin1, hg⟩ := own_in ho1 (by simp only [List.nil_append, HLL.out]; have := HN.out; omega)
    simp only [List.nil_append, HLL.out] at hv1 hin1 hg
    subst hv1
    exact ⟨ag, cg, rfl, hin1, HB1, fun h => by obtain ⟨g, e1, e2, _⟩ := hg h; exact ⟨g, e1, e2⟩⟩

/-- 'All': a closure over a copy of the bytes -/
theorem all_is (l : List UInt8) (a : Option Addr) (n cp : Nat) (w : World) (hl : In w a n cp l) (hn : n ≤ 1000000) :
    Calls Try.prog 10 #[.slice a n cp] w fun e w' => ∃ g a' c, e = .returned (.func (.func 17) #[] #[.pointer (some ⟨g, 0, none⟩)]) ∧ Hid (w.heap.size ≤ g ∧ g < w'.heap.size) ∧ Hid (w'.cell? ⟨g, 0, none⟩ = some (.slice a' n c)) ∧ Hid (In w' a' n c l) ∧ Hid (Below w.heap.size w w') := by
  have HL : Hid (In w a n cp l) := hl
  have HN : Hid (n ≤ 1000000) := hn
  clear hl hn
  go_enter Try.func10, Try.ntmps10
  go_wp2_with fail
  refine (clone_is l a n cp w HL.out HN.out).mono ?_
  rintro e w1 ⟨a1, c1, rfl, HI1, HB1, -⟩
  go_wp2
  go_ret
  have h1 := HB1.out.size
  have hB := (Below.refl w1.heap.size w1).alloc (Nat.le_refl _) (.cells #[.slice a1 n c1] 22)
  exact ⟨w1.heap.size, a1, c1, rfl, ⟨h1, by simp⟩, World.cell?_alloc_mark w1 #[.slice a1 n c1] 22 (0, 0) 0, HI1.out.below hB, HB1.out.trans (hB.mono h1)⟩

/-- 'frames': a closure over the bytes -/
theorem frames_is (a : Option Addr) (n cp : Nat) (w : World) :
    Calls Try.prog 18 #[.slice a n cp] w fun e w' => e = .returned (.func (.func 22) #[] #[.pointer (some ⟨w.heap.size, 0, none⟩)]) ∧ w' = w.alloc (.cells #[.slice a n cp] 22) := by
  go_enter Try.func18, Try.ntmps18
  go_wp2
  go_ret
  exact ⟨rfl, rfl⟩
#print axioms all_is
#print axioms frames_is
end Go.Proofs.Ytchblcfbllcbmab.Oct
