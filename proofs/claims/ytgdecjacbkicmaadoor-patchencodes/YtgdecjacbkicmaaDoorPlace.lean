/-
  Layer 12 (deps): Place, Hashes, isLong, light.
-/
import Derived.Test.YtgdecjacbkicmaaDoorSmallReg
namespace Go.Proofs.YtgdecjacbkicmaaDoor.Oct
open Go.RowKit
set_option maxRecDepth 100000

set_option maxRecDepth 100000 in
set_option maxHeartbeats 1000000 in
theorem place_is (w : World) (a : Option Addr) (n c : Nat) (hs : List Hs) (h : Hs) (hr : HsR w a n hs) (hl : h.length = 32) (hn : n ≤ 100000) :
    Calls Tryd.prog 50 #[.slice a n c, .agg (U h).toArray] w fun e w' => e = .returned (.int .i64 (placeOf h hs)) ∧ Hid (Below w.heap.size w w') := by
  have HR : Hid (HsR w a n hs) := hr
  have q0 : (n : Int) ≤ 100000 := by omega
  have HL : Hid (h.length = 32) := hl
  have hu := Tryd.underlying36
  have hi34 := info47 h hl
  have h1 := U_one h
  have hul : (U h).length = 32 := by rw [U_length, hl]
  clear hr hn hl
  go_enter Tryd.func50, Tryd.ntmps50
  go_wp2
  obtain ⟨W, hW⟩ : ∃ W, w.alloc (.cells (U h).toArray 36) = W := ⟨_, rfl⟩
  have HB0 : Hid (Below w.heap.size w W) := by show Below _ _ _; rw [← hW]; exact (Below.refl _ w).alloc (Nat.le_refl _) _
  have HK0 : Hid (Blk W w.heap.size 36 (U h)) := by show Blk _ _ _ _; rw [← hW]; simpa using Blk.new w (U h).toArray 36
  rw [hW]
  clear hW
  go_loopw [5] (fun u wr => ∃ i : Nat, u = .int .i64 (i : Int) ∧ Hid (i ≤ n ∧ ∀ j x, j < i → hs[j]? = some x → x ≠ h) ∧ Hid (Below w.heap.size w wr ∧ Blk wr w.heap.size 36 (U h))) (fun u _ => n - (intOf u).toNat)
  case atStart => exact ⟨0, rfl, ⟨Nat.zero_le _, fun j x hj => absurd hj (by omega)⟩, ⟨HB0.out, HK0.out⟩⟩
  case round =>
    obtain ⟨i, rfl, HI, HB⟩ := hrel
    by_cases hi : i < n
    · obtain ⟨x, hx⟩ : ∃ x, hs[i]? = some x := ⟨_, List.getElem?_eq_getElem (by rw [HR.out.1]; exact hi)⟩
      obtain ⟨g, off, rfl, hg, hel⟩ := HR.out.2.2 (by omega)
      have hxl := HR.out.2.1 x (List.mem_of_getElem? hx)
      have i34 := info47 x hxl
      have HX : Hid (i < n ∧ hs[i]? = some x) := ⟨hi, hx⟩
      have hra : wr.rangeAt g (off + i * 32) (U x) := rangeAt_same (hel i x hx) (HB.out.1.block g hg)
      have hrb : wr.rangeAt w.heap.size 0 (U h) := by have := HB.out.2.range 0 32; rw [List.drop_zero, List.take_of_length_le (by omega)] at this; exact this
      have HRA : Hid (wr.rangeAt g (off + i * 32) (U x) ∧ wr.rangeAt w.heap.size 0 (U h)) := ⟨hra, hrb⟩
      have q1 : (i : Int) < (n : Int) := by omega
      have heq := eqH x h hxl HL.out
      have HXL : Hid (x.length = 32) := hxl
      clear hel hx hi hra hrb hxl
      cases hd : decide (x = h) with
      | true =>
        have hd' : x = h := by simpa using hd
        rw [hd] at heq
        have HD : Hid (x = h) := hd'
        clear hd hd'
        go_wp2
        refine place_region HXL.out HL.out (by omega) heq HRA.out ?_
        go_wp2
        go_ret
        refine ⟨?_, HB.out.1.drew⟩
        rw [placeOf_at (by rw [HX.out.2, HD.out]) HI.out.2]
        rfl
      | false =>
        have hd' : x ≠ h := by simpa using hd
        rw [hd] at heq
        have HD : Hid (x ≠ h) := hd'
        clear hd hd'
        go_wp2
        refine place_region HXL.out HL.out (by omega) heq HRA.out ?_
        go_wp2
        go_roundw
        case rel =>
          refine ⟨i + 1, by simp, ⟨HX.out.1, fun j y hj hy => ?_⟩, ⟨HB.out.1.drew, HB.out.2⟩⟩
          by_cases hji : j = i
          · subst hji; rw [HX.out.2] at hy; cases hy; exact HD.out
          · exact HI.out.2 j y (by omega) hy
        case measure => have := HX.out; simp [intOf]; omega
    · have q1 : ¬ (i : Int) < (n : Int) := by omega
      go_wp2
      go_ret
      refine ⟨?_, HB.out.1⟩
      rw [placeOf_no (h := h) ?_]
      · rfl
      intro x hx
      obtain ⟨j, hj, rfl⟩ := List.mem_iff_getElem.1 hx
      exact HI.out.2 j _ (by rw [HR.out.1] at hj; omega) (List.getElem?_eq_getElem hj)

end Go.Proofs.YtgdecjacbkicmaaDoor.Oct
