/-
  Layer 12 (deps): Place, Hashes, isLong, light.
-/
import Derived.Test.YtgdecjacbkicmaaGreatDoorSmallReg
namespace Go.Proofs.YtgdecjacbkicmaaGreatDoor.Oct
open Go.RowKit
set_option maxRecDepth 100000

set_option maxRecDepth 100000 in
set_option maxHeartbeats 1000000 in
theorem hashes_is (w : World) (a : Option Addr) (n c : Nat) (hs : List Hs) (a2 : Option Addr) (n2 c2 : Nat) (hs2 : List Hs) (hr : HsR w a n hs) (hr2 : HsR w a2 n2 hs2) (hn : n ≤ 100000) (hn2 : n2 ≤ 100000) :
    Calls Tryz.prog 16 #[.slice a n c, .slice a2 n2 c2] w fun e w' => e = .returned (.bool (decide (hs = hs2))) ∧ Hid (Below w.heap.size w w') := by
  by_cases hne : n = n2
  · subst hne
    have HR : Hid (HsR w a n hs ∧ HsR w a2 n hs2) := ⟨hr, hr2⟩
    have q0 : (n : Int) ≤ 100000 := by omega
    clear hr hr2 hn hn2
    go_enter Tryz.func16, Tryz.ntmps16
    go_wp2
    go_loopw [5] (fun u wr => ∃ i : Nat, u = .int .i64 (i : Int) ∧ Hid (i ≤ n ∧ ∀ j, j < i → hs[j]? = hs2[j]?) ∧ Hid (Below w.heap.size w wr)) (fun u _ => n - (intOf u).toNat)
    case atStart => exact ⟨0, rfl, ⟨Nat.zero_le _, fun j hj => absurd hj (by omega)⟩, Below.refl _ _⟩
    case round =>
      obtain ⟨i, rfl, HI, HB⟩ := hrel
      by_cases hi : i < n
      · obtain ⟨x, hx⟩ : ∃ x, hs[i]? = some x := ⟨_, List.getElem?_eq_getElem (by rw [HR.out.1.1]; exact hi)⟩
        obtain ⟨y, hy⟩ : ∃ y, hs2[i]? = some y := ⟨_, List.getElem?_eq_getElem (by rw [HR.out.2.1]; exact hi)⟩
        obtain ⟨g, off, rfl, hg, hel⟩ := HR.out.1.2.2 (by omega)
        obtain ⟨g2, off2, rfl, hg2, hel2⟩ := HR.out.2.2.2 (by omega)
        have HXL : Hid (x.length = 32 ∧ y.length = 32) := ⟨HR.out.1.2.1 x (List.mem_of_getElem? hx), HR.out.2.2.1 y (List.mem_of_getElem? hy)⟩
        have HX : Hid (i < n ∧ hs[i]? = some x ∧ hs2[i]? = some y) := ⟨hi, hx, hy⟩
        have HRA : Hid (wr.rangeAt g (off + i * 32) (U x) ∧ wr.rangeAt g2 (off2 + i * 32) (U y)) := ⟨rangeAt_same (hel i x hx) (HB.out.block g hg), rangeAt_same (hel2 i y hy) (HB.out.block g2 hg2)⟩
        have q1 : (i : Int) < (n : Int) := by omega
        have heq := eqH x y HXL.out.1 HXL.out.2
        clear hel hel2 hx hy hi
        cases hd : decide (x = y) with
        | true =>
          have HD : Hid (x = y) := by show x = y; simpa using hd
          rw [hd] at heq
          clear hd
          go_wp2
          refine hashes_region HXL.out.1 HXL.out.2 (by omega) heq HRA.out ?_
          go_wp2
          go_roundw
          case rel =>
            refine ⟨i + 1, by simp, ⟨HX.out.1, fun j hj => ?_⟩, HB.out.drew⟩
            by_cases hji : j = i
            · subst hji; rw [HX.out.2.1, HX.out.2.2, HD.out]
            · exact HI.out.2 j (by omega)
          case measure => have := HX.out; simp [intOf]; omega
        | false =>
          have HD : Hid (x ≠ y) := by show x ≠ y; simpa using hd
          rw [hd] at heq
          clear hd
          go_wp2
          refine hashes_region HXL.out.1 HXL.out.2 (by omega) heq HRA.out ?_
          go_wp2
          go_ret
          refine ⟨?_, HB.out.drew⟩
          have : ¬ hs = hs2 := by
            intro e
            have h1 := HX.out.2.1
            rw [e, HX.out.2.2] at h1
            exact HD.out (Option.some.inj h1).symm
          simp [this]
      · have q1 : ¬ (i : Int) < (n : Int) := by omega
        go_wp2
        go_ret
        refine ⟨?_, HB⟩
        have : hs = hs2 := by
          apply List.ext_getElem?
          intro j
          by_cases hj : j < i
          · exact HI.out.2 j hj
          · rw [List.getElem?_eq_none (by rw [HR.out.1.1]; omega), List.getElem?_eq_none (by rw [HR.out.2.1]; omega)]
        simp [this]
  · have q1 : ((n : Int) != (n2 : Int)) = true := by simp; omega
    have hl : ¬ hs = hs2 := fun e => hne (by rw [← hr.1, ← hr2.1, e])
    clear hr hr2
    go_enter Tryz.func16, Tryz.ntmps16
    go_wp2
    go_ret
    exact ⟨by simp [hl], Below.refl _ _⟩
end Go.Proofs.YtgdecjacbkicmaaGreatDoor.Oct
