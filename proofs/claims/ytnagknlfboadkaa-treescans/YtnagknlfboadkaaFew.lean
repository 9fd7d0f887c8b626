/-
  Layer 7 (tree): are calls few enough?
-/
import Derived.Test.YtnagknlfboadkaaActs
namespace Go.Proofs.Ytnagknlfboadkaa.Oct
open Go.RowKit

/-- what 'few' answers -/
def FewP (w : World) (len : Nat) (l : List ActV) (e : Ending) (w' : World) : Prop := ∃ b : Bool, e = .returned (.bool b) ∧ Hid (b = true → len ≤ 400 ∧ ∀ x ∈ l, x.key.size ≤ 100000) ∧ Hid (Below w.heap.size w w')

set_option maxRecDepth 100000 in
set_option maxHeartbeats 1000000 in
theorem few_is (w : World) (a : Option Addr) (len cap : Nat) (l : List ActV) (h : ArgA w a len cap l) :
    Calls Try.prog 8 #[.slice a len cap] w (FewP w len l) := by
  have HA : Hid (ArgA w a len cap l) := h
  clear h
  go_enter Try.func8, Try.ntmps8
  go_wp2
  go_loopw [8, 3] (fun u s wr => ∃ (i t : Nat), u = .int .i64 (i : Int) ∧ s = .int .i64 (t : Int) ∧ Hid (i ≤ len ∧ i ≤ t ∧ t ≤ 400 ∧ ∀ j x, j < i → l[j]? = some x → x.key.size ≤ 100000) ∧ Hid (Below w.heap.size w wr)) (fun u _ _ => len - (intOf u).toNat)
  case atStart => exact ⟨0, 0, rfl, rfl, ⟨Nat.zero_le _, Nat.le_refl _, by omega, fun j x hj => absurd hj (by omega)⟩, Below.refl _ _⟩
  case round =>
    obtain ⟨i, t, rfl, rfl, HI, HB⟩ := hrel
    by_cases hi : i < len
    · obtain ⟨x, hx⟩ : ∃ x, l[i]? = some x := ⟨_, List.getElem?_eq_getElem (by rw [HA.out.1]; exact hi)⟩
      obtain ⟨b, off, rfl, hbl, hat⟩ := HA.out.2.2.2 (by omega)
      obtain ⟨c0, c1, c2, c3, s1, s2⟩ := (hat i x hx)
      have d0 := (HB.out.cell (p := ⟨b, off + i * 4, none⟩) hbl).trans c0
      have d1 := (HB.out.cell (p := ⟨b, off + i * 4 + 1, none⟩) hbl).trans c1
      have d2 := (HB.out.cell (p := ⟨b, off + i * 4 + 2, none⟩) hbl).trans c2
      have d3 := (HB.out.cell (p := ⟨b, off + i * 4 + 3, none⟩) hbl).trans c3
      have HX : Hid (l[i]? = some x ∧ i < len) := ⟨hx, hi⟩
      have q1 : (i : Int) < (len : Int) := by omega
      have q2 : (t : Int) ≤ 400 := by have := HI.out; omega
      have q3 : (x.key.size : Int) ≤ 140737488355328 := by omega
      have q4 : (x.val.size : Int) ≤ 140737488355328 := by omega
      have q5 : (len : Int) ≤ 9223372036854775807 := by have h1 := HA.out.2.1; have h2 := HA.out.2.2.1; unfold maxLen at h2; omega
      clear c0 c1 c2 c3 hat hx hi hbl s1 s2
      obtain ⟨kind, key, val, nn⟩ := x
      dsimp only at d0 d1 d2 d3 q3 q4
      obtain ⟨kl, hkl⟩ : ∃ kl, key.size = kl := ⟨_, rfl⟩
      obtain ⟨vl, hvl⟩ : ∃ vl, val.size = vl := ⟨_, rfl⟩
      rw [hkl] at q3
      rw [hvl] at q4
      by_cases hs : t + (1 + (kl + vl) / 50) ≤ 400
      · have q6 : ¬ (t : Int) + (1 + ((kl : Int) + (vl : Int)) / 50) > 400 := by omega
        have q7 : ¬ 400 < (t : Int) + (1 + ((kl : Int) + (vl : Int)) / 50) := by omega
        have HS : Hid (t + (1 + (kl + vl) / 50) ≤ 400 ∧ key.size = kl) := ⟨hs, hkl⟩
        go_wp2
        go_roundw
        case rel =>
          refine ⟨i + 1, t + (1 + (kl + vl) / 50), by simp, by simp, ⟨HX.out.2, by have := HI.out; omega, HS.out.1, fun j x hj hx => ?_⟩, HB.out.alloc HB.out.size _⟩
          by_cases hji : j = i
          · subst hji
            rw [HX.out.1] at hx
            cases hx
            show key.size ≤ _
            have := HS.out; omega
          · exact HI.out.2.2.2 j x (by omega) hx
        case measure => have := HX.out; simp [intOf]; omega
      · have q6 : 400 < (t : Int) + (1 + ((kl : Int) + (vl : Int)) / 50) := by omega
        go_wp2
        go_ret
        exact ⟨false, rfl, (fun h => by cases h), HB.out.alloc HB.out.size _⟩
    · have q1 : ¬ (i : Int) < (len : Int) := by omega
      go_wp2
      go_ret
      refine ⟨true, rfl, (fun _ => ⟨by have := HI.out; omega, fun x hx => ?_⟩), HB⟩
      obtain ⟨j, hj, rfl⟩ := List.mem_iff_getElem.1 hx
      exact HI.out.2.2.2 j _ (by rw [HA.out.1] at hj; omega) (List.getElem?_eq_getElem hj)
#print axioms few_is
end Go.Proofs.Ytnagknlfboadkaa.Oct
