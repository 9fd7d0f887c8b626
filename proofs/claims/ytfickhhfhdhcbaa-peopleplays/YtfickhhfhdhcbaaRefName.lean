/-
  Layer 15 (people): the reference's 'Name' and 'part'.
-/
import Derived.Test.YtfickhhfhdhcbaaRefWord
namespace Go.Proofs.Ytfickhhfhdhcbaa.Oct
open Go.RowKit

set_option maxRecDepth 100000 in
set_option maxHeartbeats 2000000 in
theorem refName_is (s : ByteArray) (w : World) (hn : s.size ≤ 140737488355328) : Calls Try.prog 60 #[.string s] w fun e w' => e = .returned (.bool (isName s.data.toList)) ∧ w = w' := by
  obtain ⟨l, hl⟩ : ∃ l, s.data.toList = l := ⟨_, rfl⟩
  obtain ⟨n, hsn⟩ : ∃ n, s.size = n := ⟨_, rfl⟩
  have HL : Hid (s.data.toList = l) := hl
  have HLL : Hid (l.length = n) := by show _ = _; rw [← hl, ← hsn]; rfl
  rw [hl]
  rw [hsn] at hn
  by_cases h1 : n = 0
  · have hw : isName l = false := by have := HLL.out; simp [isName, word]; omega
    rw [hw]
    have q1 : (n : Int) < 1 := by omega
    clear hl h1 hw
    go_enter Try.func60, Try.ntmps60
    go_wp2_with fail
    go_ret
    exact ⟨rfl, rfl⟩
  · by_cases h2 : 16 < n
    · have hw : isName l = false := by have := HLL.out; simp [isName, word]; omega
      rw [hw]
      have q1 : ¬ (n : Int) < 1 := by omega
      have q2 : (16 : Int) < n := by omega
      clear hl h1 hw
      go_enter Try.func60, Try.ntmps60
      go_wp2_with fail
      go_ret
      exact ⟨rfl, rfl⟩
    · have q1 : ¬ (n : Int) < 1 := by omega
      have q2 : ¬ (16 : Int) < n := by omega
      have q3 : (n : Int) ≤ 16 := by omega
      have q0 : (0 : Int) < (n : Int) := by omega
      have HN : Hid (n ≤ 16) := by show n ≤ 16; omega
      obtain ⟨c0, r0, hcr⟩ : ∃ c0 r0, l = c0 :: r0 := by
        cases l with
        | nil => have := HLL.out; simp at this; omega
        | cons c r => exact ⟨c, r, rfl⟩
      have hg0 : ∀ h, s[0]'h = c0 := by
        intro h
        have e : s.data.toList[0]'(by simpa using h) = c0 := by simp only [hl, hcr]; rfl
        exact e
      have hw2 : word 2 l = l.all (has 2) := by
        have := HLL.out
        unfold word
        rw [decide_eq_true (by omega : 1 ≤ l.length), decide_eq_true (by omega : l.length ≤ 16)]; rfl
      cases hc0 : letter c0 with
      | false =>
        have hw : isName l = false := by unfold isName; rw [hcr]; simp [hc0]
        have HA0 : Hid (letter c0 = false) := hc0
        rw [hw]
        clear hl h1 h2 hw hw2 hcr hc0 hn
        go_enter Try.func60, Try.ntmps60
        go_wp2_with (go_at_call 72; refine (small_b c0 false HA0.out _).mono ?_; rintro e w2 ⟨rfl, rfl⟩)
        go_ret
        exact ⟨rfl, rfl⟩
      | true =>
        have hw : isName l = l.all (has 2) := by unfold isName; rw [hw2, hcr]; simp [hc0]
        have HW : Hid (isName l = l.all (has 2)) := hw
        have HA0 : Hid (letter c0 = true) := hc0
        clear hl h1 h2 hw hw2 hcr hc0 hn
        go_enter Try.func60, Try.ntmps60
        go_wp2_with (go_at_call 72; refine (small_b c0 true HA0.out _).mono ?_; rintro e w2 ⟨rfl, rfl⟩)
        go_loopw [3] (fun i wr => ∃ t : Nat, i = .int .i64 (t : Int) ∧ t ≤ n ∧ Hid ((l.take t).all (has 2) = true) ∧ Hid (w = wr)) (fun i _ => n - (intOf i).toNat)
        case atStart => exact ⟨0, rfl, by omega, rfl, rfl⟩
        case round =>
          obtain ⟨t, rfl, ht, ha, hww⟩ := hrel
          by_cases hlt : t = n
          · subst hlt
            have HU : Hid (isName l = true) := by
              show _ = _
              have e := ha.out
              rw [List.take_of_length_le (by rw [HLL.out]; exact Nat.le_refl _)] at e
              rw [HW.out, e]
            go_wp2_with fail
            go_ret
            exact ⟨by rw [HU.out]; rfl, hww.out⟩
          · have q4 : (t : Int) < (n : Int) := by omega
            have HT : Hid (t < n) := by show t < n; omega
            have htl : t < l.length := by rw [HLL.out]; omega
            obtain ⟨c, hc⟩ : ∃ c, c = l[t] := ⟨_, rfl⟩
            have HNX : Hid ((l.take (t + 1)).all (has 2) = has 2 c) := by
              show _ = _
              rw [all_take_succ _ _ _ htl, ha.out, hc]; rfl
            have hg1 : ∀ h, s[t]'h = c := by
              intro h
              subst hc
              have e := HL.out
              subst e
              rfl
            have b1 : (t : Int) ≤ 16 := by have := HN.out; omega
            clear hlt hc htl
            have HBAD : Hid (has 2 c = false → isName l = false) := by
              intro h
              show _ = _
              rw [HW.out]
              refine all_of_take _ _ (t + 1) ?_
              rw [HNX.out, h]
            cases hA : letter c with
            | true =>
              have HA : Hid (letter c = true) := hA
              have HGOOD : Hid (has 2 c = true) := by show _ = _; simp [has, inName_is, hA]
              clear hA
              go_wp2_with (go_at_call 72; refine (small_b c true HA.out _).mono ?_; rintro e w2 ⟨rfl, rfl⟩)
              go_roundw
              case rel => exact ⟨t + 1, by simp, by have := HT.out; omega, by show _ = _; rw [HNX.out, HGOOD.out], hww⟩
              case measure => have := HT.out; simp [intOf]; omega
            | false =>
              have HA : Hid (letter c = false) := hA
              cases hD : dig c with
              | true =>
                have HD : Hid (dig c = true) := hD
                have HGOOD : Hid (has 2 c = true) := by show _ = _; simp [has, inName_is, hD]
                clear hA hD
                go_wp2_with (first
                  | (go_at_call 72; refine (small_b c false HA.out _).mono ?_; rintro e w2 ⟨rfl, rfl⟩)
                  | (go_at_call 73; refine (digit_b c true HD.out _).mono ?_; rintro e w2 ⟨rfl, rfl⟩))
                go_roundw
                case rel => exact ⟨t + 1, by simp, by have := HT.out; omega, by show _ = _; rw [HNX.out, HGOOD.out], hww⟩
                case measure => have := HT.out; simp [intOf]; omega
              | false =>
                have HD : Hid (dig c = false) := hD
                by_cases h45 : c.toNat = 45
                · have HGOOD : Hid (has 2 c = true) := by show _ = _; simp [has, inName_is, h45]
                  have e45 : ((c.toNat : Int) == 45) = true := by simp; omega
                  have g45 : ((c.toNat : Int) != 45) = false := by simp; omega
                  clear hA hD h45
                  go_wp2_with (first
                    | (go_at_call 72; refine (small_b c false HA.out _).mono ?_; rintro e w2 ⟨rfl, rfl⟩)
                    | (go_at_call 73; refine (digit_b c false HD.out _).mono ?_; rintro e w2 ⟨rfl, rfl⟩))
                  all_goals first | (exfalso; have f := eq_of_beq e45; omega) | skip
                  go_roundw
                  case rel => exact ⟨t + 1, by simp, by have := HT.out; omega, by show _ = _; rw [HNX.out, HGOOD.out], hww⟩
                  case measure => have := HT.out; simp [intOf]; omega
                · have e45 : ((c.toNat : Int) == 45) = false := by simp; omega
                  have g45 : ((c.toNat : Int) != 45) = true := by simp; omega
                  have HX : Hid (has 2 c = false) := by show _ = _; simp [has, inName_is, hA, hD, h45]
                  clear hA hD h45
                  go_wp2_with (first
                    | (go_at_call 72; refine (small_b c false HA.out _).mono ?_; rintro e w2 ⟨rfl, rfl⟩)
                    | (go_at_call 73; refine (digit_b c false HD.out _).mono ?_; rintro e w2 ⟨rfl, rfl⟩))
                  go_ret
                  exact ⟨by rw [HBAD.out HX.out]; rfl, hww.out⟩
#print axioms refName_is

end Go.Proofs.Ytfickhhfhdhcbaa.Oct
