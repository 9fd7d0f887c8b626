/-
  Layer 10 (patch): the reference's 'Name' and 'part'.
-/
import Derived.Test.YtgdecjacbkicmaaDoorRefWord
namespace Go.Proofs.YtgdecjacbkicmaaDoor.Oct
open Go.RowKit
set_option maxRecDepth 100000

set_option maxRecDepth 100000 in
set_option maxHeartbeats 2000000 in
theorem refName_is (s : ByteArray) (w : World) (hn : s.size ≤ 140737488355328) : Calls Tryd.prog 24 #[.string s] w fun e w' => e = .returned (.bool (isName s.data.toList)) ∧ w = w' := by
  obtain ⟨l, hl⟩ : ∃ l, s.data.toList = l := ⟨_, rfl⟩
  obtain ⟨n, hsn⟩ : ∃ n, s.size = n := ⟨_, rfl⟩
  have HL : Hid (s.data.toList = l) := hl
  have HLL : Hid (l.length = n) := by show _ = _; rw [← hl, ← hsn]; rfl
  rw [hl]
  rw [hsn] at hn
  by_cases h1 : n = 0
  · have hw : isName l = false := by have := HLL.out; simp [isName, word]; omega
    rw [hw]
    have q1 : (n : Int) < 1 := by omega
    clear hl h1 hw
    go_enter Tryd.func24, Tryd.ntmps24
    go_wp2_with fail
    go_ret
    exact ⟨rfl, rfl⟩
  · by_cases h2 : 16 < n
    · have hw : isName l = false := by have := HLL.out; simp [isName, word]; omega
      rw [hw]
      have q1 : ¬ (n : Int) < 1 := by omega
      have q2 : (16 : Int) < n := by omega
      clear hl h1 hw
      go_enter Tryd.func24, Tryd.ntmps24
      go_wp2_with fail
      go_ret
      exact ⟨rfl, rfl⟩
    · have q1 : ¬ (n : Int) < 1 := by omega
      have q2 : ¬ (16 : Int) < n := by omega
      have q3 : (n : Int) ≤ 16 := by omega
      have q0 : (0 : Int) < (n : Int) := by omega
      have HN : Hid (n ≤ 16) := by show n ≤ 16; omega
      obtain ⟨c0, r0, hcr⟩ : ∃ c0 r0, l = c0 :: r0 := by
        cases l with
        | nil => have := HLL.out; simp at this; omega
        | cons c r => exact ⟨c, r, rfl⟩
      have hg0 : ∀ h, s[0]'h = c0 := by
        intro h
        have e : s.data.toList[0]'(by simpa using h) = c0 := by simp only [hl, hcr]; rfl
        exact e
      have hw2 : word 2 l = l.all (has 2) := by
        have := HLL.out
        unfold word
        rw [decide_eq_true (by omega : 1 ≤ l.length), decide_eq_true (by omega : l.length ≤ 16)]; rfl
      cases hc0 : letter c0 with
      | false =>
        have hw : isName l = false := by unfold isName; rw [hcr]; simp [hc0]
        have HA0 : Hid (letter c0 = false) := hc0
        rw [hw]
        clear hl h1 h2 hw hw2 hcr hc0 hn
        go_enter Tryd.func24, Tryd.ntmps24
        go_wp2_with (go_at_call 44; refine (small_b c0 false HA0.out _).mono ?_; rintro e w2 ⟨rfl, rfl⟩)
        go_ret
        exact ⟨rfl, rfl⟩
      | true =>
        have hw : isName l = l.all (has 2) := by unfold isName; rw [hw2, hcr]; simp [hc0]
        have HW : Hid (isName l = l.all (has 2)) := hw
        have HA0 : Hid (letter c0 = true) := hc0
        clear hl h1 h2 hw hw2 hcr hc0 hn
        go_enter Tryd.func24, Tryd.ntmps24
        go_wp2_with (go_at_call 44; refine (small_b c0 true HA0.out _).mono ?_; rintro e w2 ⟨rfl, rfl⟩)
        go_loopw [3] (fun i wr => ∃ t : Nat, i = .int .i64 (t : Int) ∧ t ≤ n ∧ Hid ((l.take t).all (has 2) = true) ∧ Hid (w = wr)) (fun i _ => n - (intOf i).toNat)
        case atStart => exact ⟨0, rfl, by omega, rfl, rfl⟩
        case round =>
          obtain ⟨t, rfl, ht, ha, hww⟩ := hrel
          by_cases hlt : t = n
          · subst hlt
            have HU : Hid (isName l = true) := by
              show _ = _
              have e := ha.out
              rw [List.take_of_length_le (by rw [HLL.out]; exact Nat.le_refl _)] at e
              rw [HW.out, e]
            go_wp2_with fail
            go_ret
            exact ⟨by rw [HU.out]; rfl, hww.out⟩
          · have q4 : (t : Int) < (n : Int) := by omega
            have HT : Hid (t < n) := by show t < n; omega
            have htl : t < l.length := by rw [HLL.out]; omega
            obtain ⟨c, hc⟩ : ∃ c, c = l[t] := ⟨_, rfl⟩
            have HNX : Hid ((l.take (t + 1)).all (has 2) = has 2 c) := by
              show _ = _
              rw [all_take_succ _ _ _ htl, ha.out, hc]; rfl
            have hg1 : ∀ h, s[t]'h = c := by
              intro h
              subst hc
              have e := HL.out
              subst e
              rfl
            have b1 : (t : Int) ≤ 16 := by have := HN.out; omega
            clear hlt hc htl
            have HBAD : Hid (has 2 c = false → isName l = false) := by
              intro h
              show _ = _
              rw [HW.out]
              refine all_of_take _ _ (t + 1) ?_
              rw [HNX.out, h]
            cases hA : letter c with
            | true =>
              have HA : Hid (letter c = true) := hA
              have HGOOD : Hid (has 2 c = true) := by show _ = _; simp [has, inName_is, hA]
              clear hA
              go_wp2_with (go_at_call 44; refine (small_b c true HA.out _).mono ?_; rintro e w2 ⟨rfl, rfl⟩)
              go_roundw
              case rel => exact ⟨t + 1, by simp, by have := HT.out; omega, by show _ = _; rw [HNX.out, HGOOD.out], hww⟩
              case measure => have := HT.out; simp [intOf]; omega
            | false =>
              have HA : Hid (letter c = false) := hA
              cases hD : dig c with
              | true =>
                have HD : Hid (dig c = true) := hD
                have HGOOD : Hid (has 2 c = true) := by show _ = _; simp [has, inName_is, hD]
                clear hA hD
                go_wp2_with (first
                  | (go_at_call 44; refine (small_b c false HA.out _).mono ?_; rintro e w2 ⟨rfl, rfl⟩)
                  | (go_at_call 45; refine (digit_b c true HD.out _).mono ?_; rintro e w2 ⟨rfl, rfl⟩))
                go_roundw
                case rel => exact ⟨t + 1, by simp, by have := HT.out; omega, by show _ = _; rw [HNX.out, HGOOD.out], hww⟩
                case measure => have := HT.out; simp [intOf]; omega
              | false =>
                have HD : Hid (dig c = false) := hD
                by_cases h45 : c.toNat = 45
                · have HGOOD : Hid (has 2 c = true) := by show _ = _; simp [has, inName_is, h45]
                  have e45 : ((c.toNat : Int) == 45) = true := by simp; omega
                  have g45 : ((c.toNat : Int) != 45) = false := by simp; omega
                  clear hA hD h45
                  go_wp2_with (first
                    | (go_at_call 44; refine (small_b c false HA.out _).mono ?_; rintro e w2 ⟨rfl, rfl⟩)
                    | (go_at_call 45; refine (digit_b c false HD.out _).mono ?_; rintro e w2 ⟨rfl, rfl⟩))
                  all_goals first | (exfalso; have f := eq_of_beq e45; omega) | skip
                  go_roundw
                  case rel => exact ⟨t + 1, by simp, by have := HT.out; omega, by show _ = _; rw [HNX.out, HGOOD.out], hww⟩
                  case measure => have := HT.out; simp [intOf]; omega
                · have e45 : ((c.toNat : Int) == 45) = false := by simp; omega
                  have g45 : ((c.toNat : Int) != 45) = true := by simp; omega
                  have HX : Hid (has 2 c = false) := by show _ = _; simp [has, inName_is, hA, hD, h45]
                  clear hA hD h45
                  go_wp2_with (first
                    | (go_at_call 44; refine (small_b c false HA.out _).mono ?_; rintro e w2 ⟨rfl, rfl⟩)
                    | (go_at_call 45; refine (digit_b c false HD.out _).mono ?_; rintro e w2 ⟨rfl, rfl⟩))
                  go_ret
                  exact ⟨by rw [HBAD.out HX.out]; rfl, hww.out⟩

set_option maxRecDepth 100000 in
set_option maxHeartbeats 4000000 in
theorem refPart_is (s : ByteArray) (w : World) (hn : s.size ≤ 140737488355328) : Calls Tryd.prog 72 #[.string s] w fun e w' => e = .returned (.bool (isPart s.data.toList)) ∧ w = w' := by
  obtain ⟨l, hl⟩ : ∃ l, s.data.toList = l := ⟨_, rfl⟩
  obtain ⟨n, hsn⟩ : ∃ n, s.size = n := ⟨_, rfl⟩
  have HL : Hid (s.data.toList = l) := hl
  have HLL : Hid (l.length = n) := by show _ = _; rw [← hl, ← hsn]; rfl
  rw [hl]
  rw [hsn] at hn
  by_cases h1 : n = 0
  · have hw : isPart l = false := by have := HLL.out; simp [isPart, word]; omega
    rw [hw]
    have q1 : (n : Int) < 1 := by omega
    clear hl h1 hw
    go_enter Tryd.func72, Tryd.ntmps72
    go_wp2_with fail
    go_ret
    exact ⟨rfl, rfl⟩
  · by_cases h2 : 16 < n
    · have hw : isPart l = false := by have := HLL.out; simp [isPart, word]; omega
      rw [hw]
      have q1 : ¬ (n : Int) < 1 := by omega
      have q2 : (16 : Int) < n := by omega
      clear hl h1 hw
      go_enter Tryd.func72, Tryd.ntmps72
      go_wp2_with fail
      go_ret
      exact ⟨rfl, rfl⟩
    · have q1 : ¬ (n : Int) < 1 := by omega
      have q2 : ¬ (16 : Int) < n := by omega
      have q3 : (n : Int) ≤ 16 := by omega
      have HN : Hid (n ≤ 16) := by show n ≤ 16; omega
      have hw2 : word 1 l = l.all (has 1) := by
        have := HLL.out
        unfold word
        rw [decide_eq_true (by omega : 1 ≤ l.length), decide_eq_true (by omega : l.length ≤ 16)]; rfl
      by_cases hd1 : l = [46]
      · have hw : isPart l = false := by simp [isPart, hd1]
        have e1 : (s.toList == [46]) = true := by rw [toList_is, hl]; simpa using hd1
        rw [hw]
        clear hl h1 h2 hw hw2 hd1 hn
        go_enter Tryd.func72, Tryd.ntmps72
        go_wp2_with fail
        go_ret
        exact ⟨rfl, rfl⟩
      · by_cases hd2 : l = [46, 46]
        · have hw : isPart l = false := by simp [isPart, hd2]
          have e1 : (s.toList == [46]) = false := by rw [toList_is, hl]; simpa using hd1
          have e2 : (s.toList == [46, 46]) = true := by rw [toList_is, hl]; simpa using hd2
          rw [hw]
          clear hl h1 h2 hw hw2 hd1 hd2 hn
          go_enter Tryd.func72, Tryd.ntmps72
          go_wp2_with fail
          go_ret
          exact ⟨rfl, rfl⟩
        · have hw : isPart l = l.all (has 1) := by
            have x1 : (l != [46]) = true := by simpa using hd1
            have x2 : (l != [46, 46]) = true := by simpa using hd2
            unfold isPart; rw [hw2, x1, x2]; simp
          have HW : Hid (isPart l = l.all (has 1)) := hw
          have e1 : (s.toList == [46]) = false := by rw [toList_is, hl]; simpa using hd1
          have e2 : (s.toList == [46, 46]) = false := by rw [toList_is, hl]; simpa using hd2
          clear hl h1 h2 hw hw2 hd1 hd2 hn
          go_enter Tryd.func72, Tryd.ntmps72
          go_wp2_with fail
          go_loopw [3] (fun i wr => ∃ t : Nat, i = .int .i64 (t : Int) ∧ t ≤ n ∧ Hid ((l.take t).all (has 1) = true) ∧ Hid (w = wr)) (fun i _ => n - (intOf i).toNat)
          case atStart => exact ⟨0, rfl, by omega, rfl, rfl⟩
          case round =>
            obtain ⟨t, rfl, ht, ha, hww⟩ := hrel
            by_cases hlt : t = n
            · subst hlt
              have HU : Hid (isPart l = true) := by
                show _ = _
                have e := ha.out
                rw [List.take_of_length_le (by rw [HLL.out]; exact Nat.le_refl _)] at e
                rw [HW.out, e]
              go_wp2_with fail
              go_ret
              exact ⟨by rw [HU.out]; rfl, hww.out⟩
            · have q4 : (t : Int) < (n : Int) := by omega
              have HT : Hid (t < n) := by show t < n; omega
              have htl : t < l.length := by rw [HLL.out]; omega
              obtain ⟨c, hc⟩ : ∃ c, c = l[t] := ⟨_, rfl⟩
              have HNX : Hid ((l.take (t + 1)).all (has 1) = has 1 c) := by
                show _ = _
                rw [all_take_succ _ _ _ htl, ha.out, hc]; rfl
              have hg1 : ∀ h, s[t]'h = c := by
                intro h
                subst hc
                have e := HL.out
                subst e
                rfl
              have b1 : (t : Int) ≤ 16 := by have := HN.out; omega
              clear hlt hc htl
              have HBAD : Hid (has 1 c = false → isPart l = false) := by
                intro h
                show _ = _
                rw [HW.out]
                refine all_of_take _ _ (t + 1) ?_
                rw [HNX.out, h]
              cases hA : letter c with
              | true =>
                have HA : Hid (letter c = true) := hA
                have HGOOD : Hid (has 1 c = true) := by show _ = _; simp [has, inPart_is, inName_is, hA]
                clear hA
                go_wp2_with (go_at_call 44; refine (small_b c true HA.out _).mono ?_; rintro e w2 ⟨rfl, rfl⟩)
                go_roundw
                case rel => exact ⟨t + 1, by simp, by have := HT.out; omega, by show _ = _; rw [HNX.out, HGOOD.out], hww⟩
                case measure => have := HT.out; simp [intOf]; omega
              | false =>
                have HA : Hid (letter c = false) := hA
                cases hD : dig c with
                | true =>
                  have HD : Hid (dig c = true) := hD
                  have HGOOD : Hid (has 1 c = true) := by show _ = _; simp [has, inPart_is, inName_is, hD]
                  clear hA hD
                  go_wp2_with (first
                    | (go_at_call 44; refine (small_b c false HA.out _).mono ?_; rintro e w2 ⟨rfl, rfl⟩)
                    | (go_at_call 45; refine (digit_b c true HD.out _).mono ?_; rintro e w2 ⟨rfl, rfl⟩))
                  go_roundw
                  case rel => exact ⟨t + 1, by simp, by have := HT.out; omega, by show _ = _; rw [HNX.out, HGOOD.out], hww⟩
                  case measure => have := HT.out; simp [intOf]; omega
                | false =>
                  have HD : Hid (dig c = false) := hD
                  by_cases h45 : c.toNat = 45
                  · have HGOOD : Hid (has 1 c = true) := by show _ = _; simp [has, inPart_is, inName_is, h45]
                    have e45 : ((c.toNat : Int) == 45) = true := by simp; omega
                    have g45 : ((c.toNat : Int) != 45) = false := by simp; omega
                    clear hA hD h45
                    go_wp2_with (first
                      | (go_at_call 44; refine (small_b c false HA.out _).mono ?_; rintro e w2 ⟨rfl, rfl⟩)
                      | (go_at_call 45; refine (digit_b c false HD.out _).mono ?_; rintro e w2 ⟨rfl, rfl⟩))
                    all_goals first | (exfalso; have f := eq_of_beq e45; omega) | skip
                    go_roundw
                    case rel => exact ⟨t + 1, by simp, by have := HT.out; omega, by show _ = _; rw [HNX.out, HGOOD.out], hww⟩
                    case measure => have := HT.out; simp [intOf]; omega
                  · have e45 : ((c.toNat : Int) == 45) = false := by simp; omega
                    have g45 : ((c.toNat : Int) != 45) = true := by simp; omega
                    by_cases h46 : c.toNat = 46
                    · have HGOOD : Hid (has 1 c = true) := by show _ = _; simp [has, inPart_is, inName_is, h46]
                      have e46 : ((c.toNat : Int) == 46) = true := by simp; omega
                      have g46 : ((c.toNat : Int) != 46) = false := by simp; omega
                      clear hA hD h45 h46
                      go_wp2_with (first
                        | (go_at_call 44; refine (small_b c false HA.out _).mono ?_; rintro e w2 ⟨rfl, rfl⟩)
                        | (go_at_call 45; refine (digit_b c false HD.out _).mono ?_; rintro e w2 ⟨rfl, rfl⟩))
                      all_goals first | (exfalso; have f := eq_of_beq e46; omega) | skip
                      go_roundw
                      case rel => exact ⟨t + 1, by simp, by have := HT.out; omega, by show _ = _; rw [HNX.out, HGOOD.out], hww⟩
                      case measure => have := HT.out; simp [intOf]; omega
                    · have e46 : ((c.toNat : Int) == 46) = false := by simp; omega
                      have g46 : ((c.toNat : Int) != 46) = true := by simp; omega
                      by_cases h95 : c.toNat = 95
                      · have HGOOD : Hid (has 1 c = true) := by show _ = _; simp [has, inPart_is, inName_is, h95]
                        have e95 : ((c.toNat : Int) == 95) = true := by simp; omega
                        have g95 : ((c.toNat : Int) != 95) = false := by simp; omega
                        clear hA hD h45 h46 h95
                        go_wp2_with (first
                          | (go_at_call 44; refine (small_b c false HA.out _).mono ?_; rintro e w2 ⟨rfl, rfl⟩)
                          | (go_at_call 45; refine (digit_b c false HD.out _).mono ?_; rintro e w2 ⟨rfl, rfl⟩))
                        all_goals first | (exfalso; have f := eq_of_beq e95; omega) | skip
                        go_roundw
                        case rel => exact ⟨t + 1, by simp, by have := HT.out; omega, by show _ = _; rw [HNX.out, HGOOD.out], hww⟩
                        case measure => have := HT.out; simp [intOf]; omega
                      · have e95 : ((c.toNat : Int) == 95) = false := by simp; omega
                        have g95 : ((c.toNat : Int) != 95) = true := by simp; omega
                        have HX : Hid (has 1 c = false) := by show _ = _; simp [has, inPart_is, inName_is, hA, hD, h45, h46, h95]
                        clear hA hD h45 h46 h95
                        go_wp2_with (first
                          | (go_at_call 44; refine (small_b c false HA.out _).mono ?_; rintro e w2 ⟨rfl, rfl⟩)
                          | (go_at_call 45; refine (digit_b c false HD.out _).mono ?_; rintro e w2 ⟨rfl, rfl⟩))
                        go_ret
                        exact ⟨by rw [HBAD.out HX.out]; rfl, hww.out⟩
theorem refName_b (s : ByteArray) (b : Bool) (hb : isName s.data.toList = b) (w : World) (hn : s.size ≤ 140737488355328) : Calls Tryd.prog 24 #[.string s] w fun e w' => e = .returned (.bool b) ∧ w = w' := by
  subst hb; exact refName_is s w hn
theorem refPart_b (s : ByteArray) (b : Bool) (hb : isPart s.data.toList = b) (w : World) (hn : s.size ≤ 140737488355328) : Calls Tryd.prog 72 #[.string s] w fun e w' => e = .returned (.bool b) ∧ w = w' := by
  subst hb; exact refPart_is s w hn
end Go.Proofs.YtgdecjacbkicmaaDoor.Oct
