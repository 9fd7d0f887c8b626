/-
  Layer 10 (patch): 'usesOf', 'isWord', 'Name', 'isPart'.
-/
import Derived.Test.YtgdecjacbkicmaaDoorRows
import Derived.Test.YtgdecjacbkicmaaDoorPure
import Derived.WalkKit
import Derived.Lib.Strings
namespace Go.Proofs.YtgdecjacbkicmaaDoor.Oct
open Go.RowKit
set_option maxRecDepth 100000

theorem usesOf_is (c : UInt8) (w : World) : Calls Tryd.prog 58 #[.int .u8 (c.toNat : Int)] w fun e w' => e = .returned (.int .i64 (uses c : Int)) ∧ w = w' := by
  have hc := c.toNat_lt
  unfold uses
  generalize c.toNat = X at *
  by_cases h1 : 97 ≤ X ∧ X ≤ 122
  · have q1 : (97 : Int) ≤ (X : Int) := by omega
    have q2 : (X : Int) ≤ 122 := by omega
    rw [if_pos h1]
    clear h1
    go_enter Tryd.func58, Tryd.ntmps58
    go_wp2
    go_ret
    exact ⟨rfl, rfl⟩
  · rw [if_neg h1]
    by_cases h2 : 48 ≤ X ∧ X ≤ 57
    · rw [if_pos (.inl h2)]
      have q1 : ¬ (97 : Int) ≤ (X : Int) := by omega
      have q2 : (48 : Int) ≤ (X : Int) := by omega
      have q3 : (X : Int) ≤ 57 := by omega
      clear h1 h2
      go_enter Tryd.func58, Tryd.ntmps58
      go_wp2
      go_ret
      exact ⟨rfl, rfl⟩
    · by_cases h3 : X = 45
      · subst h3
        rw [if_pos (.inr rfl)]
        go_enter Tryd.func58, Tryd.ntmps58
        go_wp2
        go_ret
        exact ⟨rfl, rfl⟩
      · rw [if_neg (by omega)]
        by_cases h4 : X = 46
        · subst h4
          rw [if_pos (.inl rfl)]
          go_enter Tryd.func58, Tryd.ntmps58
          go_wp2
          go_ret
          exact ⟨rfl, rfl⟩
        · by_cases h5 : X = 95
          · subst h5
            rw [if_pos (.inr rfl)]
            go_enter Tryd.func58, Tryd.ntmps58
            go_wp2
            go_ret
            exact ⟨rfl, rfl⟩
          · rw [if_neg (by omega)]
            have p1 : decide ((97 : Int) ≤ (X : Int) ∧ (X : Int) ≤ 122) = false := by simp; omega
            have n1 : ((X : Int) == 45) = false := by simp; omega
            have n2 : ((X : Int) == 46) = false := by simp; omega
            have n3 : ((X : Int) == 95) = false := by simp; omega
            by_cases h6 : 97 ≤ X
            · have q1 : (97 : Int) ≤ (X : Int) := by omega
              have q2 : ¬ (X : Int) ≤ 122 := by omega
              have q3 : (48 : Int) ≤ (X : Int) := by omega
              have q4 : ¬ (X : Int) ≤ 57 := by omega
              clear h1 h2 h3 h4 h5 h6 p1
              go_enter Tryd.func58, Tryd.ntmps58
              go_wp2
              go_ret
              exact ⟨rfl, rfl⟩
            · have q1 : ¬ (97 : Int) ≤ (X : Int) := by omega
              by_cases h7 : 48 ≤ X
              · have q3 : (48 : Int) ≤ (X : Int) := by omega
                have q4 : ¬ (X : Int) ≤ 57 := by omega
                clear h1 h2 h3 h4 h5 h6 h7 p1
                go_enter Tryd.func58, Tryd.ntmps58
                go_wp2
                go_ret
                exact ⟨rfl, rfl⟩
              · have q3 : ¬ (48 : Int) ≤ (X : Int) := by omega
                clear h1 h2 h3 h4 h5 h6 h7 p1
                go_enter Tryd.func58, Tryd.ntmps58
                go_wp2
                go_ret
                exact ⟨rfl, rfl⟩

theorem usesOf_u (c : UInt8) (u : Nat) (h : uses c = u) (w : World) : Calls Tryd.prog 58 #[.int .u8 (c.toNat : Int)] w fun e w' => e = .returned (.int .i64 (u : Int)) ∧ w = w' := by
  subst h; exact usesOf_is c w

theorem all_take_succ {α : Type} (p : α → Bool) (l : List α) (t : Nat) (h : t < l.length) : (l.take (t + 1)).all p = ((l.take t).all p && p l[t]) := by
  rw [List.take_succ_eq_append_getElem h, List.all_append]; simp
theorem all_of_take {α : Type} (p : α → Bool) (l : List α) (t : Nat) (h : (l.take t).all p = false) : l.all p = false := by
  rw [← List.take_append_drop t l, List.all_append, h]; rfl

set_option maxRecDepth 100000 in
theorem isWord_is (s : ByteArray) (k : Nat) (hk : k = 1 ∨ k = 2) (w : World) (hn : s.size ≤ 140737488355328) : Calls Tryd.prog 57 #[.string s, .int .i64 (k : Int)] w fun e w' => e = .returned (.bool (word k s.data.toList)) ∧ w = w' := by
  obtain ⟨l, hl⟩ : ∃ l, s.data.toList = l := ⟨_, rfl⟩
  obtain ⟨n, hsn⟩ : ∃ n, s.size = n := ⟨_, rfl⟩
  have HL : Hid (s.data.toList = l) := hl
  have HLL : Hid (l.length = n) := by show _ = _; rw [← hl, ← hsn]; rfl
  rw [hl]
  rw [hsn] at hn
  by_cases h1 : n = 0
  · have hw : word k l = false := by have := HLL.out; simp [word]; omega
    rw [hw]
    have q1 : (n : Int) < 1 := by omega
    clear hl h1 hw
    go_enter Tryd.func57, Tryd.ntmps57
    go_wp2
    go_ret
    exact ⟨rfl, rfl⟩
  · by_cases h2 : 16 < n
    · have hw : word k l = false := by have := HLL.out; simp [word]; omega
      rw [hw]
      have q1 : ¬ (n : Int) < 1 := by omega
      have q2 : (16 : Int) < n := by omega
      clear hl h1 hw
      go_enter Tryd.func57, Tryd.ntmps57
      go_wp2
      go_ret
      exact ⟨rfl, rfl⟩
    · have hw : word k l = l.all (has k) := by
        have := HLL.out
        unfold word
        rw [decide_eq_true (by omega : 1 ≤ l.length), decide_eq_true (by omega : l.length ≤ 16)]; rfl
      have HW : Hid (word k l = l.all (has k)) := hw
      have q1 : ¬ (n : Int) < 1 := by omega
      have q2 : ¬ (16 : Int) < n := by omega
      have q3 : (n : Int) ≤ 16 := by omega
      have HN : Hid (n ≤ 16) := by show n ≤ 16; omega
      clear hl h1 h2 hw hn
      go_enter Tryd.func57, Tryd.ntmps57
      go_wp2
      go_loopw [16] (fun i wr => ∃ t : Nat, i = .int .i64 (t : Int) ∧ t ≤ n ∧ Hid ((l.take t).all (has k) = true) ∧ Hid (w = wr)) (fun i _ => n - (intOf i).toNat)
      case atStart => exact ⟨0, rfl, by omega, rfl, rfl⟩
      case round =>
        obtain ⟨t, rfl, ht, ha, hww⟩ := hrel
        by_cases hlt : t = n
        · subst hlt
          have HU : Hid (word k l = true) := by
            show _ = _
            have e := ha.out
            rw [List.take_of_length_le (by rw [HLL.out]; exact Nat.le_refl _)] at e
            rw [HW.out, e]
          go_wp2
          go_ret
          exact ⟨by rw [HU.out]; rfl, hww.out⟩
        · have q4 : (t : Int) < (n : Int) := by omega
          have HT : Hid (t < n) := by show t < n; omega
          have htl : t < l.length := by rw [HLL.out]; omega
          obtain ⟨c, hc⟩ : ∃ c, c = l[t] := ⟨_, rfl⟩
          have HNX : Hid ((l.take (t + 1)).all (has k) = has k c) := by
            show _ = _
            rw [all_take_succ _ _ _ htl, ha.out, hc]; rfl
          have hg1 : ∀ h, s[t]'h = c := by
            intro h
            subst hc
            have e := HL.out
            subst e
            rfl
          clear hlt hc htl
          obtain ⟨u, hu⟩ : ∃ u, uses c = u := ⟨_, rfl⟩
          have HUC : Hid (uses c = u) := hu
          by_cases hb : has k c = true
          · have HB : Hid (has k c = true) := hb
            have hu4 := uses_four c
            rw [hu] at hu4
            have hbits : bits BinOp.and IntKind.i64 (u : Int) (k : Int) = (k : Int) := by
              rcases hk with rfl | rfl <;> rcases hu4 with rfl | rfl | rfl | rfl <;> first | rfl | (exfalso; simp [has, inPart, inName, hu] at hb)
            have hk0 : ((k : Int) == 0) = false := by rcases hk with rfl | rfl <;> rfl
            clear hu hu4 hb
            go_wp2_with (go_at_call 58; refine (usesOf_u c u HUC.out _).mono ?_; rintro e w2 ⟨rfl, rfl⟩)
            go_roundw
            case rel => exact ⟨t + 1, by simp, by have := HT.out; omega, by show _ = _; rw [HNX.out, HB.out], hww⟩
            case measure => have := HT.out; simp [intOf]; omega
          · have HU : Hid (word k l = false) := by
              show _ = _
              rw [HW.out]
              refine all_of_take _ _ (t + 1) ?_
              rw [HNX.out]; simpa using hb
            have hu4 := uses_four c
            rw [hu] at hu4
            have hbits : bits BinOp.and IntKind.i64 (u : Int) (k : Int) = 0 := by
              rcases hk with rfl | rfl <;> rcases hu4 with rfl | rfl | rfl | rfl <;> first | rfl | (exfalso; apply hb; simp [has, inPart, inName, hu])
            clear hu hu4 hb
            go_wp2_with (go_at_call 58; refine (usesOf_u c u HUC.out _).mono ?_; rintro e w2 ⟨rfl, rfl⟩)
            go_ret
            exact ⟨by rw [HU.out]; rfl, hww.out⟩

theorem isWord_b (s : ByteArray) (k : Nat) (hk : k = 1 ∨ k = 2) (b : Bool) (hb : word k s.data.toList = b) (w : World) (hn : s.size ≤ 140737488355328) : Calls Tryd.prog 57 #[.string s, .int .i64 (k : Int)] w fun e w' => e = .returned (.bool b) ∧ w = w' := by
  subst hb; exact isWord_is s k hk w hn

theorem word_pos {k : Nat} {l : List UInt8} (h : word k l = true) : 1 ≤ l.length ∧ l.length ≤ 16 := by
  simp [word] at h; omega

set_option maxRecDepth 100000 in
theorem name_is (s : ByteArray) (w : World) (hn : s.size ≤ 140737488355328) : Calls Tryd.prog 35 #[.string s] w fun e w' => e = .returned (.bool (isName s.data.toList)) ∧ w = w' := by
  obtain ⟨l, hl⟩ : ∃ l, s.data.toList = l := ⟨_, rfl⟩
  have HN : Hid (s.size ≤ 140737488355328) := hn
  rw [hl]
  cases hw : word 2 l with
  | false =>
    have hx : isName l = false := by simp [isName, hw]
    have HW : Hid (word 2 s.data.toList = false) := by show _ = _; rw [hl, hw]
    rw [hx]
    clear hl hn hw hx
    go_enter Tryd.func35, Tryd.ntmps35
    go_wp2_with (go_at_call 57; refine (isWord_b s 2 (.inr rfl) false HW.out _ HN.out).mono ?_; rintro e w2 ⟨rfl, rfl⟩)
    go_ret
    exact ⟨rfl, rfl⟩
  | true =>
    have HW : Hid (word 2 s.data.toList = true) := by show _ = _; rw [hl, hw]
    have hp := word_pos hw
    have hsz : s.size = l.length := by rw [← hl]; rfl
    cases l with
    | nil => simp at hp
    | cons c r =>
      have hg1 : ∀ h, s[0]'h = c := by
        intro h
        have e : s.data.toList[0]'(by simpa using h) = c := by simp only [hl]; rfl
        exact e
      have hx : isName (c :: r) = letter c := by simp [isName, hw]
      rw [hx]
      have q1 : (0 : Int) < s.size := by simp at hsz; omega
      obtain ⟨u, hu⟩ : ∃ u, uses c = u := ⟨_, rfl⟩
      have HUC : Hid (uses c = u) := hu
      have hu4 := uses_four c
      rw [hu] at hu4
      obtain ⟨n, hsn⟩ : ∃ n, s.size = n := ⟨_, rfl⟩
      rw [hsn] at q1 hn
      by_cases h7 : u = 7
      · have hlt : letter c = true := by simp [letter, hu, h7]
        have hbits : bits BinOp.and IntKind.i64 (u : Int) 4 = 4 := by subst h7; rfl
        rw [hlt]
        clear hl hp hw hx hsz hu hu4 h7 hlt
        go_enter Tryd.func35, Tryd.ntmps35
        go_wp2_with (first
          | (go_at_call 57; refine (isWord_b s 2 (.inr rfl) true HW.out _ HN.out).mono ?_; rintro e w2 ⟨rfl, rfl⟩)
          | (go_at_call 58; refine (usesOf_u c u HUC.out _).mono ?_; rintro e w2 ⟨rfl, rfl⟩))
        go_ret
        exact ⟨rfl, rfl⟩
      · have hlt : letter c = false := by simp [letter, hu, h7]
        have hbits : bits BinOp.and IntKind.i64 (u : Int) 4 = 0 := by rcases hu4 with rfl | rfl | rfl | rfl <;> first | rfl | (exact absurd rfl h7)
        rw [hlt]
        clear hl hp hw hx hsz hu hu4 h7 hlt
        go_enter Tryd.func35, Tryd.ntmps35
        go_wp2_with (first
          | (go_at_call 57; refine (isWord_b s 2 (.inr rfl) true HW.out _ HN.out).mono ?_; rintro e w2 ⟨rfl, rfl⟩)
          | (go_at_call 58; refine (usesOf_u c u HUC.out _).mono ?_; rintro e w2 ⟨rfl, rfl⟩))
        go_ret
        exact ⟨rfl, rfl⟩

theorem toList_is (s : ByteArray) : s.toList = s.data.toList := ByteArray.toList_eq s
theorem of_list {s : ByteArray} {l : List UInt8} (h : s.data.toList = l) : s = ⟨l.toArray⟩ := by
  cases s; subst h; simp

set_option maxRecDepth 100000 in
theorem isPart_is (s : ByteArray) (w : World) (hn : s.size ≤ 140737488355328) : Calls Tryd.prog 61 #[.string s] w fun e w' => e = .returned (.bool (isPart s.data.toList)) ∧ w = w' := by
  obtain ⟨l, hl⟩ : ∃ l, s.data.toList = l := ⟨_, rfl⟩
  have HN : Hid (s.size ≤ 140737488355328) := hn
  rw [hl]
  cases hw : word 1 l with
  | false =>
    have hx : isPart l = false := by simp [isPart, hw]
    have HW : Hid (word 1 s.data.toList = false) := by show _ = _; rw [hl, hw]
    rw [hx]
    clear hl hn hw hx
    go_enter Tryd.func61, Tryd.ntmps61
    go_wp2_with (go_at_call 57; refine (isWord_b s 1 (.inl rfl) false HW.out _ HN.out).mono ?_; rintro e w2 ⟨rfl, rfl⟩)
    go_ret
    exact ⟨rfl, rfl⟩
  | true =>
    have HW : Hid (word 1 s.data.toList = true) := by show _ = _; rw [hl, hw]
    by_cases h1 : l = [46]
    · have hx : isPart l = false := by simp [isPart, h1]
      have e1 : s = ⟨#[46]⟩ := of_list (hl.trans h1)
      rw [hx]
      subst e1
      clear hl hn hw hx h1
      go_enter Tryd.func61, Tryd.ntmps61
      go_wp2_with (go_at_call 57; refine (isWord_b _ 1 (.inl rfl) true HW.out _ HN.out).mono ?_; rintro e w2 ⟨rfl, rfl⟩)
      go_ret
      exact ⟨rfl, rfl⟩
    · by_cases h2 : l = [46, 46]
      · have hx : isPart l = false := by simp [isPart, h2]
        have e1 : s = ⟨#[46, 46]⟩ := of_list (hl.trans h2)
        rw [hx]
        subst e1
        clear hl hn hw hx h1 h2
        go_enter Tryd.func61, Tryd.ntmps61
        go_wp2_with (go_at_call 57; refine (isWord_b _ 1 (.inl rfl) true HW.out _ HN.out).mono ?_; rintro e w2 ⟨rfl, rfl⟩)
        go_ret
        exact ⟨rfl, rfl⟩
      · have hx : isPart l = true := by simp [isPart, hw, h1, h2]
        have e1 : (s.toList == [46]) = false := by rw [toList_is, hl]; simpa using h1
        have e2 : (s.toList == [46, 46]) = false := by rw [toList_is, hl]; simpa using h2
        rw [hx]
        clear hl hn hw hx h1 h2
        go_enter Tryd.func61, Tryd.ntmps61
        go_wp2_with (go_at_call 57; refine (isWord_b s 1 (.inl rfl) true HW.out _ HN.out).mono ?_; rintro e w2 ⟨rfl, rfl⟩)
        go_ret
        exact ⟨rfl, rfl⟩
theorem isPart_b (s : ByteArray) (b : Bool) (hb : isPart s.data.toList = b) (w : World) (hn : s.size ≤ 140737488355328) : Calls Tryd.prog 61 #[.string s] w fun e w' => e = .returned (.bool b) ∧ w = w' := by
  subst hb; exact isPart_is s w hn
end Go.Proofs.YtgdecjacbkicmaaDoor.Oct
