/-
  Layer 24 (reply): HasPrefix, HasSuffix, isType, typed.
-/
import Derived.Test.YtkpepfeiimphpaaDoorSml
namespace Go.Proofs.YtkpepfeiimphpaaDoor.Oct
open Go.RowKit
set_option linter.unusedSimpArgs false
set_option linter.unusedVariables false

theorem ext_one (s : BA) {l : List UInt8} (hl : s.data.toList = l) (i : Nat) : (s.extract i (i + 1)).toList = (l.drop i).take 1 := by
  rw [toList_d, ← hl]
  simp [ByteArray.data_extract, List.extract_eq_take_drop]
theorem one_eq {l : List UInt8} {i : Nat} (hi : i < l.length) : (((l.drop i).take 1) == [32]) = (l[i]? == some 32) := by
  have e : (l.drop i).take 1 = [l[i]] := by rw [List.drop_eq_getElem_cons hi]; rfl
  rw [e, List.getElem?_eq_getElem hi, Bool.eq_iff_iff, beq_iff_eq, beq_iff_eq]
  exact ⟨fun h => by injection h with h; rw [h], fun h => by injection h with h; rw [h]⟩
set_option maxRecDepth 100000 in
theorem pre_is (s : BA) (hs : s.size ≤ 140737488355328) (w : World) (b : Bool) (hb : (s.data.toList[0]? == some 32) = b) : Calls Tryd.prog 22 #[.string s, .string ⟨#[32]⟩] w fun e w' => e = .returned (.bool b) ∧ w = w' := by
  obtain ⟨n, hn⟩ : ∃ n, s.size = n := ⟨_, rfl⟩
  have hll : s.data.toList.length = n := hn
  have HI : Calls Tryd.prog 32 #[.string s, .string ⟨#[32]⟩] w fun e w' => e = .returned (.bool b) ∧ w = w' := by
    by_cases h0 : n = 0
    · have hbf : b = false := by rw [← hb, List.getElem?_eq_none (by omega)]; rfl
      have q1 : (n : Int) < 1 := by omega
      subst hbf
      clear hb h0 hll
      go_enter Tryd.func32, Tryd.ntmps32
      go_wp2
      go_ret
      exact ⟨rfl, rfl⟩
    · have he : ((s.extract 0 1).toList == [32]) = b := by rw [ext_one s rfl 0, one_eq (by omega), hb]
      have q1 : (1 : Int) ≤ (n : Int) := by omega
      clear hb h0 hll
      go_enter Tryd.func32, Tryd.ntmps32
      go_wp2
      go_ret
      exact ⟨rfl, rfl⟩
  clear hn hll hb hs
  go_enter Tryd.func22, Tryd.ntmps22
  go_wp2_with fail
  refine HI.mono ?_
  rintro e W ⟨rfl, rfl⟩
  clear HI
  go_wp2
  go_ret
  exact ⟨rfl, rfl⟩
set_option maxRecDepth 100000 in
theorem suf_is (s : BA) (hs : s.size ≤ 140737488355328) (w : World) (b : Bool) (hb : (s.data.toList[s.size - 1]? == some 32) = b) : Calls Tryd.prog 23 #[.string s, .string ⟨#[32]⟩] w fun e w' => e = .returned (.bool b) ∧ w = w' := by
  obtain ⟨n, hn⟩ : ∃ n, s.size = n := ⟨_, rfl⟩
  have hll : s.data.toList.length = n := hn
  rw [hn] at hb
  have q2 : (n : Int) ≤ 140737488355328 := by omega
  have HI : Calls Tryd.prog 33 #[.string s, .string ⟨#[32]⟩] w fun e w' => e = .returned (.bool b) ∧ w = w' := by
    by_cases h0 : n = 0
    · have hbf : b = false := by rw [← hb, List.getElem?_eq_none (by omega)]; rfl
      have q1 : (n : Int) < 1 := by omega
      subst hbf
      clear hb h0 hll
      go_enter Tryd.func33, Tryd.ntmps33
      go_wp2
      go_ret
      exact ⟨rfl, rfl⟩
    · have he : ((s.extract (n - 1) n).toList == [32]) = b := by
        have e1 := ext_one s rfl (n - 1)
        rw [show n - 1 + 1 = n by omega] at e1
        rw [e1, one_eq (by omega), hb]
      have q1 : (1 : Int) ≤ (n : Int) := by omega
      clear hb h0 hll
      go_enter Tryd.func33, Tryd.ntmps33
      go_wp2
      go_ret
      exact ⟨rfl, rfl⟩
  clear hn hll hb hs
  go_enter Tryd.func23, Tryd.ntmps23
  go_wp2_with fail
  refine HI.mono ?_
  rintro e W ⟨rfl, rfl⟩
  clear HI
  go_wp2
  go_ret
  exact ⟨rfl, rfl⟩
#print axioms suf_is
/-- may it be a type? -/
def okc (c : UInt8) : Bool := decide (32 ≤ c.toNat) && decide (c.toNat ≤ 126)
def typB (l : List UInt8) : Bool := decide (l.length ≤ 64) && !(l[0]? == some 32) && !(l[l.length - 1]? == some 32) && l.all okc
theorem all_snoc {l : List UInt8} {t : Nat} (h : t < l.length) : (l.take (t + 1)).all okc = ((l.take t).all okc && okc l[t]) := by
  rw [List.take_add_one, List.getElem?_eq_getElem h, List.all_append]
  simp
theorem all_no {l : List UInt8} (t : Nat) (h : (l.take t).all okc = false) : l.all okc = false := by
  rw [← List.take_append_drop t l, List.all_append, h]; rfl
set_option maxRecDepth 100000 in
set_option maxHeartbeats 1000000 in
theorem isType_is (s : BA) (hs : s.size ≤ 140737488355328) (w : World) : Calls Tryd.prog 14 #[.string s] w fun e w' => e = .returned (.bool (typB s.data.toList)) ∧ w = w' := by
  obtain ⟨l, hl⟩ : ∃ l, s.data.toList = l := ⟨_, rfl⟩
  obtain ⟨n, hn⟩ : ∃ n, s.size = n := ⟨_, rfl⟩
  have HL : Hid (s.data.toList = l) := hl
  have HLL : Hid (l.length = n) := by show _ = _; rw [← hl, ← hn]; rfl
  have HS : Hid (s.size ≤ 140737488355328) := hs
  have qn : (n : Int) ≤ 140737488355328 := by omega
  rw [hl]
  obtain ⟨r, hr⟩ : ∃ r, typB l = r := ⟨_, rfl⟩
  have HR : Hid (typB l = r) := hr
  rw [hr]
  clear hr hs
  by_cases h64 : 64 < n
  · have HF : Hid (r = false) := by show _ = _; rw [← HR.out]; unfold typB; rw [decide_eq_false (by rw [HLL.out]; omega)]; rfl
    have q1 : (64 : Int) < (n : Int) := by omega
    clear h64 hl
    go_enter Tryd.func14, Tryd.ntmps14
    go_wp2
    go_ret
    exact ⟨by rw [HF.out]; rfl, rfl⟩
  · have q1 : (n : Int) ≤ 64 := by omega
    have hdf : decide ((64 : Int) < (n : Int)) = false := decide_eq_false (by omega)
    have HD : Hid (decide (l.length ≤ 64) = true) := decide_eq_true (by rw [HLL.out]; omega)
    obtain ⟨p, hp⟩ : ∃ p, (l[0]? == some 32) = p := ⟨_, rfl⟩
    obtain ⟨f, hf⟩ : ∃ p, (l[l.length - 1]? == some 32) = p := ⟨_, rfl⟩
    have HPF : Hid ((l[0]? == some 32) = p ∧ (l[l.length - 1]? == some 32) = f) := ⟨hp, hf⟩
    have HP := pre_is s HS.out w p (by rw [HL.out]; exact hp)
    have HF := suf_is s HS.out w f (by rw [HL.out, hn, ← HLL.out]; exact hf)
    clear h64 hl hp hf
    go_enter Tryd.func14, Tryd.ntmps14
    go_wp2_with fail
    refine HP.mono ?_
    rintro e W ⟨rfl, rfl⟩
    clear HP
    cases p
    · go_wp2_with fail
      refine HF.mono ?_
      rintro e W ⟨rfl, rfl⟩
      clear HF
      cases f
      · have HT0 : Hid (r = l.all okc) := by show _ = _; rw [← HR.out]; unfold typB; rw [HD.out, HPF.out.1, HPF.out.2]; rfl
        go_wp2
        go_loopw [17] (fun u wr => ∃ t : Nat, u = iv (t : Int) ∧ Hid (t ≤ n ∧ (l.take t).all okc = true ∧ w = wr)) (fun u _ => n - (intOf u).toNat)
        case atStart => exact ⟨0, rfl, Nat.zero_le _, rfl, rfl⟩
        case round =>
          obtain ⟨t, rfl, HI⟩ := hrel
          by_cases ht : t = n
          · have q1 : (n : Int) ≤ (t : Int) := by omega
            have HA : Hid (l.all okc = true ∧ w = wr) := by
              refine ⟨?_, HI.out.2.2⟩
              have := HI.out.2.1
              rwa [ht, ← HLL.out, List.take_length] at this
            clear ht
            go_wp2
            go_ret
            exact ⟨by rw [HT0.out, HA.out.1]; rfl, HA.out.2⟩
          · have q5 : t < n := by have := HI.out.1; omega
            have q1 : (t : Int) < (n : Int) := by omega
            have HT : Hid (t < n) := q5
            have htl : t < l.length := by rw [HLL.out]; exact q5
            obtain ⟨c, hc⟩ : ∃ c, c = l[t] := ⟨_, rfl⟩
            have HNX : Hid ((l.take (t + 1)).all okc = okc c) := by show _ = _; rw [all_snoc htl, HI.out.2.1, hc]; rfl
            have hg1 : ∀ h, s[t]'h = c := by
              intro h
              subst hc
              have e := HL.out
              subst e
              rfl
            have hlt := c.toNat_lt
            have HCX : Hid (okc c = (decide (32 ≤ c.toNat) && decide (c.toNat ≤ 126))) := rfl
            obtain ⟨X, hX⟩ : ∃ X, c.toNat = X := ⟨_, rfl⟩
            rw [hX] at HCX
            clear ht hc htl
            by_cases h32 : X < 32
            · have q2 : (X : Int) < 32 := by omega
              have HB : Hid (l.all okc = false ∧ w = wr) := ⟨all_no (t + 1) (by rw [HNX.out, HCX.out]; simp; omega), HI.out.2.2⟩
              clear h32
              go_wp2
              go_ret
              exact ⟨by rw [HT0.out, HB.out.1]; rfl, HB.out.2⟩
            · have q2 : (32 : Int) ≤ (X : Int) := by omega
              by_cases h126 : 126 < X
              · have q3 : (126 : Int) < (X : Int) := by omega
                have HB : Hid (l.all okc = false ∧ w = wr) := ⟨all_no (t + 1) (by rw [HNX.out, HCX.out]; simp; omega), HI.out.2.2⟩
                clear h32 h126
                go_wp2
                go_ret
                exact ⟨by rw [HT0.out, HB.out.1]; rfl, HB.out.2⟩
              · have q3 : (X : Int) ≤ 126 := by omega
                have HG : Hid (t + 1 ≤ n ∧ (l.take (t + 1)).all okc = true ∧ w = wr) := ⟨HT.out, by rw [HNX.out, HCX.out]; simp; omega, HI.out.2.2⟩
                clear h32 h126
                go_wp2
                go_roundw
                case rel => exact ⟨t + 1, by simp, HG.out⟩
                case measure =>
                  have := HT.out
                  simp only [intOf]
                  omega
      · have HX : Hid (r = false) := by show _ = _; rw [← HR.out]; unfold typB; rw [HD.out, HPF.out.1, HPF.out.2]; rfl
        go_wp2
        go_ret
        exact ⟨by rw [HX.out]; rfl, rfl⟩
    · have HX : Hid (r = false) := by show _ = _; rw [← HR.out]; unfold typB; rw [HD.out, HPF.out.1]; rfl
      clear HF
      go_wp2
      go_ret
      exact ⟨by rw [HX.out]; rfl, rfl⟩
#print axioms isType_is
set_option maxRecDepth 100000 in
set_option maxHeartbeats 1000000 in
theorem typed_is (s : BA) (hs : s.size ≤ 140737488355328) (w : World) : Calls Tryd.prog 16 #[.string s] w fun e w' => e = .returned (.bool (typB s.data.toList)) ∧ w = w' := by
  obtain ⟨l, hl⟩ : ∃ l, s.data.toList = l := ⟨_, rfl⟩
  obtain ⟨n, hn⟩ : ∃ n, s.size = n := ⟨_, rfl⟩
  have HL : Hid (s.data.toList = l) := hl
  have HLL : Hid (l.length = n) := by show _ = _; rw [← hl, ← hn]; rfl
  have HS : Hid (s.size ≤ 140737488355328) := hs
  have qn : (n : Int) ≤ 140737488355328 := by omega
  rw [hl]
  obtain ⟨r, hr⟩ : ∃ r, typB l = r := ⟨_, rfl⟩
  have HR : Hid (typB l = r) := hr
  rw [hr]
  clear hr hs
  go_enter Tryd.func16, Tryd.ntmps16
  go_wp2
  go_loopw [3] (fun u wr => ∃ t : Nat, u = iv (t : Int) ∧ Hid (t ≤ n ∧ (l.take t).all okc = true ∧ w = wr)) (fun u _ => n - (intOf u).toNat)
  case atStart => exact ⟨0, rfl, Nat.zero_le _, rfl, rfl⟩
  case round =>
    obtain ⟨t, rfl, HI⟩ := hrel
    by_cases ht : t = n
    · have q1 : (n : Int) ≤ (t : Int) := by omega
      have HA : Hid (l.all okc = true ∧ w = wr) := by
        refine ⟨?_, HI.out.2.2⟩
        have := HI.out.2.1
        rwa [ht, ← HLL.out, List.take_length] at this
      clear ht
      by_cases h64 : 64 < n
      · have HX : Hid (r = false) := by show _ = _; rw [← HR.out]; unfold typB; rw [decide_eq_false (by rw [HLL.out]; omega)]; rfl
        have q2 : (64 : Int) < (n : Int) := by omega
        clear h64
        go_wp2
        go_ret
        exact ⟨by rw [HX.out]; rfl, HA.out.2⟩
      · have q2 : (n : Int) ≤ 64 := by omega
        have HD : Hid (decide (l.length ≤ 64) = true) := decide_eq_true (by rw [HLL.out]; omega)
        by_cases h0 : n = 0
        · have hnil : l = [] := List.eq_nil_of_length_eq_zero (by rw [HLL.out]; exact h0)
          have he : s.toList.isEmpty = true := by rw [toList_d, HL.out, hnil]; rfl
          have HX : Hid (r = true) := by show _ = _; rw [← HR.out, hnil]; rfl
          clear h64 h0 hnil hl
          go_wp2
          go_ret
          exact ⟨by rw [HX.out]; rfl, HA.out.2⟩
        · have he : s.toList.isEmpty = false := by
            rw [toList_d, HL.out]
            cases hh : l with
            | nil => have := HLL.out; rw [hh] at this; exact absurd this.symm h0
            | cons a b => rfl
          have q3 : (1 : Int) ≤ (n : Int) := by omega
          have q4 : 1 ≤ n := by omega
          obtain ⟨c0, hc0⟩ : ∃ c, c = l[0]'(by rw [HLL.out]; omega) := ⟨_, rfl⟩
          obtain ⟨c1, hc1⟩ : ∃ c, c = l[n - 1]'(by rw [HLL.out]; omega) := ⟨_, rfl⟩
          have hg0 : ∀ h, s[0]'h = c0 := by
            intro h
            subst hc0
            have e := HL.out
            subst e
            rfl
          have hg1 : ∀ h, s[n - 1]'h = c1 := by
            intro h
            subst hc1
            have e := HL.out
            subst e
            rfl
          have HC : Hid ((l[0]? == some 32) = (c0 == 32) ∧ (l[l.length - 1]? == some 32) = (c1 == 32)) := by
            refine ⟨by rw [List.getElem?_eq_getElem (by rw [HLL.out]; omega), hc0]; rfl, ?_⟩
            rw [HLL.out, List.getElem?_eq_getElem (by rw [HLL.out]; omega), hc1]; rfl
          have b0 : (c0 == 32) = (((c0.toNat : Nat) : Int) == 32) := by
            rw [Bool.eq_iff_iff, beq_iff_eq, beq_iff_eq]
            exact ⟨fun e => by rw [e]; rfl, fun e => UInt8.toNat_inj.1 (by show c0.toNat = 32; omega)⟩
          have b1 : (c1 == 32) = (((c1.toNat : Nat) : Int) == 32) := by
            rw [Bool.eq_iff_iff, beq_iff_eq, beq_iff_eq]
            exact ⟨fun e => by rw [e]; rfl, fun e => UInt8.toNat_inj.1 (by show c1.toNat = 32; omega)⟩
          have HB2 : Hid ((c0 == 32) = (((c0.toNat : Nat) : Int) == 32) ∧ (c1 == 32) = (((c1.toNat : Nat) : Int) == 32)) := ⟨b0, b1⟩
          obtain ⟨X0, hX0⟩ : ∃ X, c0.toNat = X := ⟨_, rfl⟩
          obtain ⟨X1, hX1⟩ : ∃ X, c1.toNat = X := ⟨_, rfl⟩
          rw [hX0, hX1] at HB2
          clear h64 h0 hc0 hc1 b0 b1 hl
          cases z0 : ((X0 : Int) == 32) with
          | true =>
            have z0' : ((X0 : Int) != 32) = false := by rw [bne, z0]; rfl
            have HX : Hid (r = false) := by show _ = _; rw [← HR.out]; unfold typB; rw [HD.out, HC.out.1, HB2.out.1, z0]; rfl
            go_wp2
            go_ret
            exact ⟨by rw [HX.out]; rfl, HA.out.2⟩
          | false =>
            have z0' : ((X0 : Int) != 32) = true := by rw [bne, z0]; rfl
            cases z1 : ((X1 : Int) == 32) with
            | true =>
              have z1' : ((X1 : Int) != 32) = false := by rw [bne, z1]; rfl
              have HX : Hid (r = false) := by show _ = _; rw [← HR.out]; unfold typB; rw [HD.out, HC.out.1, HC.out.2, HB2.out.1, HB2.out.2, z0, z1]; rfl
              go_wp2
              go_ret
              exact ⟨by rw [HX.out]; rfl, HA.out.2⟩
            | false =>
              have z1' : ((X1 : Int) != 32) = true := by rw [bne, z1]; rfl
              have HX : Hid (r = true) := by show _ = _; rw [← HR.out]; unfold typB; rw [HD.out, HC.out.1, HC.out.2, HB2.out.1, HB2.out.2, z0, z1, HA.out.1]; rfl
              go_wp2
              go_ret
              exact ⟨by rw [HX.out]; rfl, HA.out.2⟩
    · have q5 : t < n := by have := HI.out.1; omega
      have q1 : (t : Int) < (n : Int) := by omega
      have HT : Hid (t < n) := q5
      have htl : t < l.length := by rw [HLL.out]; exact q5
      obtain ⟨c, hc⟩ : ∃ c, c = l[t] := ⟨_, rfl⟩
      have HNX : Hid ((l.take (t + 1)).all okc = okc c) := by show _ = _; rw [all_snoc htl, HI.out.2.1, hc]; rfl
      have hg1 : ∀ h, s[t]'h = c := by
        intro h
        subst hc
        have e := HL.out
        subst e
        rfl
      have hlt := c.toNat_lt
      have HCX : Hid (okc c = (decide (32 ≤ c.toNat) && decide (c.toNat ≤ 126))) := rfl
      obtain ⟨X, hX⟩ : ∃ X, c.toNat = X := ⟨_, rfl⟩
      rw [hX] at HCX
      clear ht hc htl
      by_cases h32 : X < 32
      · have q2 : (X : Int) < 32 := by omega
        have HB : Hid (l.all okc = false ∧ w = wr) := ⟨all_no (t + 1) (by rw [HNX.out, HCX.out]; simp; omega), HI.out.2.2⟩
        clear h32
        have HX : Hid (r = false) := by show _ = _; rw [← HR.out]; unfold typB; rw [HB.out.1]; simp
        go_wp2
        go_ret
        exact ⟨by rw [HX.out]; rfl, HB.out.2⟩
      · have q2 : (32 : Int) ≤ (X : Int) := by omega
        by_cases h126 : 126 < X
        · have q3 : (126 : Int) < (X : Int) := by omega
          have HB : Hid (l.all okc = false ∧ w = wr) := ⟨all_no (t + 1) (by rw [HNX.out, HCX.out]; simp; omega), HI.out.2.2⟩
          clear h32 h126
          have HX : Hid (r = false) := by show _ = _; rw [← HR.out]; unfold typB; rw [HB.out.1]; simp
          go_wp2
          go_ret
          exact ⟨by rw [HX.out]; rfl, HB.out.2⟩
        · have q3 : (X : Int) ≤ 126 := by omega
          have HG : Hid (t + 1 ≤ n ∧ (l.take (t + 1)).all okc = true ∧ w = wr) := ⟨HT.out, by rw [HNX.out, HCX.out]; simp; omega, HI.out.2.2⟩
          clear h32 h126
          go_wp2
          go_roundw
          case rel => exact ⟨t + 1, by simp, HG.out⟩
          case measure =>
            have := HT.out
            simp only [intOf]
            omega
#print axioms typed_is
end Go.Proofs.YtkpepfeiimphpaaDoor.Oct
