/-
  Layer 24 (reply): what the reference reads with: after, number.
-/
import Derived.Test.YtkpepfeiimphpaaDoorPrn
namespace Go.Proofs.YtkpepfeiimphpaaDoor.Oct
open Go.RowKit
set_option linter.unusedSimpArgs false
set_option linter.unusedVariables false

/-- does p begin l? -/
def aftB (l p : List UInt8) : Bool := p.isPrefixOf l
/-- what is left behind it -/
def aftL (l p : List UInt8) : List UInt8 := if aftB l p then l.drop p.length else l
theorem ext_to (s : BA) (m : Nat) : (s.extract 0 m).toList = s.data.toList.take m := by
  rw [toList_d]
  simp [ByteArray.data_extract, List.extract_eq_take_drop]
theorem ext_from (s : BA) (m : Nat) : (s.extract m s.size).data.toList = s.data.toList.drop m := by
  have h : s.data.toList.length = s.size := rfl
  simp [ByteArray.data_extract, List.extract_eq_take_drop]
  rw [List.take_of_length_le (by simp [h])]
theorem pre_take {l p : List UInt8} : aftB l p = (l.take p.length == p) := by
  unfold aftB
  rw [Bool.eq_iff_iff, List.isPrefixOf_iff_prefix, beq_iff_eq]
  constructor
  · rintro ⟨t, rfl⟩
    simp
  · intro h
    have e := List.take_append_drop p.length l
    rw [h] at e
    exact ⟨_, e⟩
set_option maxRecDepth 100000 in
theorem rafter_is (s p : BA) (hs : s.size ≤ 140737488355328) (hp : p.size ≤ 140737488355328) (w : World) : Calls Tryd.prog 20 #[.string s, .string p] w fun e w' => (∃ t : BA, e = .returned (.tuple #[.string t, .bool (aftB s.data.toList p.data.toList)]) ∧ Hid (t.data.toList = aftL s.data.toList p.data.toList ∧ t.size ≤ s.size)) ∧ w = w' := by
  obtain ⟨n, hn⟩ : ∃ n, s.size = n := ⟨_, rfl⟩
  obtain ⟨m, hm⟩ : ∃ m, p.size = m := ⟨_, rfl⟩
  have HN : Hid (s.size = n ∧ p.size = m) := ⟨hn, hm⟩
  have hll : s.data.toList.length = n := hn
  have hlm : p.data.toList.length = m := hm
  obtain ⟨B, hB⟩ : ∃ B, aftB s.data.toList p.data.toList = B := ⟨_, rfl⟩
  have HB : Hid (aftB s.data.toList p.data.toList = B) := hB
  rw [hB]
  have he : ((s.extract 0 m).toList == p.toList) = B := by rw [← hB, pre_take, ext_to, toList_d p, hlm]
  have qn : (n : Int) ≤ 140737488355328 := by omega
  have qm : (m : Int) ≤ 140737488355328 := by omega
  by_cases hlt : n < m
  · have hbf : B = false := by
      rw [← hB, pre_take, beq_eq_false_iff_ne]
      intro h
      have := congrArg List.length h
      rw [List.length_take] at this
      omega
    have q1 : (n : Int) < (m : Int) := by omega
    have HE : Hid (s.data.toList = aftL s.data.toList p.data.toList) := by show _ = _; unfold aftL; rw [HB.out, hbf]; rfl
    subst hbf
    clear hB he hlt hll hlm hs hp
    go_enter Tryd.func20, Tryd.ntmps20
    go_wp2
    go_ret2
    exact ⟨⟨_, rfl, HE.out, Nat.le_refl _⟩, rfl⟩
  · have q1 : (m : Int) ≤ (n : Int) := by omega
    have d1 : decide ((n : Int) < (m : Int)) = false := decide_eq_false (by omega)
    clear hB hlt hll hlm hs hp
    cases B
    · have HE : Hid (s.data.toList = aftL s.data.toList p.data.toList) := by show _ = _; unfold aftL; rw [HB.out]; rfl
      go_enter Tryd.func20, Tryd.ntmps20
      go_wp2
      go_ret2
      exact ⟨⟨_, rfl, HE.out, Nat.le_refl _⟩, rfl⟩
    · have HE : Hid ((s.extract m n).data.toList = aftL s.data.toList p.data.toList ∧ (s.extract m n).size ≤ s.size) := by
        refine ⟨?_, ?_⟩
        · unfold aftL
          rw [HB.out, ← HN.out.1, ext_from, if_pos rfl, ← HN.out.2]
          rfl
        · rw [ByteArray.size_extract]; omega
      go_enter Tryd.func20, Tryd.ntmps20
      go_wp2
      go_ret2
      exact ⟨⟨_, rfl, HE.out⟩, rfl⟩
#print axioms rafter_is
/-- a digit -/
def digB (c : UInt8) : Bool := decide (48 ≤ c.toNat) && decide (c.toNat ≤ 57)
def numS (a : Nat) (c : UInt8) : Nat := if a * 10 + (c.toNat - 48) > 65536 then 65537 else a * 10 + (c.toNat - 48)
/-- the number that stands ahead in a text -/
def numN (l : List UInt8) : Nat := (l.takeWhile digB).foldl numS 0
def numR (l : List UInt8) : List UInt8 := l.dropWhile digB
theorem numS_le (a : Nat) (c : UInt8) : numS a c ≤ 65537 := by unfold numS; split <;> omega
theorem dig_snoc {l : List UInt8} {t : Nat} (h : t < l.length) : (l.take (t + 1)).all digB = ((l.take t).all digB && digB l[t]) := by
  rw [List.take_add_one, List.getElem?_eq_getElem h, List.all_append]
  simp
theorem fold_snoc {l : List UInt8} {t : Nat} (h : t < l.length) : (l.take (t + 1)).foldl numS 0 = numS ((l.take t).foldl numS 0) l[t] := by
  rw [List.take_add_one, List.getElem?_eq_getElem h, List.foldl_append]
  rfl
theorem tw_is {l : List UInt8} {t : Nat} (h : (l.take t).all digB = true) (h2 : ∀ h : t < l.length, digB l[t] = false) : l.takeWhile digB = l.take t ∧ l.dropWhile digB = l.drop t := by
  have ha : ∀ a ∈ l.take t, digB a = true := by simpa [List.all_eq_true] using h
  have e : (l.drop t).takeWhile digB = [] ∧ (l.drop t).dropWhile digB = l.drop t := by
    by_cases k : t < l.length
    · rw [List.drop_eq_getElem_cons k]
      exact ⟨List.takeWhile_cons_of_neg (by rw [h2 k]; decide), List.dropWhile_cons_of_neg (by rw [h2 k]; decide)⟩
    · rw [List.drop_eq_nil_of_le (by omega)]
      exact ⟨rfl, rfl⟩
  refine ⟨?_, ?_⟩
  · conv => lhs; rw [← List.take_append_drop t l]
    rw [List.takeWhile_append_of_pos ha, e.1, List.append_nil]
  · conv => lhs; rw [← List.take_append_drop t l]
    rw [List.dropWhile_append_of_pos ha, e.2]
set_option maxRecDepth 100000 in
set_option maxHeartbeats 1000000 in
theorem rnum_is (s : BA) (hs : s.size ≤ 140737488355328) (w : World) : Calls Tryd.prog 21 #[.string s] w fun e w' => (∃ t : BA, e = .returned (.tuple #[iv (numN s.data.toList : Int), .string t]) ∧ Hid (t.data.toList = numR s.data.toList ∧ t.size ≤ s.size)) ∧ Below w.heap.size w w' := by
  obtain ⟨l, hl⟩ : ∃ l, s.data.toList = l := ⟨_, rfl⟩
  obtain ⟨n, hn⟩ : ∃ n, s.size = n := ⟨_, rfl⟩
  have HL : Hid (s.data.toList = l) := hl
  have HLL : Hid (l.length = n) := by show _ = _; rw [← hl, ← hn]; rfl
  have HN : Hid (s.size = n) := hn
  have qn : (n : Int) ≤ 140737488355328 := by omega
  rw [hl]
  clear hs
  go_enter Tryd.func21, Tryd.ntmps21
  go_wp2
  go_loopw [4, 5] (fun u v wr => ∃ a t : Nat, u = iv (a : Int) ∧ v = iv (t : Int) ∧ Hid (t ≤ n ∧ (l.take t).all digB = true ∧ (l.take t).foldl numS 0 = a ∧ a ≤ 65537 ∧ w = wr)) (fun u v _ => n - (intOf v).toNat)
  case atStart => exact ⟨0, 0, rfl, rfl, Nat.zero_le _, rfl, rfl, by omega, rfl⟩
  case round =>
    obtain ⟨a, t, rfl, rfl, HI⟩ := hrel
    have qa : (a : Int) ≤ 65537 := by have := HI.out.2.2.2.1; omega
    have qa0 : (0 : Int) ≤ (a : Int) := by omega
    by_cases ht : t = n
    · have q1 : (n : Int) ≤ (t : Int) := by omega
      have d1 : decide ((t : Int) < (n : Int)) = false := decide_eq_false (by omega)
      have q3 : (t : Int) ≤ (n : Int) := by omega
      have HT := tw_is HI.out.2.1 (fun h => absurd h (by rw [HLL.out]; omega))
      have HE : Hid (numN l = a ∧ (s.extract t n).data.toList = numR l ∧ (s.extract t n).size ≤ s.size ∧ w = wr) := by
        refine ⟨?_, ?_, ?_, HI.out.2.2.2.2⟩
        · unfold numN; rw [HT.1, HI.out.2.2.1]
        · unfold numR; rw [HT.2, ← HN.out, ext_from, HL.out]
        · rw [ByteArray.size_extract]; omega
      clear ht HT
      go_wp2
      go_region
      go_wp2
      go_ret2
      exact ⟨⟨_, by rw [HE.out.1]; rfl, HE.out.2.1, HE.out.2.2.1⟩, HE.out.2.2.2 ▸ below_drew0 w⟩
    · have q5 : t < n := by have := HI.out.1; omega
      have q1 : (t : Int) < (n : Int) := by omega
      have q3 : (t : Int) ≤ (n : Int) := by omega
      have d1 : decide ((t : Int) < (n : Int)) = true := decide_eq_true q1
      have HT : Hid (t < n) := q5
      have htl : t < l.length := by rw [HLL.out]; exact q5
      obtain ⟨c, hc⟩ : ∃ c, c = l[t] := ⟨_, rfl⟩
      have HNX : Hid ((l.take (t + 1)).all digB = digB c ∧ (l.take (t + 1)).foldl numS 0 = numS a c) := by
        refine ⟨?_, ?_⟩
        · rw [dig_snoc htl, HI.out.2.1, hc]; rfl
        · rw [fold_snoc htl, HI.out.2.2.1, hc]
      have HEND : Hid (digB c = false → numN l = a ∧ (s.extract t n).data.toList = numR l ∧ (s.extract t n).size ≤ s.size ∧ w = wr) := by
        intro hd
        have HT := tw_is HI.out.2.1 (fun h => by rw [← hc]; exact hd)
        refine ⟨?_, ?_, ?_, HI.out.2.2.2.2⟩
        · unfold numN; rw [HT.1, HI.out.2.2.1]
        · unfold numR; rw [HT.2, ← HN.out, ext_from, HL.out]
        · rw [ByteArray.size_extract]; omega
      have hg1 : ∀ h, s[t]'h = c := by
        intro h
        subst hc
        have e := HL.out
        subst e
        rfl
      have hlt := c.toNat_lt
      have HCX : Hid (digB c = (decide (48 ≤ c.toNat) && decide (c.toNat ≤ 57)) ∧ numS a c = if a * 10 + (c.toNat - 48) > 65536 then 65537 else a * 10 + (c.toNat - 48)) := ⟨rfl, rfl⟩
      obtain ⟨X, hX⟩ : ∃ X, c.toNat = X := ⟨_, rfl⟩
      rw [hX] at HCX
      clear ht hc htl
      by_cases h48 : X < 48
      · have q2 : (X : Int) < 48 := by omega
        have d2 : decide ((48 : Int) ≤ (X : Int)) = false := decide_eq_false (by omega)
        have HE := HEND.out (by rw [HCX.out.1]; simp; omega)
        have HE' : Hid _ := HE
        clear h48 HE HEND
        go_wp2
        go_region
        go_wp2
        go_ret2
        exact ⟨⟨_, by rw [HE'.out.1]; rfl, HE'.out.2.1, HE'.out.2.2.1⟩, HE'.out.2.2.2 ▸ below_drew0 w⟩
      · have q2 : (48 : Int) ≤ (X : Int) := by omega
        have d2 : decide ((48 : Int) ≤ (X : Int)) = true := decide_eq_true q2
        by_cases h57 : 57 < X
        · have q4 : (57 : Int) < (X : Int) := by omega
          have d4 : decide ((X : Int) ≤ 57) = false := decide_eq_false (by omega)
          have HE := HEND.out (by rw [HCX.out.1]; simp; omega)
          have HE' : Hid _ := HE
          clear h48 h57 HE HEND
          go_wp2
          go_region
          go_wp2
          go_ret2
          exact ⟨⟨_, by rw [HE'.out.1]; rfl, HE'.out.2.1, HE'.out.2.2.1⟩, HE'.out.2.2.2 ▸ below_drew0 w⟩
        · have q4 : (X : Int) ≤ 57 := by omega
          have d4 : decide ((X : Int) ≤ 57) = true := decide_eq_true q4
          have HD : Hid (digB c = true) := by show _ = _; rw [HCX.out.1]; simp; omega
          clear HEND
          by_cases hov : a * 10 + (X - 48) > 65536
          · have q6 : (65536 : Int) < (a : Int) * 10 + ((X : Int) - 48) := by omega
            have HG : Hid (t + 1 ≤ n ∧ (l.take (t + 1)).all digB = true ∧ (l.take (t + 1)).foldl numS 0 = 65537 ∧ 65537 ≤ 65537 ∧ w = wr) := ⟨HT.out, by rw [HNX.out.1, HD.out], by rw [HNX.out.2, HCX.out.2, if_pos hov], Nat.le_refl _, HI.out.2.2.2.2⟩
            clear h48 h57 hov
            go_wp2
            go_roundw
            case rel => exact ⟨65537, t + 1, rfl, by simp, HG.out⟩
            case measure =>
              have := HT.out
              simp only [intOf]
              omega
          · have q6 : (a : Int) * 10 + ((X : Int) - 48) ≤ 65536 := by omega
            have HG : Hid (t + 1 ≤ n ∧ (l.take (t + 1)).all digB = true ∧ (l.take (t + 1)).foldl numS 0 = a * 10 + (X - 48) ∧ a * 10 + (X - 48) ≤ 65537 ∧ w = wr) := ⟨HT.out, by rw [HNX.out.1, HD.out], by rw [HNX.out.2, HCX.out.2, if_neg hov], by omega, HI.out.2.2.2.2⟩
            have HQ : Hid ((48 : Int) ≤ (X : Int)) := q2
            clear h48 h57 hov
            go_wp2
            go_roundw
            case rel => exact ⟨a * 10 + (X - 48), t + 1, by have := HQ.out; simp; omega, by simp, HG.out⟩
            case measure =>
              have := HT.out
              simp only [intOf]
              omega
#print axioms rnum_is
end Go.Proofs.YtkpepfeiimphpaaDoor.Oct
