/-
  Layer 24 (reply): the heads of both.
-/
import Derived.Test.YtkpepfeiimphpaaDoorHdr
namespace Go.Proofs.YtkpepfeiimphpaaDoor.Oct
open Go.RowKit
set_option linter.unusedSimpArgs false
set_option linter.unusedVariables false

/-- a reply's head -/
def headL (st : Nat) (ty : List UInt8) (n : Nat) (cl : Bool) : List UInt8 := (⟨#[72, 84, 84, 80, 47, 49, 46, 49, 32]⟩ : BA).data.toList ++ (Lib.decDigits st ++ ((⟨#[32]⟩ : BA).data.toList ++ ((reasonS (st : Int)).data.toList ++ ((⟨#[13, 10]⟩ : BA).data.toList ++ ((if ty = [] then [] else (⟨#[99, 111, 110, 116, 101, 110, 116, 45, 116, 121, 112, 101, 58, 32]⟩ : BA).data.toList ++ (ty ++ (⟨#[13, 10]⟩ : BA).data.toList)) ++ ((⟨#[99, 111, 110, 116, 101, 110, 116, 45, 108, 101, 110, 103, 116, 104, 58, 32]⟩ : BA).data.toList ++ (Lib.decDigits n ++ ((⟨#[13, 10]⟩ : BA).data.toList ++ ((if cl then (⟨#[99, 111, 110, 110, 101, 99, 116, 105, 111, 110, 58, 32, 99, 108, 111, 115, 101, 13, 10]⟩ : BA).data.toList else []) ++ (⟨#[13, 10]⟩ : BA).data.toList)))))))))
theorem reason_sz (n : Int) : (reasonS n).size ≤ 1000 := by
  unfold reasonS
  cases h : tabR.find? fun r => r.1 == n with
  | none => decide
  | some r =>
    have hm := List.mem_of_find?_eq_some h
    have : ∀ r ∈ tabR, r.2.size ≤ 1000 := by decide
    exact this r hm
theorem dec_sz {n : Nat} (h : n ≤ 1000000) : (⟨(Lib.decDigits n).toArray⟩ : BA).size ≤ 1000 := by
  have h1 : ∀ (k u : Nat), u < 10 ^ (k + 1) → (Lib.decDigits u).length ≤ k + 1 := by
    intro k
    induction k with
    | zero => intro u hu; rw [dec_small (by simpa using hu)]; simp
    | succ k ih =>
      intro u hu
      by_cases h1 : u < 10
      · rw [dec_small h1]; simp
      · rw [dec_big h1, List.length_append, dec_small (u := u % 10) (by omega)]
        have := ih (u / 10) (by rw [Nat.pow_succ] at hu; omega)
        simp
        omega
  have := h1 6 n (by omega)
  show (Lib.decDigits n).toArray.size ≤ 1000
  rw [List.size_toArray]
  omega
set_option maxRecDepth 100000 in
set_option maxHeartbeats 4000000 in
theorem headOf_is (st : Nat) (ty bo : BA) (cl : Bool) (w : World) (hp : PT w) (hst : st ≤ 999) (hty : ty.size ≤ 64) (hbo : bo.size ≤ 65536) : Calls Tryd.prog 15 #[.agg #[iv (st : Int), .string ty, .string bo, .bool cl]] w fun e w' => ∃ s : BA, e = .returned (.string s) ∧ Hid (s.data.toList = headL st ty.data.toList bo.size cl ∧ s.size ≤ 90000) ∧ Below w.heap.size w w' := by
  obtain ⟨b, hb⟩ : ∃ b, w.heap.size = b := ⟨_, rfl⟩
  obtain ⟨A, hA⟩ : ∃ A, w.alloc (.cells #[iv (st : Int), .string ty, .string bo, .bool cl] 23) = A := ⟨_, rfl⟩
  have hB : Below w.heap.size w A := by rw [← hA]; exact below_al _ _
  have h2 : Blk A b 23 [iv (st : Int), .string ty, .string bo, .bool cl] := by rw [← hA, ← hb]; exact Blk.new w _ _
  have HA : Hid (Below w.heap.size w A ∧ Blk A b 23 [iv (st : Int), .string ty, .string bo, .bool cl] ∧ PT A) := ⟨hB, h2, hp.below hB⟩
  have HSZ : Hid (st ≤ 999 ∧ ty.size ≤ 64 ∧ bo.size ≤ 65536) := ⟨hst, hty, hbo⟩
  obtain ⟨d1, hd1⟩ : ∃ s : BA, s = ⟨(Lib.decDigits st).toArray⟩ := ⟨_, rfl⟩
  obtain ⟨rs, hrs⟩ : ∃ s, reasonS (st : Int) = s := ⟨_, rfl⟩
  obtain ⟨n, hn⟩ : ∃ n, bo.size = n := ⟨_, rfl⟩
  obtain ⟨d2, hd2⟩ : ∃ s : BA, s = ⟨(Lib.decDigits n).toArray⟩ := ⟨_, rfl⟩
  have HD : Hid (d1.data.toList = Lib.decDigits st ∧ reasonS (st : Int) = rs ∧ d2.data.toList = Lib.decDigits n ∧ bo.size = n ∧ n ≤ 65536) := ⟨by rw [hd1], hrs, by rw [hd2], hn, by omega⟩
  have HZ : Hid (d1.size ≤ 1000 ∧ rs.size ≤ 1000) := ⟨by rw [hd1]; exact dec_sz (by omega), by rw [← hrs]; exact reason_sz _⟩
  have HZ2 : Hid (d2.size ≤ 1000) := by show _ ≤ _; rw [hd2]; exact dec_sz (by omega)
  have HIT : Hid (∀ V, Below A.heap.size A V → Calls Tryd.prog 24 #[iv (st : Int)] V fun e V2 => e = .returned (.string d1) ∧ Below V.heap.size V V2) := fun V hV => itoa_b st (by omega) V (HA.out.2.2.below hV) d1 hd1
  have HRE : Hid (∀ V, Below A.heap.size A V → Calls Tryd.prog 10 #[iv (st : Int)] V fun e V2 => e = .returned (.string rs) ∧ Below V.heap.size V V2) := fun V hV => by rw [← hrs]; exact reason_is _ V
  have HI2 : Hid (∀ V, PT V → Calls Tryd.prog 24 #[iv (n : Int)] V fun e V2 => e = .returned (.string d2) ∧ Below V.heap.size V V2) := fun V hV => itoa_b n (by omega) V hV d2 hd2
  have HL : Hid (b < A.heap.size) := h2.lt
  have c0 : A.cell? ⟨b, 0, none⟩ = some (iv (st : Int)) := h2.cell rfl
  have qn : (n : Int) ≤ 65536 := by omega
  clear hp hst hbo hB h2 hd1 hrs hd2
  go_enter Tryd.func15, Tryd.ntmps15
  go_wp2_with fail
  refine hd1 HL c0 HZ HIT HRE ?_
  intro V1 hb1
  obtain ⟨h1, hh1⟩ : ∃ s : BA, ((((⟨#[72, 84, 84, 80, 47, 49, 46, 49, 32]⟩ : BA) ++ d1) ++ (⟨#[32]⟩ : BA)) ++ rs) ++ (⟨#[13, 10]⟩ : BA) = s := ⟨_, rfl⟩
  rw [hh1]
  have HV1 : Hid (Below w.heap.size w V1 ∧ Blk V1 b 23 [iv (st : Int), .string ty, .string bo, .bool cl] ∧ PT V1) := ⟨below_tr HA.out.1 hb1, HA.out.2.1.below hb1 HA.out.2.1.lt, HA.out.2.2.below hb1⟩
  have z1 : h1.size ≤ 3000 := by rw [← hh1]; exact Nat.le_trans (sz_app (sz_app (sz_app (sz_app (show (⟨#[72, 84, 84, 80, 47, 49, 46, 49, 32]⟩ : BA).size ≤ 100 from by decide) HZ.out.1) (show (⟨#[32]⟩ : BA).size ≤ 100 from by decide)) HZ.out.2) (show (⟨#[13, 10]⟩ : BA).size ≤ 100 from by decide)) (by decide)
  have k1 : V1.cell? ⟨b, 1, none⟩ = some (.string ty) := HV1.out.2.1.cell rfl
  have k2 : V1.cell? ⟨b, 2, none⟩ = some (.string bo) := HV1.out.2.1.cell rfl
  have k3 : V1.cell? ⟨b, 3, none⟩ = some (.bool cl) := HV1.out.2.1.cell rfl
  clear hb hA hb1
  have HH1 : Hid (((((⟨#[72, 84, 84, 80, 47, 49, 46, 49, 32]⟩ : BA) ++ d1) ++ (⟨#[32]⟩ : BA)) ++ rs) ++ (⟨#[13, 10]⟩ : BA) = h1) := hh1
  clear hh1
  by_cases hne : ty.data.toList = []
  · have he : ty.toList.isEmpty = true := by rw [toList_d, hne]; rfl
    have HTY : Hid (ty.data.toList = []) := hne
    clear hne
    have HC := HI2.out V1 HV1.out.2.2
    go_wp2_with fail
    refine HC.mono ?_
    rintro e V2 ⟨rfl, hb2⟩
    obtain ⟨h2, hh2⟩ : ∃ s : BA, h1 = s := ⟨_, rfl⟩
    rw [hh2]
    have HH2 : Hid (h1 = h2) := hh2
    have z2 : h2.size ≤ 4000 := by rw [← hh2]; exact Nat.le_trans z1 (by decide)
    have HV2 : Hid (Below w.heap.size w V2 ∧ Blk V2 b 23 [iv (st : Int), .string ty, .string bo, .bool cl]) := ⟨below_tr HV1.out.1 hb2, HV1.out.2.1.below hb2 HV1.out.2.1.lt⟩
    have zd := HZ2.out
    have m3 : V2.cell? ⟨b, 3, none⟩ = some (.bool cl) := HV2.out.2.cell rfl
    have m2 : V2.cell? ⟨b, 2, none⟩ = some (.string bo) := HV2.out.2.cell rfl
    clear HC hb2 hh2 k1 k2 k3
    cases cl
    · have HE : Hid (((h2 ++ (((⟨#[99, 111, 110, 116, 101, 110, 116, 45, 108, 101, 110, 103, 116, 104, 58, 32]⟩ : BA) ++ d2) ++ (⟨#[13, 10]⟩ : BA))) ++ (⟨#[13, 10]⟩ : BA)).data.toList = headL st ty.data.toList bo.size false ∧ ((h2 ++ (((⟨#[99, 111, 110, 116, 101, 110, 116, 45, 108, 101, 110, 103, 116, 104, 58, 32]⟩ : BA) ++ d2) ++ (⟨#[13, 10]⟩ : BA))) ++ (⟨#[13, 10]⟩ : BA)).size ≤ 90000) := by
        refine ⟨?_, ?_⟩
        · unfold headL
          rw [HD.out.2.2.2.1, HD.out.2.1, ← HD.out.1, ← HD.out.2.2.1, if_pos HTY.out]
          rw [← HH2.out, ← HH1.out]
          simp only [ByteArray.data_append, Array.toList_append, List.append_assoc, if_true, if_false, Bool.false_eq_true, List.nil_append]
        · have := HSZ.out
          have := HZ2.out
          have := z2
          simp only [ByteArray.size_append]
          have e1 : (⟨#[99, 111, 110, 116, 101, 110, 116, 45, 108, 101, 110, 103, 116, 104, 58, 32]⟩ : BA).size = 16 := rfl
          have e2 : (⟨#[13, 10]⟩ : BA).size = 2 := rfl
          have e3 : (⟨#[99, 111, 110, 110, 101, 99, 116, 105, 111, 110, 58, 32, 99, 108, 111, 115, 101, 13, 10]⟩ : BA).size = 19 := rfl
          omega
      go_wp2
      go_ret
      exact ⟨_, rfl, HE.out, HV2.out.1⟩
    · have HE : Hid ((((h2 ++ (((⟨#[99, 111, 110, 116, 101, 110, 116, 45, 108, 101, 110, 103, 116, 104, 58, 32]⟩ : BA) ++ d2) ++ (⟨#[13, 10]⟩ : BA))) ++ (⟨#[99, 111, 110, 110, 101, 99, 116, 105, 111, 110, 58, 32, 99, 108, 111, 115, 101, 13, 10]⟩ : BA)) ++ (⟨#[13, 10]⟩ : BA)).data.toList = headL st ty.data.toList bo.size true ∧ (((h2 ++ (((⟨#[99, 111, 110, 116, 101, 110, 116, 45, 108, 101, 110, 103, 116, 104, 58, 32]⟩ : BA) ++ d2) ++ (⟨#[13, 10]⟩ : BA))) ++ (⟨#[99, 111, 110, 110, 101, 99, 116, 105, 111, 110, 58, 32, 99, 108, 111, 115, 101, 13, 10]⟩ : BA)) ++ (⟨#[13, 10]⟩ : BA)).size ≤ 90000) := by
        refine ⟨?_, ?_⟩
        · unfold headL
          rw [HD.out.2.2.2.1, HD.out.2.1, ← HD.out.1, ← HD.out.2.2.1, if_pos HTY.out]
          rw [← HH2.out, ← HH1.out]
          simp only [ByteArray.data_append, Array.toList_append, List.append_assoc, if_true, if_false, Bool.false_eq_true, List.nil_append]
        · have := HSZ.out
          have := HZ2.out
          have := z2
          simp only [ByteArray.size_append]
          have e1 : (⟨#[99, 111, 110, 116, 101, 110, 116, 45, 108, 101, 110, 103, 116, 104, 58, 32]⟩ : BA).size = 16 := rfl
          have e2 : (⟨#[13, 10]⟩ : BA).size = 2 := rfl
          have e3 : (⟨#[99, 111, 110, 110, 101, 99, 116, 105, 111, 110, 58, 32, 99, 108, 111, 115, 101, 13, 10]⟩ : BA).size = 19 := rfl
          omega
      go_wp2
      go_ret
      exact ⟨_, rfl, HE.out, HV2.out.1⟩
  · have he : ty.toList.isEmpty = false := by rw [toList_d]; simpa using hne
    have HTY : Hid (¬ ty.data.toList = []) := hne
    clear hne
    have HC := HI2.out V1 HV1.out.2.2
    go_wp2_with fail
    refine HC.mono ?_
    rintro e V2 ⟨rfl, hb2⟩
    obtain ⟨h2, hh2⟩ : ∃ s : BA, h1 ++ (((⟨#[99, 111, 110, 116, 101, 110, 116, 45, 116, 121, 112, 101, 58, 32]⟩ : BA) ++ ty) ++ (⟨#[13, 10]⟩ : BA)) = s := ⟨_, rfl⟩
    rw [hh2]
    have HH2 : Hid (h1 ++ (((⟨#[99, 111, 110, 116, 101, 110, 116, 45, 116, 121, 112, 101, 58, 32]⟩ : BA) ++ ty) ++ (⟨#[13, 10]⟩ : BA)) = h2) := hh2
    have z2 : h2.size ≤ 4000 := by rw [← hh2]; simp only [ByteArray.size_append]; have e1 : (⟨#[99, 111, 110, 116, 101, 110, 116, 45, 116, 121, 112, 101, 58, 32]⟩ : BA).size = 14 := rfl; have e2 : (⟨#[13, 10]⟩ : BA).size = 2 := rfl; omega
    have HV2 : Hid (Below w.heap.size w V2 ∧ Blk V2 b 23 [iv (st : Int), .string ty, .string bo, .bool cl]) := ⟨below_tr HV1.out.1 hb2, HV1.out.2.1.below hb2 HV1.out.2.1.lt⟩
    have zd := HZ2.out
    have m3 : V2.cell? ⟨b, 3, none⟩ = some (.bool cl) := HV2.out.2.cell rfl
    have m2 : V2.cell? ⟨b, 2, none⟩ = some (.string bo) := HV2.out.2.cell rfl
    clear HC hb2 hh2 k1 k2 k3
    cases cl
    · have HE : Hid (((h2 ++ (((⟨#[99, 111, 110, 116, 101, 110, 116, 45, 108, 101, 110, 103, 116, 104, 58, 32]⟩ : BA) ++ d2) ++ (⟨#[13, 10]⟩ : BA))) ++ (⟨#[13, 10]⟩ : BA)).data.toList = headL st ty.data.toList bo.size false ∧ ((h2 ++ (((⟨#[99, 111, 110, 116, 101, 110, 116, 45, 108, 101, 110, 103, 116, 104, 58, 32]⟩ : BA) ++ d2) ++ (⟨#[13, 10]⟩ : BA))) ++ (⟨#[13, 10]⟩ : BA)).size ≤ 90000) := by
        refine ⟨?_, ?_⟩
        · unfold headL
          rw [HD.out.2.2.2.1, HD.out.2.1, ← HD.out.1, ← HD.out.2.2.1, if_neg HTY.out]
          rw [← HH2.out, ← HH1.out]
          simp only [ByteArray.data_append, Array.toList_append, List.append_assoc, if_true, if_false, Bool.false_eq_true, List.nil_append]
        · have := HSZ.out
          have := HZ2.out
          have := z2
          simp only [ByteArray.size_append]
          have e1 : (⟨#[99, 111, 110, 116, 101, 110, 116, 45, 108, 101, 110, 103, 116, 104, 58, 32]⟩ : BA).size = 16 := rfl
          have e2 : (⟨#[13, 10]⟩ : BA).size = 2 := rfl
          have e3 : (⟨#[99, 111, 110, 110, 101, 99, 116, 105, 111, 110, 58, 32, 99, 108, 111, 115, 101, 13, 10]⟩ : BA).size = 19 := rfl
          omega
      go_wp2
      go_ret
      exact ⟨_, rfl, HE.out, HV2.out.1⟩
    · have HE : Hid ((((h2 ++ (((⟨#[99, 111, 110, 116, 101, 110, 116, 45, 108, 101, 110, 103, 116, 104, 58, 32]⟩ : BA) ++ d2) ++ (⟨#[13, 10]⟩ : BA))) ++ (⟨#[99, 111, 110, 110, 101, 99, 116, 105, 111, 110, 58, 32, 99, 108, 111, 115, 101, 13, 10]⟩ : BA)) ++ (⟨#[13, 10]⟩ : BA)).data.toList = headL st ty.data.toList bo.size true ∧ (((h2 ++ (((⟨#[99, 111, 110, 116, 101, 110, 116, 45, 108, 101, 110, 103, 116, 104, 58, 32]⟩ : BA) ++ d2) ++ (⟨#[13, 10]⟩ : BA))) ++ (⟨#[99, 111, 110, 110, 101, 99, 116, 105, 111, 110, 58, 32, 99, 108, 111, 115, 101, 13, 10]⟩ : BA)) ++ (⟨#[13, 10]⟩ : BA)).size ≤ 90000) := by
        refine ⟨?_, ?_⟩
        · unfold headL
          rw [HD.out.2.2.2.1, HD.out.2.1, ← HD.out.1, ← HD.out.2.2.1, if_neg HTY.out]
          rw [← HH2.out, ← HH1.out]
          simp only [ByteArray.data_append, Array.toList_append, List.append_assoc, if_true, if_false, Bool.false_eq_true, List.nil_append]
        · have := HSZ.out
          have := HZ2.out
          have := z2
          simp only [ByteArray.size_append]
          have e1 : (⟨#[99, 111, 110, 116, 101, 110, 116, 45, 108, 101, 110, 103, 116, 104, 58, 32]⟩ : BA).size = 16 := rfl
          have e2 : (⟨#[13, 10]⟩ : BA).size = 2 := rfl
          have e3 : (⟨#[99, 111, 110, 110, 101, 99, 116, 105, 111, 110, 58, 32, 99, 108, 111, 115, 101, 13, 10]⟩ : BA).size = 19 := rfl
          omega
      go_wp2
      go_ret
      exact ⟨_, rfl, HE.out, HV2.out.1⟩
#print axioms headOf_is
set_option maxRecDepth 100000 in
set_option maxHeartbeats 4000000 in
theorem text_is (st : Nat) (ty bo : BA) (cl : Bool) (w : World) (hp : PT w) (hst : st ≤ 999) (hty : ty.size ≤ 64) (hbo : bo.size ≤ 65536) : Calls Tryd.prog 17 #[.agg #[iv (st : Int), .string ty, .string bo, .bool cl]] w fun e w' => ∃ s : BA, e = .returned (.string s) ∧ Hid (s.data.toList = headL st ty.data.toList bo.size cl ++ bo.data.toList ∧ s.size ≤ 90000) ∧ Below w.heap.size w w' := by
  obtain ⟨b, hb⟩ : ∃ b, w.heap.size = b := ⟨_, rfl⟩
  obtain ⟨A, hA⟩ : ∃ A, w.alloc (.cells #[iv (st : Int), .string ty, .string bo, .bool cl] 23) = A := ⟨_, rfl⟩
  have hB : Below w.heap.size w A := by rw [← hA]; exact below_al _ _
  have h2 : Blk A b 23 [iv (st : Int), .string ty, .string bo, .bool cl] := by rw [← hA, ← hb]; exact Blk.new w _ _
  have HA : Hid (Below w.heap.size w A ∧ Blk A b 23 [iv (st : Int), .string ty, .string bo, .bool cl] ∧ PT A) := ⟨hB, h2, hp.below hB⟩
  have HSZ : Hid (st ≤ 999 ∧ ty.size ≤ 64 ∧ bo.size ≤ 65536) := ⟨hst, hty, hbo⟩
  obtain ⟨d1, hd1⟩ : ∃ s : BA, s = ⟨(Lib.decDigits st).toArray⟩ := ⟨_, rfl⟩
  obtain ⟨rs, hrs⟩ : ∃ s, reasonS (st : Int) = s := ⟨_, rfl⟩
  obtain ⟨n, hn⟩ : ∃ n, bo.size = n := ⟨_, rfl⟩
  obtain ⟨d2, hd2⟩ : ∃ s : BA, s = ⟨(Lib.decDigits n).toArray⟩ := ⟨_, rfl⟩
  have HD : Hid (d1.data.toList = Lib.decDigits st ∧ reasonS (st : Int) = rs ∧ d2.data.toList = Lib.decDigits n ∧ bo.size = n ∧ n ≤ 65536) := ⟨by rw [hd1], hrs, by rw [hd2], hn, by omega⟩
  have HZ : Hid (d1.size ≤ 1000 ∧ rs.size ≤ 1000) := ⟨by rw [hd1]; exact dec_sz (by omega), by rw [← hrs]; exact reason_sz _⟩
  have HZ2 : Hid (d2.size ≤ 1000) := by show _ ≤ _; rw [hd2]; exact dec_sz (by omega)
  have HIT : Hid (∀ V, Below A.heap.size A V → Calls Tryd.prog 25 #[iv (st : Int)] V fun e V2 => e = .returned (.string d1) ∧ Below V.heap.size V V2) := fun V hV => by rw [hd1]; exact (dec_is st st (Nat.le_refl _) (by omega) V).mono (by rintro e W ⟨rfl, rfl⟩; exact ⟨rfl, Below.refl _ _⟩)
  have HRE : Hid (∀ V, Below A.heap.size A V → Calls Tryd.prog 11 #[iv (st : Int)] V fun e V2 => e = .returned (.string rs) ∧ Below V.heap.size V V2) := fun V hV => by rw [← hrs]; exact (rreason_is _ V).mono (by rintro e W ⟨rfl, rfl⟩; exact ⟨rfl, Below.refl _ _⟩)
  have HI2 : Hid (∀ V, PT V → Calls Tryd.prog 25 #[iv (n : Int)] V fun e V2 => e = .returned (.string d2) ∧ Below V.heap.size V V2) := fun V hV => by rw [hd2]; exact (dec_is n n (Nat.le_refl _) (by omega) V).mono (by rintro e W ⟨rfl, rfl⟩; exact ⟨rfl, Below.refl _ _⟩)
  have HL : Hid (b < A.heap.size) := h2.lt
  have c0 : A.cell? ⟨b, 0, none⟩ = some (iv (st : Int)) := h2.cell rfl
  have qn : (n : Int) ≤ 65536 := by omega
  clear hp hst hbo hB h2 hd1 hrs hd2
  go_enter Tryd.func17, Tryd.ntmps17
  go_wp2_with fail
  refine tx1 HL c0 HZ HIT HRE ?_
  intro V1 hb1
  obtain ⟨h1, hh1⟩ : ∃ s : BA, ((((⟨#[72, 84, 84, 80, 47, 49, 46, 49, 32]⟩ : BA) ++ d1) ++ (⟨#[32]⟩ : BA)) ++ rs) ++ (⟨#[13, 10]⟩ : BA) = s := ⟨_, rfl⟩
  rw [hh1]
  have HV1 : Hid (Below w.heap.size w V1 ∧ Blk V1 b 23 [iv (st : Int), .string ty, .string bo, .bool cl] ∧ PT V1) := ⟨below_tr HA.out.1 hb1, HA.out.2.1.below hb1 HA.out.2.1.lt, HA.out.2.2.below hb1⟩
  have z1 : h1.size ≤ 3000 := by rw [← hh1]; exact Nat.le_trans (sz_app (sz_app (sz_app (sz_app (show (⟨#[72, 84, 84, 80, 47, 49, 46, 49, 32]⟩ : BA).size ≤ 100 from by decide) HZ.out.1) (show (⟨#[32]⟩ : BA).size ≤ 100 from by decide)) HZ.out.2) (show (⟨#[13, 10]⟩ : BA).size ≤ 100 from by decide)) (by decide)
  have k1 : V1.cell? ⟨b, 1, none⟩ = some (.string ty) := HV1.out.2.1.cell rfl
  have k2 : V1.cell? ⟨b, 2, none⟩ = some (.string bo) := HV1.out.2.1.cell rfl
  have k3 : V1.cell? ⟨b, 3, none⟩ = some (.bool cl) := HV1.out.2.1.cell rfl
  clear hb hA hb1
  have HH1 : Hid (((((⟨#[72, 84, 84, 80, 47, 49, 46, 49, 32]⟩ : BA) ++ d1) ++ (⟨#[32]⟩ : BA)) ++ rs) ++ (⟨#[13, 10]⟩ : BA) = h1) := hh1
  clear hh1
  by_cases hne : ty.data.toList = []
  · have he : ty.toList.isEmpty = true := by rw [toList_d, hne]; rfl
    have HTY : Hid (ty.data.toList = []) := hne
    clear hne
    have HC := HI2.out V1 HV1.out.2.2
    go_wp2_with fail
    refine HC.mono ?_
    rintro e V2 ⟨rfl, hb2⟩
    obtain ⟨h2, hh2⟩ : ∃ s : BA, h1 = s := ⟨_, rfl⟩
    rw [hh2]
    have HH2 : Hid (h1 = h2) := hh2
    have z2 : h2.size ≤ 4000 := by rw [← hh2]; exact Nat.le_trans z1 (by decide)
    have HV2 : Hid (Below w.heap.size w V2 ∧ Blk V2 b 23 [iv (st : Int), .string ty, .string bo, .bool cl]) := ⟨below_tr HV1.out.1 hb2, HV1.out.2.1.below hb2 HV1.out.2.1.lt⟩
    have zd := HZ2.out
    have m3 : V2.cell? ⟨b, 3, none⟩ = some (.bool cl) := HV2.out.2.cell rfl
    have m2 : V2.cell? ⟨b, 2, none⟩ = some (.string bo) := HV2.out.2.cell rfl
    clear HC hb2 hh2 k1 k2 k3
    cases cl
    · have HE : Hid ((((((h2 ++ (⟨#[99, 111, 110, 116, 101, 110, 116, 45, 108, 101, 110, 103, 116, 104, 58, 32]⟩ : BA)) ++ d2) ++ (⟨#[13, 10]⟩ : BA)) ++ (⟨#[13, 10]⟩ : BA)) ++ bo).data.toList = headL st ty.data.toList bo.size false ++ bo.data.toList ∧ (((((h2 ++ (⟨#[99, 111, 110, 116, 101, 110, 116, 45, 108, 101, 110, 103, 116, 104, 58, 32]⟩ : BA)) ++ d2) ++ (⟨#[13, 10]⟩ : BA)) ++ (⟨#[13, 10]⟩ : BA)) ++ bo).size ≤ 90000) := by
        refine ⟨?_, ?_⟩
        · unfold headL
          rw [HD.out.2.2.2.1, HD.out.2.1, ← HD.out.1, ← HD.out.2.2.1, if_pos HTY.out]
          rw [← HH2.out, ← HH1.out]
          simp only [ByteArray.data_append, Array.toList_append, List.append_assoc, if_true, if_false, Bool.false_eq_true, List.nil_append]
        · have := HSZ.out
          have := HZ2.out
          have := z2
          simp only [ByteArray.size_append]
          have e1 : (⟨#[99, 111, 110, 116, 101, 110, 116, 45, 108, 101, 110, 103, 116, 104, 58, 32]⟩ : BA).size = 16 := rfl
          have e2 : (⟨#[13, 10]⟩ : BA).size = 2 := rfl
          have e3 : (⟨#[99, 111, 110, 110, 101, 99, 116, 105, 111, 110, 58, 32, 99, 108, 111, 115, 101, 13, 10]⟩ : BA).size = 19 := rfl
          omega
      go_wp2
      go_ret
      exact ⟨_, rfl, HE.out, HV2.out.1⟩
    · have HE : Hid (((((((h2 ++ (⟨#[99, 111, 110, 116, 101, 110, 116, 45, 108, 101, 110, 103, 116, 104, 58, 32]⟩ : BA)) ++ d2) ++ (⟨#[13, 10]⟩ : BA)) ++ (⟨#[99, 111, 110, 110, 101, 99, 116, 105, 111, 110, 58, 32, 99, 108, 111, 115, 101, 13, 10]⟩ : BA)) ++ (⟨#[13, 10]⟩ : BA)) ++ bo).data.toList = headL st ty.data.toList bo.size true ++ bo.data.toList ∧ ((((((h2 ++ (⟨#[99, 111, 110, 116, 101, 110, 116, 45, 108, 101, 110, 103, 116, 104, 58, 32]⟩ : BA)) ++ d2) ++ (⟨#[13, 10]⟩ : BA)) ++ (⟨#[99, 111, 110, 110, 101, 99, 116, 105, 111, 110, 58, 32, 99, 108, 111, 115, 101, 13, 10]⟩ : BA)) ++ (⟨#[13, 10]⟩ : BA)) ++ bo).size ≤ 90000) := by
        refine ⟨?_, ?_⟩
        · unfold headL
          rw [HD.out.2.2.2.1, HD.out.2.1, ← HD.out.1, ← HD.out.2.2.1, if_pos HTY.out]
          rw [← HH2.out, ← HH1.out]
          simp only [ByteArray.data_append, Array.toList_append, List.append_assoc, if_true, if_false, Bool.false_eq_true, List.nil_append]
        · have := HSZ.out
          have := HZ2.out
          have := z2
          simp only [ByteArray.size_append]
          have e1 : (⟨#[99, 111, 110, 116, 101, 110, 116, 45, 108, 101, 110, 103, 116, 104, 58, 32]⟩ : BA).size = 16 := rfl
          have e2 : (⟨#[13, 10]⟩ : BA).size = 2 := rfl
          have e3 : (⟨#[99, 111, 110, 110, 101, 99, 116, 105, 111, 110, 58, 32, 99, 108, 111, 115, 101, 13, 10]⟩ : BA).size = 19 := rfl
          omega
      go_wp2
      go_ret
      exact ⟨_, rfl, HE.out, HV2.out.1⟩
  · have he : ty.toList.isEmpty = false := by rw [toList_d]; simpa using hne
    have HTY : Hid (¬ ty.data.toList = []) := hne
    clear hne
    have HC := HI2.out V1 HV1.out.2.2
    go_wp2_with fail
    refine HC.mono ?_
    rintro e V2 ⟨rfl, hb2⟩
    obtain ⟨h2, hh2⟩ : ∃ s : BA, ((h1 ++ (⟨#[99, 111, 110, 116, 101, 110, 116, 45, 116, 121, 112, 101, 58, 32]⟩ : BA)) ++ ty) ++ (⟨#[13, 10]⟩ : BA) = s := ⟨_, rfl⟩
    rw [hh2]
    have HH2 : Hid (((h1 ++ (⟨#[99, 111, 110, 116, 101, 110, 116, 45, 116, 121, 112, 101, 58, 32]⟩ : BA)) ++ ty) ++ (⟨#[13, 10]⟩ : BA) = h2) := hh2
    have z2 : h2.size ≤ 4000 := by rw [← hh2]; simp only [ByteArray.size_append]; have e1 : (⟨#[99, 111, 110, 116, 101, 110, 116, 45, 116, 121, 112, 101, 58, 32]⟩ : BA).size = 14 := rfl; have e2 : (⟨#[13, 10]⟩ : BA).size = 2 := rfl; omega
    have HV2 : Hid (Below w.heap.size w V2 ∧ Blk V2 b 23 [iv (st : Int), .string ty, .string bo, .bool cl]) := ⟨below_tr HV1.out.1 hb2, HV1.out.2.1.below hb2 HV1.out.2.1.lt⟩
    have zd := HZ2.out
    have m3 : V2.cell? ⟨b, 3, none⟩ = some (.bool cl) := HV2.out.2.cell rfl
    have m2 : V2.cell? ⟨b, 2, none⟩ = some (.string bo) := HV2.out.2.cell rfl
    clear HC hb2 hh2 k1 k2 k3
    cases cl
    · have HE : Hid ((((((h2 ++ (⟨#[99, 111, 110, 116, 101, 110, 116, 45, 108, 101, 110, 103, 116, 104, 58, 32]⟩ : BA)) ++ d2) ++ (⟨#[13, 10]⟩ : BA)) ++ (⟨#[13, 10]⟩ : BA)) ++ bo).data.toList = headL st ty.data.toList bo.size false ++ bo.data.toList ∧ (((((h2 ++ (⟨#[99, 111, 110, 116, 101, 110, 116, 45, 108, 101, 110, 103, 116, 104, 58, 32]⟩ : BA)) ++ d2) ++ (⟨#[13, 10]⟩ : BA)) ++ (⟨#[13, 10]⟩ : BA)) ++ bo).size ≤ 90000) := by
        refine ⟨?_, ?_⟩
        · unfold headL
          rw [HD.out.2.2.2.1, HD.out.2.1, ← HD.out.1, ← HD.out.2.2.1, if_neg HTY.out]
          rw [← HH2.out, ← HH1.out]
          simp only [ByteArray.data_append, Array.toList_append, List.append_assoc, if_true, if_false, Bool.false_eq_true, List.nil_append]
        · have := HSZ.out
          have := HZ2.out
          have := z2
          simp only [ByteArray.size_append]
          have e1 : (⟨#[99, 111, 110, 116, 101, 110, 116, 45, 108, 101, 110, 103, 116, 104, 58, 32]⟩ : BA).size = 16 := rfl
          have e2 : (⟨#[13, 10]⟩ : BA).size = 2 := rfl
          have e3 : (⟨#[99, 111, 110, 110, 101, 99, 116, 105, 111, 110, 58, 32, 99, 108, 111, 115, 101, 13, 10]⟩ : BA).size = 19 := rfl
          omega
      go_wp2
      go_ret
      exact ⟨_, rfl, HE.out, HV2.out.1⟩
    · have HE : Hid (((((((h2 ++ (⟨#[99, 111, 110, 116, 101, 110, 116, 45, 108, 101, 110, 103, 116, 104, 58, 32]⟩ : BA)) ++ d2) ++ (⟨#[13, 10]⟩ : BA)) ++ (⟨#[99, 111, 110, 110, 101, 99, 116, 105, 111, 110, 58, 32, 99, 108, 111, 115, 101, 13, 10]⟩ : BA)) ++ (⟨#[13, 10]⟩ : BA)) ++ bo).data.toList = headL st ty.data.toList bo.size true ++ bo.data.toList ∧ ((((((h2 ++ (⟨#[99, 111, 110, 116, 101, 110, 116, 45, 108, 101, 110, 103, 116, 104, 58, 32]⟩ : BA)) ++ d2) ++ (⟨#[13, 10]⟩ : BA)) ++ (⟨#[99, 111, 110, 110, 101, 99, 116, 105, 111, 110, 58, 32, 99, 108, 111, 115, 101, 13, 10]⟩ : BA)) ++ (⟨#[13, 10]⟩ : BA)) ++ bo).size ≤ 90000) := by
        refine ⟨?_, ?_⟩
        · unfold headL
          rw [HD.out.2.2.2.1, HD.out.2.1, ← HD.out.1, ← HD.out.2.2.1, if_neg HTY.out]
          rw [← HH2.out, ← HH1.out]
          simp only [ByteArray.data_append, Array.toList_append, List.append_assoc, if_true, if_false, Bool.false_eq_true, List.nil_append]
        · have := HSZ.out
          have := HZ2.out
          have := z2
          simp only [ByteArray.size_append]
          have e1 : (⟨#[99, 111, 110, 116, 101, 110, 116, 45, 108, 101, 110, 103, 116, 104, 58, 32]⟩ : BA).size = 16 := rfl
          have e2 : (⟨#[13, 10]⟩ : BA).size = 2 := rfl
          have e3 : (⟨#[99, 111, 110, 110, 101, 99, 116, 105, 111, 110, 58, 32, 99, 108, 111, 115, 101, 13, 10]⟩ : BA).size = 19 := rfl
          omega
      go_wp2
      go_ret
      exact ⟨_, rfl, HE.out, HV2.out.1⟩
#print axioms text_is
end Go.Proofs.YtkpepfeiimphpaaDoor.Oct
