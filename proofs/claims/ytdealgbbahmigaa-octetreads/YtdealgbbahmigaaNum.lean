/-
  Layer 1 (octet): a number is read as the document says.
-/
import Derived.Test.YtdealgbbahmigaaRead
namespace Go.Proofs.Ytdealgbbahmigaa.Oct
open Go.RowKit

theorem andNot128 : ∀ x : Fin 256, bits BinOp.andNot IntKind.u8 ((x.val : Nat) : Int) 128 = ((x.val % 128 : Nat) : Int) := by decide +kernel

/-- 'n |= uint64(c &^ 128) << (7 * i)' -/
theorem num_or {q c j : Nat} (hq : q < 128 ^ j) (hj : j ≤ 9) (hc : c < 256) (h9 : j = 9 → c ≤ 1) :
    bits BinOp.or IntKind.u64 (q : Int) (IntKind.u64.wrap (IntKind.u64.wrap (bits BinOp.andNot IntKind.u8 (c : Int) 128) * 2 ^ (7 * j))) = ((q + 128 ^ j * (c % 128) : Nat) : Int) := by
  have h1 := andNot128 ⟨c, hc⟩
  simp only at h1
  have hp : (128 : Nat) ^ j = 2 ^ (7 * j) := by rw [Nat.pow_mul]
  have hp9 : (128 : Nat) ^ j ≤ 128 ^ 9 := Nat.pow_le_pow_right (by omega) hj
  have hfit : 128 ^ j * (c % 128) < 18446744073709551616 := by
    by_cases e : j = 9
    · subst e
      have : c % 128 ≤ 1 := by have := h9 rfl; omega
      have := Nat.mul_le_mul_left (128 ^ 9) this
      omega
    · have h8 : (128 : Nat) ^ j ≤ 128 ^ 8 := Nat.pow_le_pow_right (by omega) (by omega)
      have : 128 ^ j * (c % 128) ≤ 128 ^ 8 * 128 := Nat.mul_le_mul h8 (by omega)
      omega
  rw [h1, IntKind.wrap_u64, IntKind.wrap_u64]
  have e1 : ((c % 128 : Nat) : Int) % 18446744073709551616 = ((c % 128 : Nat) : Int) := by omega
  have e2 : (2 : Int) ^ (7 * j) = ((128 ^ j : Nat) : Int) := by rw [hp]; simp
  rw [e1, e2, ← Int.natCast_mul, Nat.mul_comm]
  have e3 : ((128 ^ j * (c % 128) : Nat) : Int) % 18446744073709551616 = ((128 ^ j * (c % 128) : Nat) : Int) := by omega
  rw [e3, bits_or_u64_nat q _ (by omega) hfit]
  congr 1
  rw [hp] at hq
  rw [hp, Nat.or_comm, ← Nat.two_pow_add_eq_or_of_lt hq, Nat.add_comm]

/-- one step of reading -/
theorem dec_at {l : List UInt8} {k j q c : Nat} {D : Nat × Nat × Nat} (hlt : k + j < l.length) (hj : j < 10) (hc : c = l[k + j].toNat) (hD : D = decF (10 - j) j q (l.drop (k + j))) :
    D = if j = 9 ∧ 1 < c then (0, 0, 11) else if c < 128 then (if c = 0 ∧ 0 < j then (0, 0, 11) else (q + 128 ^ j * (c % 128), j + 1, 0)) else decF (10 - (j + 1)) (j + 1) (q + 128 ^ j * (c % 128)) (l.drop (k + (j + 1))) := by
  rw [show 10 - j = (10 - (j + 1)) + 1 by omega, List.drop_eq_getElem_cons hlt, decF, ← hc] at hD
  rw [hD, Nat.add_assoc]

theorem acc_lt {q c j : Nat} (hq : q < 128 ^ j) : q + 128 ^ j * (c % 128) < 128 ^ (j + 1) := by
  rw [Nat.pow_succ]
  have : 128 ^ j * (c % 128) ≤ 128 ^ j * 127 := Nat.mul_le_mul_left _ (by omega)
  omega

theorem ended_bad (n size : Int) (w : World) (h2 : 1 < size) :
    Calls Try.prog 30 #[.int .u64 n, .int .i64 size, .int .u8 0] w fun e w' => e = .returned (.tuple #[.int .u64 0, .int .i64 0, .int .i64 11]) ∧ w = w' := by
  go_enter Try.func30, Try.ntmps30
  go_wp2
  go_ret3
  exact ⟨rfl, rfl⟩

theorem ended_ok (n size c : Int) (w : World) (h : ¬ (c = 0 ∧ 1 < size)) :
    Calls Try.prog 30 #[.int .u64 n, .int .i64 size, .int .u8 c] w fun e w' => e = .returned (.tuple #[.int .u64 n, .int .i64 size, .int .i64 0]) ∧ w = w' := by
  by_cases h1 : c = 0
  · subst h1
    have h2 : size ≤ 1 := by omega
    clear h
    go_enter Try.func30, Try.ntmps30
    go_wp2
    go_ret3
    exact ⟨rfl, rfl⟩
  · clear h
    have hc : (c == 0) = false := by simp [h1]
    go_enter Try.func30, Try.ntmps30
    go_wp2
    go_ret3
    exact ⟨rfl, rfl⟩

set_option maxHeartbeats 1600000 in
set_option maxRecDepth 100000 in
theorem number_is {B r g cap k : Nat} {l : List UInt8} {w : World} (h : RdAt B w r g cap l k) : Calls Try.prog 26 #[.pointer (some ⟨r, 0, none⟩)] w fun e w' =>
    e = .returned (.tuple #[.int .u64 ((dec (l.drop k)).1 : Int), .int .i64 ((dec (l.drop k)).2.1 : Int), .int .i64 ((dec (l.drop k)).2.2 : Int)]) ∧ ∃ n, w' = w.drewN n := by
  have hk := h.at_
  have hl := h.len
  have hcap := h.capLe.1
  have H : Hid (RdAt B w r g cap l k) := h
  clear h
  obtain ⟨D, hD⟩ : ∃ D, D = dec (l.drop k) := ⟨_, rfl⟩
  rw [← hD]
  have HD : Hid (D = dec (l.drop k)) := hD
  clear hD
  go_enter Try.func26, Try.ntmps26
  go_wp2_with fail
  go_loopw [5, 8] (fun nv i wr => ∃ j q m : Nat, i = .int .i64 j ∧ nv = .int .u64 (q : Int) ∧ j ≤ 10 ∧ k + j ≤ l.length ∧ wr = w.drewN m ∧ Hid (q < 128 ^ j ∧ D = decF (10 - j) j q (l.drop (k + j))))
    (fun _ i _ => 10 - (intOf i).toNat)
  case atStart => exact ⟨0, 0, 0, rfl, rfl, by omega, by omega, rfl, by simp, HD.out⟩
  case round =>
    obtain ⟨j, q, m, rfl, rfl, hj, hkj, rfl, hr⟩ := hrel
    by_cases hj10 : j = 10
    · subst hj10
      go_wp2
      go_ret3
      refine ⟨?_, _, rfl⟩
      have e := hr.out.2
      simp only [Nat.sub_self, decF] at e
      rw [e]; rfl
    · have hj' : j < 10 := by omega
      by_cases hend : k + j = l.length
      · have q1 : ((j : Int) == (l.length : Int) - (k : Int)) = true := by rw [beq_iff_eq]; omega
        go_wp2_with (go_at_call 28; refine (left_is r k _ cap _ _ (H.out.drewN m).c0 (H.out.drewN m).c1 hk hl).mono ?_; rintro e w' ⟨rfl, n, rfl⟩)
        go_ret3
        refine ⟨?_, _, rfl⟩
        have e := hr.out.2
        rw [show 10 - j = (9 - j) + 1 by omega, List.drop_eq_nil_of_le (by omega), decF] at e
        rw [e]; rfl
      · have hlt : k + j < l.length := by omega
        obtain ⟨c, hc⟩ : ∃ c, c = l[k + j].toNat := ⟨_, rfl⟩
        have hcell : w.cell? ⟨g, k + j, none⟩ = some (.int .u8 (c : Int)) := by rw [hc]; exact H.out.byte _ hlt
        have hc0 := H.out.c0
        have hc1 := H.out.c1
        have hcb : c < 256 := by rw [hc]; exact UInt8.toNat_lt _
        have HC : Hid (c = l[k + j].toNat) := hc
        clear hc
        have q1 : ((j : Int) == (l.length : Int) - (k : Int)) = false := by rw [beq_eq_false_iff_ne]; omega
        have q2 : (k : Int) + (j : Int) < (l.length : Int) := by omega
        have HDA : Hid _ := dec_at hlt hj' HC.out hr.out.2
        have HQ : Hid (q < 128 ^ j) := hr.out.1
        clear hr
        by_cases h9 : j = 9 ∧ 1 < c
        · have HE : Hid (D = (0, 0, 11)) := by have := HDA.out; rw [if_pos h9] at this; exact this
          have q3 : ((j : Int) == 9) = true := by rw [beq_iff_eq]; omega
          have q4 : (1 : Int) < (c : Int) := by omega
          clear h9 HDA hend hj10
          go_wp2_with (go_at_call 28; refine (left_is r k _ cap _ _ (H.out.drewN m).c0 (H.out.drewN m).c1 hk hl).mono ?_; rintro e w' ⟨rfl, n, rfl⟩)
          go_quiet (fail)
          go_wp2_with fail
          go_ret3
          refine ⟨?_, _, rfl⟩
          rw [HE.out]; rfl
        · have HN : Hid (bits BinOp.or IntKind.u64 (q : Int) (IntKind.u64.wrap (IntKind.u64.wrap (bits BinOp.andNot IntKind.u8 (c : Int) 128) * 2 ^ (7 * j))) = ((q + 128 ^ j * (c % 128) : Nat) : Int)) :=
            num_or HQ.out (by omega) hcb (by omega)
          by_cases h128 : c < 128
          · have q4 : (c : Int) < 128 := by omega
            have H9 : Hid (¬ (j = 9 ∧ 1 < c)) := h9
            have H128 : Hid (c < 128) := h128
            by_cases hz : c = 0 ∧ 0 < j
            · have HE : Hid (D = (0, 0, 11)) := by have := HDA.out; rw [if_neg h9, if_pos h128, if_pos hz] at this; exact this
              obtain ⟨rfl, hz2⟩ := hz
              clear h9 h128 HDA hend hj10 H9 q4 H128 hcb
              have hq : (0 : Int) < (j : Int) := by omega
              clear hz2
              by_cases hj9 : j = 9
              · have q3 : ((j : Int) == 9) = true := by rw [beq_iff_eq]; omega
                clear hj9
                go_wp2_with (go_at_call 28; refine (left_is r k _ cap _ _ (H.out.drewN m).c0 (H.out.drewN m).c1 hk hl).mono ?_; rintro e w' ⟨rfl, n, rfl⟩)
                go_quiet (fail)
                go_wp2_with (go_at_call 30; refine (ended_bad _ _ _ (by omega)).mono ?_; rintro e w' ⟨rfl, rfl⟩)
                go_ret3
                refine ⟨?_, _, rfl⟩
                rw [HE.out]; rfl
              · have q3 : ((j : Int) == 9) = false := by rw [beq_eq_false_iff_ne]; omega
                clear hj9
                go_wp2_with (go_at_call 28; refine (left_is r k _ cap _ _ (H.out.drewN m).c0 (H.out.drewN m).c1 hk hl).mono ?_; rintro e w' ⟨rfl, n, rfl⟩)
                go_quiet (fail)
                go_wp2_with (go_at_call 30; refine (ended_bad _ _ _ (by omega)).mono ?_; rintro e w' ⟨rfl, rfl⟩)
                go_ret3
                refine ⟨?_, _, rfl⟩
                rw [HE.out]; rfl
            · have HE : Hid (D = (q + 128 ^ j * (c % 128), j + 1, 0)) := by have := HDA.out; rw [if_neg h9, if_pos h128, if_neg hz] at this; exact this
              have HZ : Hid (¬ (c = 0 ∧ 0 < j)) := hz
              by_cases hj9 : j = 9
              · have q3 : ((j : Int) == 9) = true := by rw [beq_iff_eq]; omega
                have q5 : (c : Int) ≤ 1 := by omega
                clear hj9 hz h9 h128 HDA hend hj10 q4
                have q4 : (c : Int) < 128 := by omega
                go_wp2_with (go_at_call 28; refine (left_is r k _ cap _ _ (H.out.drewN m).c0 (H.out.drewN m).c1 hk hl).mono ?_; rintro e w' ⟨rfl, n, rfl⟩)
                go_quiet (fail)
                go_wp2_with (go_at_call 30; refine (ended_ok _ _ _ _ (by have := HZ.out; omega)).mono ?_; rintro e w' ⟨rfl, rfl⟩)
                go_ret3
                refine ⟨?_, _, rfl⟩
                rw [HE.out]
                exact congrArg (fun z => Ending.returned (.tuple #[.int .u64 z, .int .i64 ((j : Int) + 1), .int .i64 0])) HN.out
              · have q3 : ((j : Int) == 9) = false := by rw [beq_eq_false_iff_ne]; omega
                clear hj9 hz h9 h128 HDA hend hj10
                go_wp2_with (go_at_call 28; refine (left_is r k _ cap _ _ (H.out.drewN m).c0 (H.out.drewN m).c1 hk hl).mono ?_; rintro e w' ⟨rfl, n, rfl⟩)
                go_quiet (fail)
                go_wp2_with (go_at_call 30; refine (ended_ok _ _ _ _ (by have := HZ.out; omega)).mono ?_; rintro e w' ⟨rfl, rfl⟩)
                go_ret3
                refine ⟨?_, _, rfl⟩
                rw [HE.out]
                exact congrArg (fun z => Ending.returned (.tuple #[.int .u64 z, .int .i64 ((j : Int) + 1), .int .i64 0])) HN.out
          · have q4 : (128 : Int) ≤ (c : Int) := by omega
            have hj9 : j < 9 := by omega
            have q3 : ((j : Int) == 9) = false := by rw [beq_eq_false_iff_ne]; omega
            have HE : Hid (D = decF (10 - (j + 1)) (j + 1) (q + 128 ^ j * (c % 128)) (l.drop (k + (j + 1)))) := by have := HDA.out; rw [if_neg h9, if_neg h128] at this; exact this
            clear h9 h128 HDA hend hj10 hj'
            go_wp2_with (go_at_call 28; refine (left_is r k _ cap _ _ (H.out.drewN m).c0 (H.out.drewN m).c1 hk hl).mono ?_; rintro e w' ⟨rfl, n, rfl⟩)
            go_quiet (fail)
            go_wp2_with fail
            go_roundw
            case rel => exact ⟨j + 1, q + 128 ^ j * (c % 128), _, by go_num, congrArg (Value.int IntKind.u64) HN.out, by omega, by omega, rfl, acc_lt HQ.out, HE.out⟩
            case measure => simp [intOf]; omega

#print axioms number_is
end Go.Proofs.Ytdealgbbahmigaa.Oct
