/-
  Layer 1 (octet): the document's own Uint and Text tell what the plain functions 'dec' and 'txt' say.
-/
import Derived.Test.YtgdecjacbkicmaaQkD
import Derived.Test.YtgdecjacbkicmaaArgs
/- Layer 1 (octet): the document's own Uint and Text tell what the plain functions 'dec' and 'txt' say. -/
namespace Go.Proofs.Ytgdecjacbkicmaa.Oct
open Go.RowKit
set_option maxRecDepth 100000

/-- 'n = n + weight * uint64(b[i] % 128)', where it fits -/
theorem num_add {q c j W : Nat} (hW : W = 128 ^ j) (hq : q < W) (hj : j ≤ 9) (h9 : j = 9 → c ≤ 1) : q + W * (c % 128) < 18446744073709551616 := by
  subst hW
  by_cases e : j = 9
  · subst e
    have : c % 128 ≤ 1 := by have := h9 rfl; omega
    have := Nat.mul_le_mul_left (128 ^ 9) this
    omega
  · have h8 : (128 : Nat) ^ j ≤ 128 ^ 8 := Nat.pow_le_pow_right (by omega) (by omega)
    have : 128 ^ j * (c % 128) ≤ 128 ^ 8 * 127 := Nat.mul_le_mul h8 (by omega)
    omega

theorem wrap_add {q W c : Nat} (h : q + W * (c % 128) < 18446744073709551616) : IntKind.u64.wrap ((q : Int) + IntKind.u64.wrap ((W : Int) * ((c : Int) % 128))) = ((q + W * (c % 128) : Nat) : Int) := by
  have e : (W : Int) * ((c : Int) % 128) = ((W * (c % 128) : Nat) : Int) := by rw [Int.natCast_mul]; rfl
  rw [e, IntKind.wrap_u64, IntKind.wrap_u64]
  generalize W * (c % 128) = m at *
  omega
theorem wrap_128 {W : Nat} (h : W * 128 ≤ 9223372036854775808) : IntKind.u64.wrap ((W : Int) * 128) = ((W * 128 : Nat) : Int) := by
  rw [IntKind.wrap_u64]; omega

set_option maxHeartbeats 1000000 in
set_option maxRecDepth 100000 in
theorem refUint (a : Option Addr) (len cap : Nat) (l : List UInt8) (w : World) (hin : In w a len cap l) :
    Calls Try.prog 59 #[.slice a len cap] w fun e w' => e = .returned (.tuple #[.int .u64 ((dec l).1 : Int), .int .i64 ((dec l).2.1 : Int), .int .i64 ((dec l).2.2 : Int)]) ∧ w = w' := by
  have HIN : Hid (In w a len cap l) := hin
  have HLL : Hid (l.length = len) := hin.1
  have hlen := hin.2.2.1
  clear hin
  obtain ⟨D, hD⟩ : ∃ D, D = dec l := ⟨_, rfl⟩
  rw [← hD]
  have HD : Hid (D = dec l) := hD
  clear hD
  go_enter Try.func59, Try.ntmps59
  go_wp2_with fail
  go_loop [5, 6, 7] (fun nv wv i => ∃ j q W : Nat, i = .int .i64 j ∧ nv = .int .u64 (q : Int) ∧ wv = .int .u64 (W : Int) ∧ j ≤ 9 ∧ j ≤ len ∧ W ≤ 9223372036854775808 ∧ Hid (W = 128 ^ j ∧ q < W ∧ D = decF (10 - j) j q (l.drop (0 + j))))
    (fun _ _ i => 10 - (intOf i).toNat)
  case atStart => exact ⟨0, 0, 1, rfl, rfl, rfl, by omega, by omega, by omega, rfl, by omega, HD.out⟩
  case round =>
    obtain ⟨j, q, W, rfl, rfl, rfl, hj, hjl, hW, hr⟩ := hrel
    have hj10 : (j : Int) < 10 := by omega
    by_cases hend : j = len
    · have q1 : (len : Int) ≤ (j : Int) := by omega
      have HE : Hid (D = (0, 0, 10)) := by
        have e := hr.out.2.2
        rw [show 10 - j = (9 - j) + 1 by omega, List.drop_eq_nil_of_le (by have := HLL.out; omega), decF] at e
        exact e
      clear hend hr
      go_wp2
      go_ret3
      rw [HE.out]
      exact ⟨rfl, rfl⟩
    · have q1 : (j : Int) < (len : Int) := by omega
      have hlt : 0 + j < l.length := by have := HLL.out; omega
      obtain ⟨b, off, rfl, _, hcells⟩ := HIN.out.2.2.2.2 (by omega)
      obtain ⟨c, hc⟩ : ∃ c, c = l[0 + j].toNat := ⟨_, rfl⟩
      have hcell : w.cell? ⟨b, off + j, none⟩ = some (.int .u8 (c : Int)) := by
        rw [hc]; refine hcells j _ ?_; rw [List.getElem?_eq_getElem (by omega)]; simp
      have hcb : c < 256 := by rw [hc]; exact UInt8.toNat_lt _
      have HDA : Hid _ := dec_at hlt (by omega) hc hr.out.2.2
      have HW : Hid (W = 128 ^ j) := hr.out.1
      have HQ : Hid (q < W) := hr.out.2.1
      clear hcells hc hr hend hlt
      by_cases h9 : j = 9 ∧ 1 < c
      · have HE : Hid (D = (0, 0, 11)) := by have := HDA.out; rw [if_pos h9] at this; exact this
        have q3 : ((j : Int) == 9) = true := by rw [beq_iff_eq]; omega
        have q4 : (1 : Int) < (c : Int) := by omega
        clear h9 HDA
        go_wp2
        go_ret3
        rw [HE.out]
        exact ⟨rfl, rfl⟩
      · have hfit := num_add (c := c) HW.out HQ.out hj (by omega)
        have HFIT : Hid (q + W * (c % 128) < 18446744073709551616) := hfit
        have HN : Hid (IntKind.u64.wrap ((q : Int) + IntKind.u64.wrap ((W : Int) * ((c : Int) % 128))) = ((q + W * (c % 128) : Nat) : Int)) := wrap_add hfit
        clear hfit
        by_cases h128 : c < 128
        · have H9 : Hid (¬ (j = 9 ∧ 1 < c)) := h9
          have q5 : (c : Int) < 128 := by omega
          by_cases hz : c = 0 ∧ 0 < j
          · have HE : Hid (D = (0, 0, 11)) := by have := HDA.out; rw [if_neg h9, if_pos h128, if_pos hz] at this; exact this
            obtain ⟨rfl, hz2⟩ := hz
            have hq : (0 : Int) < (j : Int) := by omega
            clear h9 h128 HDA hz2 H9 q5 hcb
            by_cases hj9 : j = 9
            · have q3 : ((j : Int) == 9) = true := by rw [beq_iff_eq]; omega
              clear hj9
              go_wp2
              go_ret3
              rw [HE.out]
              exact ⟨rfl, rfl⟩
            · have q3 : ((j : Int) == 9) = false := by rw [beq_eq_false_iff_ne]; omega
              clear hj9
              go_wp2
              go_ret3
              rw [HE.out]
              exact ⟨rfl, rfl⟩
          · have HE : Hid (D = (q + W * (c % 128), j + 1, 0)) := by have := HDA.out; rw [if_neg h9, if_pos h128, if_neg hz, ← HW.out] at this; exact this
            have HZ : Hid (¬ (c = 0 ∧ 0 < j)) := hz
            by_cases hc0 : c = 0
            · have q6 : ((c : Int) == 0) = true := by rw [beq_iff_eq]; omega
              have q7 : (j : Int) ≤ 0 := by omega
              have q3 : ((j : Int) == 9) = false := by rw [beq_eq_false_iff_ne]; omega
              clear hz h9 h128 HDA H9 HZ hc0
              go_wp2
              go_ret3
              rw [HE.out]
              exact ⟨congrArg (fun z => Ending.returned (.tuple #[.int .u64 z, .int .i64 ((j : Int) + 1), .int .i64 0])) HN.out, rfl⟩
            · have q6 : ((c : Int) == 0) = false := by rw [beq_eq_false_iff_ne]; omega
              by_cases hj9 : j = 9
              · have q3 : ((j : Int) == 9) = true := by rw [beq_iff_eq]; omega
                have q7 : (c : Int) ≤ 1 := by omega
                clear hj9 hz h9 h128 HDA H9 hc0
                go_wp2
                go_ret3
                rw [HE.out]
                exact ⟨congrArg (fun z => Ending.returned (.tuple #[.int .u64 z, .int .i64 ((j : Int) + 1), .int .i64 0])) HN.out, rfl⟩
              · have q3 : ((j : Int) == 9) = false := by rw [beq_eq_false_iff_ne]; omega
                clear hj9 hz h9 h128 HDA H9 hc0
                go_wp2
                go_ret3
                rw [HE.out]
                exact ⟨congrArg (fun z => Ending.returned (.tuple #[.int .u64 z, .int .i64 ((j : Int) + 1), .int .i64 0])) HN.out, rfl⟩
        · have q5 : (128 : Int) ≤ (c : Int) := by omega
          have hj9 : j < 9 := by omega
          have q3 : ((j : Int) == 9) = false := by rw [beq_eq_false_iff_ne]; omega
          have HE : Hid (D = decF (10 - (j + 1)) (j + 1) (q + W * (c % 128)) (l.drop (0 + (j + 1)))) := by have := HDA.out; rw [if_neg h9, if_neg h128, ← HW.out] at this; exact this
          have hp : W * 128 = 128 ^ (j + 1) := by rw [HW.out, Nat.pow_succ]
          have hp9 : (128 : Nat) ^ (j + 1) ≤ 128 ^ 9 := Nat.pow_le_pow_right (by omega) (by omega)
          have HP : Hid (W * 128 = 128 ^ (j + 1)) := hp
          have HP9 : Hid (W * 128 ≤ 9223372036854775808) := by show _ ≤ _; rw [hp]; exact hp9
          clear h9 h128 HDA hp hp9
          go_wp2
          go_round
          case rel => exact ⟨j + 1, q + W * (c % 128), W * 128, by go_num, congrArg (Value.int IntKind.u64) HN.out, congrArg (Value.int IntKind.u64) (wrap_128 HP9.out), by omega, by omega, HP9.out, HP.out, by have := acc_lt (c := c) (j := j) (q := q) (by rw [← HW.out]; exact HQ.out); rw [← HW.out] at this; rw [HP.out]; exact this, HE.out⟩
          case measure => simp [intOf]; omega

/-- what is sliced off an argument's bytes, as a string -/
theorem string_mid {a : Option Addr} {len cap : Nat} {l : List UInt8} {w : World} (hin : In w a len cap l) (k n cp : Nat) (h : k + n ≤ len) (ao : Option Addr) (hao : ∀ b off, a = some ⟨b, off, none⟩ → 0 < n → ao = some ⟨b, off + k, none⟩) (hsome : ∃ x, ao = some x) :
    (convert 36 9 (.slice ao n cp)).run Try.prog w = .ok (.string ⟨((l.drop k).take n).toArray⟩) w := by
  obtain ⟨x, rfl⟩ := hsome
  have hl := hin.1
  have hlen : ((l.drop k).take n).length = n := by simp; omega
  have e := run_convert_bytes_back w 36 9 5 x cp ((l.drop k).take n) Try.underlying36 Try.underlying5 Try.underlying9 (fun j hj => by
    rw [hlen] at hj
    obtain ⟨b, off, e1, _, e3⟩ := hin.2.2.2.2 (by omega)
    have e4 := hao b off e1 (by omega)
    obtain rfl := Option.some.inj e4
    rw [Addr.add_lit, Nat.add_assoc, e3 (k + j) l[k + j] (List.getElem?_eq_getElem (by omega))]
    simp)
  rw [hlen] at e
  exact e

set_option maxHeartbeats 1000000 in
set_option maxRecDepth 100000 in
theorem refText (a : Option Addr) (len cap : Nat) (l : List UInt8) (most : Int) (hm0 : -9223372036854775808 ≤ most) (hm1 : most ≤ 9223372036854775807) (w : World) (hin : In w a len cap l) :
    Calls Try.prog 58 #[.slice a len cap, .int .i64 most] w fun e w' => e = .returned (.tuple #[.string ⟨(txt l most).1.toArray⟩, .int .i64 ((txt l most).2.1 : Int), .int .i64 ((txt l most).2.2 : Int)]) ∧ w = w' := by
  have HIN : Hid (In w a len cap l) := hin
  have HLL : Hid (l.length = len) := hin.1
  have hlen := hin.2.2.1
  have hcap := hin.2.1
  have hn := dec_lt l
  have hu := dec_used l
  rcases dec_err l with he | he | he
  · have hpos : 0 < len := by
      have := dec_form (l := l) (m := (dec l).1) (k := (dec l).2.1) (by rw [← he])
      have := HLL.out
      omega
    obtain ⟨b, off, rfl, hx1, hx2⟩ := hin.2.2.2.2 hpos
    clear hin hx1 hx2
    unfold txt
    rw [if_neg (by omega), HLL.out]
    rw [HLL.out] at hu
    generalize hD : dec l = D at *
    obtain ⟨n, s, e⟩ := D
    simp only at he hu hn ⊢
    subst he
    have HDD : Hid (dec l = (n, s, 0)) := hD
    have HS : Hid (∀ cp ao, s + n ≤ len → (0 < n → ao = some ⟨b, off + s, none⟩) → (∃ x, ao = some x) → (convert 36 9 (.slice ao n cp)).run Try.prog w = .ok (.string ⟨((l.drop s).take n).toArray⟩) w) := by
      intro cp ao h1 h2 h3
      refine string_mid HIN.out s n cp h1 ao ?_ h3
      intro b' off' e1 h4
      simp only [Option.some.injEq, Addr.mk.injEq] at e1
      obtain ⟨rfl, rfl, _⟩ := e1
      exact h2 h4
    clear hD
    by_cases hbig : most.toNat < n
    · rw [if_pos hbig]
      clear HS
      by_cases hneg : most < 0
      · have q1 : (0 : Int) < (n : Int) := by omega
        clear hbig
        go_enter Try.func58, Try.ntmps58
        go_wp2_with (go_at_call 59; refine (refUint _ _ _ _ _ HIN.out).mono ?_; rw [HDD.out]; rintro e w1 ⟨rfl, rfl⟩)
        go_ret3
        exact ⟨rfl, rfl⟩
      · have q0 : 0 ≤ most := by omega
        have q1 : most < (n : Int) := by omega
        clear hbig hneg
        go_enter Try.func58, Try.ntmps58
        go_wp2_with (go_at_call 59; refine (refUint _ _ _ _ _ HIN.out).mono ?_; rw [HDD.out]; rintro e w1 ⟨rfl, rfl⟩)
        go_ret3
        exact ⟨rfl, rfl⟩
    · rw [if_neg hbig]
      by_cases hshort : len - s < n
      · rw [if_pos hshort]
        have q0 : 0 ≤ most := by omega
        have q1 : (n : Int) ≤ most := by omega
        have q2 : (len : Int) - (s : Int) < (n : Int) := by omega
        clear hbig hshort HS
        go_enter Try.func58, Try.ntmps58
        go_wp2_with (go_at_call 59; refine (refUint _ _ _ _ _ HIN.out).mono ?_; rw [HDD.out]; rintro e w1 ⟨rfl, rfl⟩)
        go_ret3
        exact ⟨rfl, rfl⟩
      · rw [if_neg hshort]
        have q2 : (n : Int) ≤ (len : Int) - (s : Int) := by omega
        have q4 : (s : Int) + (n : Int) ≤ (cap : Int) := by omega
        by_cases hneg : most < 0
        · have q3 : (n : Int) ≤ 0 := by omega
          clear hbig hshort
          by_cases hcs : cap = s
          · obtain rfl : n = 0 := by omega
            have hstr := HS.out 0 (some ⟨b, off, none⟩) (by omega) (by omega) ⟨_, rfl⟩
            subst hcs
            go_enter Try.func58, Try.ntmps58
            go_wp2_with (go_at_call 59; refine (refUint _ _ _ _ _ HIN.out).mono ?_; rw [HDD.out]; rintro e w1 ⟨rfl, rfl⟩)
            go_ret3
            exact ⟨rfl, rfl⟩
          · have hstr := HS.out (cap - s) (some ⟨b, off + s, none⟩) (by omega) (fun _ => rfl) ⟨_, rfl⟩
            go_enter Try.func58, Try.ntmps58
            go_wp2_with (go_at_call 59; refine (refUint _ _ _ _ _ HIN.out).mono ?_; rw [HDD.out]; rintro e w1 ⟨rfl, rfl⟩)
            go_ret3
            exact ⟨rfl, rfl⟩
        · have q0 : 0 ≤ most := by omega
          have q1 : (n : Int) ≤ most := by omega
          clear hbig hshort hneg
          by_cases hcs : cap = s
          · obtain rfl : n = 0 := by omega
            have hstr := HS.out 0 (some ⟨b, off, none⟩) (by omega) (by omega) ⟨_, rfl⟩
            subst hcs
            go_enter Try.func58, Try.ntmps58
            go_wp2_with (go_at_call 59; refine (refUint _ _ _ _ _ HIN.out).mono ?_; rw [HDD.out]; rintro e w1 ⟨rfl, rfl⟩)
            go_ret3
            exact ⟨rfl, rfl⟩
          · have hstr := HS.out (cap - s) (some ⟨b, off + s, none⟩) (by omega) (fun _ => rfl) ⟨_, rfl⟩
            go_enter Try.func58, Try.ntmps58
            go_wp2_with (go_at_call 59; refine (refUint _ _ _ _ _ HIN.out).mono ?_; rw [HDD.out]; rintro e w1 ⟨rfl, rfl⟩)
            go_ret3
            exact ⟨rfl, rfl⟩
  · clear hin
    unfold txt
    rw [he, if_pos (by decide)]
    have HDD : Hid (dec l = (0, 0, 10)) := he
    clear he hn hu
    go_enter Try.func58, Try.ntmps58
    go_wp2_with (go_at_call 59; refine (refUint _ _ _ _ _ HIN.out).mono ?_; rw [HDD.out]; rintro e w1 ⟨rfl, rfl⟩)
    go_ret3
    exact ⟨rfl, rfl⟩
  · clear hin
    unfold txt
    rw [he, if_pos (by decide)]
    have HDD : Hid (dec l = (0, 0, 11)) := he
    clear he hn hu
    go_enter Try.func58, Try.ntmps58
    go_wp2_with (go_at_call 59; refine (refUint _ _ _ _ _ HIN.out).mono ?_; rw [HDD.out]; rintro e w1 ⟨rfl, rfl⟩)
    go_ret3
    exact ⟨rfl, rfl⟩

end Go.Proofs.Ytgdecjacbkicmaa.Oct
