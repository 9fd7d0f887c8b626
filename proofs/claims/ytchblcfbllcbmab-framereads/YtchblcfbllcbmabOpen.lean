/-
  Layer 4 (frame): 'number', 'isSum', 'open' where a sum is not right.
-/
import Derived.Test.YtchblcfbllcbmabInj
import Derived.Deep.RegionWith
import Derived.OwnWalk
import Derived.Deep.Draws
namespace Go.Proofs.Ytchblcfbllcbmab.Oct
open Go.RowKit

/-- the number that the first t bytes tell -/
def numTo (l : List UInt8) : Nat → Nat
  | 0 => 0
  | t + 1 => numTo l t * 256 + (l.getD t 0).toNat
theorem numTo_lt (l : List UInt8) : ∀ t, numTo l t < 256 ^ t
  | 0 => by simp [numTo]
  | t + 1 => by
    have h := numTo_lt l t
    have hc := (l.getD t 0).toNat_lt
    rw [numTo, Nat.pow_succ]; omega
theorem numTo_four (l : List UInt8) : numTo l 4 = num4 l := by simp only [numTo, num4]; omega
theorem or_add (n c : Nat) (hn : n < 16777216) (hc : c < 256) : bits BinOp.or IntKind.u32 ((n : Int) * 256) (c : Int) = ((n * 256 + c : Nat) : Int) := by
  rw [show (n : Int) * 256 = ((n * 256 : Nat) : Int) by simp, u32_or_nat _ _ (by omega) (by omega)]
  have e := Nat.shiftLeft_add_eq_or_of_lt (a := n) (b := c) (i := 8) (by omega)
  rw [Nat.shiftLeft_eq] at e
  rw [← e]

set_option maxHeartbeats 400000 in
theorem num_is (l : List UInt8) (a : Option Addr) (n cp : Nat) (w : World) (hl : In w a n cp l) (hn : 4 ≤ n) :
    Calls Try.prog 21 #[.slice a n cp] w fun e w' => e = .returned (.int .u32 (num4 l : Int)) ∧ w = w' := by
  have HL : Hid (In w a n cp l) := hl
  have HLL : Hid (l.length = n) := hl.1
  have b1 := hl.2.2.1
  clear hl
  go_enter Try.func21, Try.ntmps21
  go_wp2_with fail
  go_loopw [5, 3] (fun i v wr => ∃ t : Nat, i = .int .i64 t ∧ t ≤ 4 ∧ v = .int .u32 (numTo l t : Int) ∧ w = wr) (fun i _ _ => 4 - (intOf i).toNat)
  case atStart => exact ⟨0, rfl, by omega, rfl, rfl⟩
  case round =>
    obtain ⟨t, rfl, ht, rfl, rfl⟩ := hrel
    by_cases hlt : t = 4
    · have q1 : (4 : Int) ≤ (t : Int) := by omega
      subst hlt
      rw [numTo_four]
      go_wp2
      go_ret
      exact ⟨rfl, rfl⟩
    · have q1 : (t : Int) < 4 := by omega
      have HT : Hid (t < 4) := by show t < 4; omega
      obtain ⟨ba, oa, rfl, ha1, ha2⟩ := HL.out.2.2.2.2 (by omega)
      have htl : t < l.length := by rw [HLL.out]; omega
      obtain ⟨c, hc⟩ : ∃ c, c = l.getD t 0 := ⟨_, rfl⟩
      have c1 : w.cell? ⟨ba, oa + t, none⟩ = some (.int .u8 (c.toNat : Int)) := ha2 t _ (by rw [hc, List.getD_eq_getElem?_getD, List.getElem?_eq_getElem htl]; rfl)
      have hc2 : (c.toNat : Int) < 256 := by have := c.toNat_lt; omega
      have hlt2 : numTo l t < 16777216 := by
        have h := numTo_lt l t
        have : 256 ^ t ≤ 256 ^ 3 := Nat.pow_le_pow_right (by omega) (by have := HT.out; omega)
        omega
      have HNX : Hid (numTo l (t + 1) = numTo l t * 256 + c.toNat) := by show _ = _; rw [hc]; rfl
      generalize numTo l t = N at hlt2 HNX ⊢
      have hN : (N : Int) < 16777216 := by omega
      have hor := or_add N c.toNat hlt2 c.toNat_lt
      have q2 : (t : Int) < (n : Int) := by omega
      clear ha2 hlt hc htl
      go_wp2
      refine ⟨⟨t + 1, by simp, HT.out, ?_, trivial⟩, ?_⟩
      · rw [HNX.out, Int.natCast_add, Int.natCast_mul]; rfl
      · have := HT.out
        simp only [intOf]
        omega

theorem isSum_is (l r : List UInt8) (a b : Option Addr) (n m cp cq : Nat) (w : World) (hl : In w a n cp l) (hr : In w b m cq r) (hm : 4 ≤ m) :
    Calls Try.prog 20 #[.slice a n cp, .slice b m cq] w fun e w' => e = .returned (.bool (decide ((crc l).toNat = num4 r))) ∧ w = w' := by
  have HL : Hid (In w a n cp l) := hl
  have HR : Hid (In w b m cq r) := hr
  have HM : Hid (4 ≤ m) := hm
  clear hl hr hm
  go_enter Try.func20, Try.ntmps20
  go_wp2_with (first
    | (go_at_call 12; refine (sum_is l a n cp w HL.out).mono ?_; rintro e w1 ⟨rfl, rfl⟩)
    | (go_at_call 21; refine (num_is r b m cq w HR.out HM.out).mono ?_; rintro e w1 ⟨rfl, rfl⟩))
  go_ret
  refine ⟨?_, rfl⟩
  congr 1
  show Value.bool (((crc l).toNat : Int) == (num4 r : Int)) = _
  congr 1
  show (((crc l).toNat : Int) == (num4 r : Int)) = _
  rw [Bool.eq_iff_iff, beq_iff_eq, decide_eq_true_iff]
  omega
theorem In.drewN {w : World} {a : Option Addr} {n cp : Nat} {l : List UInt8} (h : In w a n cp l) (k : Nat) : In (w.drewN k) a n cp l := h
/-- a piece of bytes that came in -/
theorem In.piece {w : World} {b off n cp : Nat} {l : List UInt8} (h : In w (some ⟨b, off, none⟩) n cp l) (s e : Nat) (hse : s ≤ e) (hen : e ≤ n) : In w (some ⟨b, off + s, none⟩) (e - s) (cp - s) ((l.take e).drop s) := by
  obtain ⟨h1, h2, h3, h4, h5⟩ := h
  refine ⟨by rw [List.length_drop, List.length_take]; omega, by omega, by omega, by simp, fun hp => ?_⟩
  obtain ⟨b', off', e1, e2, e3⟩ := h5 (by omega)
  simp only [Option.some.injEq, Addr.mk.injEq, and_true] at e1
  obtain ⟨rfl, rfl⟩ := e1
  refine ⟨b, off + s, rfl, e2, fun i c hc => ?_⟩
  rw [List.getElem?_drop, List.getElem?_take] at hc
  split at hc
  · rw [Nat.add_assoc]; exact e3 _ _ hc
  · cases hc

set_option maxHeartbeats 400000 in
/-- the number of bytes has not its sum -/
theorem open_head (l : List UInt8) (b off n cp : Nat) (w : World) (hl : In w (some ⟨b, off, none⟩) n cp l) (hn : 12 ≤ n) (hbad : (crc (l.take 4)).toNat ≠ num4 (l.drop 4)) :
    Calls Try.prog 13 #[.slice (some ⟨b, off, none⟩) n cp] w fun e w' => e = .returned (.tuple #[.slice none 0 0, .int .i64 0, .int .i64 40]) ∧ ∃ k, w' = w.drewN k := by
  have b1 := hl.2.2.1
  have b2 := hl.2.1
  have HBAD : Hid ((crc (l.take 4)).toNat ≠ num4 (l.drop 4)) := hbad
  have HP1 : Hid (In w (some ⟨b, off, none⟩) 4 cp (l.take 4)) := by show In _ _ _ _ _; have e := hl.piece 0 4 (by omega) (by omega); simpa using e
  have HP2 : Hid (In w (some ⟨b, off + 4, none⟩) (n - 4) (cp - 4) (l.drop 4)) := by
    have e := hl.piece 4 n (by omega) (by omega)
    rw [List.take_of_length_le (by rw [hl.1]; exact Nat.le_refl _)] at e
    exact e
  have q1 : (12 : Int) ≤ (n : Int) := by omega
  have q2 : (12 : Int) ≤ (cp : Int) := by omega
  have q3 : ¬ cp = 4 := by omega
  have q4 : 4 ≤ cp := by omega
  have q5 : 4 ≤ n := by omega
  have q6 : 8 ≤ n := by omega
  have HM : Hid (4 ≤ n - 4) := by show 4 ≤ n - 4; omega
  clear hl hbad
  go_enter Try.func13, Try.ntmps13
  go_wp2_with fail
  go_region_with (go_at_call 20; refine (isSum_is _ _ _ _ _ _ _ _ _ (show In w.drew _ _ _ _ from HP1.out) (show In w.drew _ _ _ _ from HP2.out) HM.out).mono ?_; rintro e w1 ⟨rfl, rfl⟩; rw [decide_eq_false HBAD.out])
  all_goals go_wp2
  all_goals go_ret3
  all_goals exact ⟨rfl, 1, rfl⟩

set_option maxHeartbeats 400000 in
/-- the bytes have not their sum -/
theorem open_body (l : List UInt8) (b off n cp m : Nat) (w : World) (hl : In w (some ⟨b, off, none⟩) n cp l) (hn : n = m + 12) (hm : m ≤ 65536) (hok : (crc (l.take 4)).toNat = num4 (l.drop 4)) (hnum : num4 l = m)
    (hbad : (crc ((l.take (m + 8)).drop 8)).toNat ≠ num4 (l.drop (m + 8))) :
    Calls Try.prog 13 #[.slice (some ⟨b, off, none⟩) n cp] w fun e w' => e = .returned (.tuple #[.slice none 0 0, .int .i64 0, .int .i64 40]) ∧ ∃ k, w' = w.drewN k := by
  have b1 := hl.2.2.1
  have b2 := hl.2.1
  have HL : Hid (In w (some ⟨b, off, none⟩) n cp l) := hl
  have HOK : Hid ((crc (l.take 4)).toNat = num4 (l.drop 4)) := hok
  have HBAD : Hid ((crc ((l.take (m + 8)).drop 8)).toNat ≠ num4 (l.drop (m + 8))) := hbad
  have HNUM : Hid (num4 l = m) := hnum
  have HP1 : Hid (In w (some ⟨b, off, none⟩) 4 cp (l.take 4)) := by show In _ _ _ _ _; have e := hl.piece 0 4 (by omega) (by omega); simpa using e
  have HP2 : Hid (In w (some ⟨b, off + 4, none⟩) (n - 4) (cp - 4) (l.drop 4)) := by
    have e := hl.piece 4 n (by omega) (by omega)
    rw [List.take_of_length_le (by rw [hl.1]; exact Nat.le_refl _)] at e
    exact e
  have HP3 : Hid (In w (some ⟨b, off + 8, none⟩) m (cp - 8) ((l.take (m + 8)).drop 8)) := by
    have e := hl.piece 8 (m + 8) (by omega) (by omega)
    rw [show m + 8 - 8 = m by omega] at e
    exact e
  have HP4 : Hid (In w (some ⟨b, off + (m + 8), none⟩) (n - (m + 8)) (cp - (m + 8)) (l.drop (m + 8))) := by
    have e := hl.piece (m + 8) n (by omega) (by omega)
    rw [List.take_of_length_le (by rw [hl.1]; exact Nat.le_refl _)] at e
    exact e
  have q1 : (12 : Int) ≤ (n : Int) := by omega
  have q2 : (12 : Int) ≤ (cp : Int) := by omega
  have q3 : ¬ cp = 4 := by omega
  have q4 : 4 ≤ cp := by omega
  have q5 : 4 ≤ n := by omega
  have q6 : 8 ≤ n := by omega
  have q7 : (m : Int) ≤ 65536 := by omega
  have q8 : (m : Int) + 12 ≤ (n : Int) := by omega
  have q9 : ¬ cp = 8 := by omega
  have q10 : ¬ cp = m + 8 := by omega
  have q11 : (m : Int) + 8 ≤ (cp : Int) := by omega
  have q12 : (m : Int) + 12 ≤ (cp : Int) := by omega
  have q13 : ((m : Int) + 8).toNat = m + 8 := by omega
  have HM : Hid (4 ≤ n - 4) := by show 4 ≤ n - 4; omega
  have HM4 : Hid (4 ≤ n - (m + 8)) := by show 4 ≤ n - (m + 8); omega
  have HN4 : Hid (4 ≤ n) := q5
  clear hl hbad hok hnum hn
  go_enter Try.func13, Try.ntmps13
  go_wp2_with fail
  go_region_with (go_at_call 20; refine (isSum_is _ _ _ _ _ _ _ _ _ (show In w.drew _ _ _ _ from HP1.out) (show In w.drew _ _ _ _ from HP2.out) HM.out).mono ?_; rintro e w1 ⟨rfl, rfl⟩; rw [decide_eq_true HOK.out])
  all_goals go_wp2_with fail
  all_goals refine (num_is l _ n cp _ (In.drewN HL.out 1) HN4.out).mono ?_
  all_goals rintro e w1 ⟨rfl, rfl⟩
  all_goals rw [HNUM.out]
  all_goals go_wp2_with fail
  all_goals refine (isSum_is _ _ _ _ m _ (cp - 8) _ _ (In.drewN HP3.out 1) (In.drewN HP4.out 1) HM4.out).mono ?_
  all_goals rintro e w1 ⟨rfl, rfl⟩
  all_goals rw [decide_eq_false HBAD.out]
  all_goals go_wp2
  all_goals go_ret3
  all_goals exact ⟨rfl, 1, rfl⟩

#print axioms open_body
end Go.Proofs.Ytchblcfbllcbmab.Oct
