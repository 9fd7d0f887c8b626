/-
  Layer 2 (hash): what follows a message.
-/
import Derived.Test.YtjeahlfmapacfaaDoorBytes
namespace Go.Proofs.YtjeahlfmapacfaaDoor.Oct
open Go.RowKit Sha

/-- the cells behind so many bytes of the length -/
def endTo (n p i : Nat) : List Value := .int .u8 128 :: (noughts (p + (8 - i)) ++ U ((lenBytes n).drop (8 - i)))
theorem endTo_length (n p i : Nat) (h : i ≤ 8) : (endTo n p i).length = p + 9 := by
  simp [endTo, noughts, U, lenBytes]; omega
theorem endTo_last (n : Nat) : endTo n ((119 - n % 64) % 64) 8 = U (ending n) := by
  simp [endTo, ending, noughts, U]
theorem len_next (n i : Nat) (h : i < 8) : (lenBytes n).drop (8 - (i + 1)) = UInt8.ofNat (n * 8 / 2 ^ (8 * i)) :: (lenBytes n).drop (8 - i) := by
  match i, h with
  | 0, _ => simp [lenBytes]
  | 1, _ => simp [lenBytes]
  | 2, _ => simp [lenBytes]
  | 3, _ => simp [lenBytes]
  | 4, _ => simp [lenBytes]
  | 5, _ => simp [lenBytes]
  | 6, _ => simp [lenBytes]
  | 7, _ => simp [lenBytes]
theorem endTo_step (n p i : Nat) (h : i < 8) (v : Int) (hv : v = ((UInt8.ofNat (n * 8 / 2 ^ (8 * i))).toNat : Int)) : (endTo n p i).set (p + 8 - i) (.int .u8 v) = endTo n p (i + 1) := by
  unfold endTo
  rw [len_next n i h, hv, show p + 8 - i = (p + 7 - i) + 1 by omega, List.set_cons_succ, show p + (8 - i) = (p + 7 - i) + 1 by omega, show p + (8 - (i + 1)) = p + 7 - i by omega]
  congr 1
  rw [noughts, List.replicate_succ', List.append_assoc, List.set_append_right _ _ (by simp)]
  simp [U, noughts]
theorem endTo_zero (n p : Nat) : endTo n p 0 = (noughts (p + 9)).set 0 (.int .u8 128) := by
  simp [endTo, noughts, U, lenBytes, List.replicate_succ]
theorem endTo_cell (n p i : Nat) (h : i < 8) : (endTo n p i)[p + 8 - i]? = some (.int .u8 0) := by
  unfold endTo
  rw [show p + 8 - i = (p + 7 - i) + 1 by omega, List.getElem?_cons_succ, List.getElem?_append_left (by simp [noughts]; omega), noughts, List.getElem?_replicate, if_pos (by omega)]

theorem info5 : (Tryd.prog.info? 5).map (fun i => (i.zero, i.size, i.bytes)) = some (some (.int .u8 0), 1, 1) := by kernel_rfl
theorem size5 : (Tryd.prog.info? 5).map (·.size) = some 1 := by kernel_rfl

set_option maxHeartbeats 1000000 in
set_option maxRecDepth 100000 in
theorem ending_is (n : Nat) (hn : n < 1000000000000) (w : World) :
    Calls Tryd.prog 64 #[.int .u64 (n : Int)] w
      fun e w' => e = .returned (.slice (some ⟨w.heap.size, 0, none⟩) (ending n).length (ending n).length) ∧ Blk w' w.heap.size 5 (U (ending n)) ∧ Below w.heap.size w w' := by
  obtain ⟨p, hp⟩ : ∃ p, p = (119 - n % 64) % 64 := ⟨_, rfl⟩
  obtain ⟨m, hm⟩ : ∃ m, m = p + 9 := ⟨_, rfl⟩
  have HEL : Hid ((ending n).length = m) := by
    show _ = _
    rw [hm, hp]; simp [ending, lenBytes]
  have hp1 : (119 - (n : Int) % 64) % 64 = (p : Int) := by omega
  have hm1 : 1 + (p : Int) + 8 = (m : Int) := by omega
  have hm2 : m < 100 := by omega
  have hm3 : 9 ≤ m := by omega
  have HP : Hid (p = (119 - n % 64) % 64) := hp
  have HM : Hid (m = p + 9) := hm
  clear hp hm
  obtain ⟨i0, hi, hz0, hz1, hz2⟩ := info_parts info5
  go_enter Tryd.func64, Tryd.ntmps64
  go_wp2_with (at_make; refine wpList_make_two _ rfl _ _ 22 rfl 5 i0 Tryd.underlying22 hi hz0 hz1 hz2 _ _ _ _ m m rfl rfl (by omega) (by omega) (by omega) (by omega) ?_)
  intro w1 hrow1 _hsz1 hb1
  have HB1 : Hid (Blk w1 w.heap.size 5 (noughts m)) := hrow1.out
  have HW1 : Hid (Below w.heap.size w w1) := hb1
  have c0 : w1.cell? ⟨w.heap.size, 0, none⟩ = some (.int .u8 0) := by
    refine HB1.out.cell ?_
    rw [noughts, List.getElem?_replicate, if_pos (by omega)]
  have c1 : w1.frozen? ⟨w.heap.size, 0, none⟩ = false := HB1.out.free _
  clear hrow1 hb1 hp1 hm1
  go_wp2_with fail
  go_loopw [16] (fun i wr => ∃ t : Nat, i = .int .i64 t ∧ t ≤ 8 ∧ Hid (Blk wr w.heap.size 5 (endTo n p t)) ∧ Hid (Below w.heap.size w wr)) (fun i _ => 8 - (intOf i).toNat)
  case atStart =>
    refine ⟨0, rfl, by omega, ?_, ?_⟩
    · have e := HB1.out.set 0 (.int .u8 128)
      rw [HM.out, ← endTo_zero n p] at e
      exact e
    · exact HW1.out.setCell (by simp) _
  case round =>
    clear c0 c1
    obtain ⟨t, rfl, ht, hr, hbr⟩ := hrel
    by_cases hlt : t = 8
    · have q1 : (8 : Int) ≤ (t : Int) := by omega
      subst hlt
      go_wp2
      go_ret
      rw [HEL.out]
      refine ⟨rfl, ?_, hbr.out⟩
      have e := hr.out
      rw [HP.out, endTo_last] at e
      exact e
    · have q1 : (t : Int) < 8 := by omega
      have HT : Hid (t < 8) := by show t < 8; omega
      have c4 : wr.cell? ⟨w.heap.size, p + 8 - t, none⟩ = some (.int .u8 0) := hr.out.cell (endTo_cell n p t HT.out)
      have c5 : wr.frozen? ⟨w.heap.size, p + 8 - t, none⟩ = false := hr.out.free _
      have q2 : (0 : Int) ≤ (m : Int) - 1 - (t : Int) := by omega
      have q3 : (m : Int) - 1 - (t : Int) < (m : Int) := by omega
      have q4 : ((m : Int) - 1 - (t : Int)).toNat = p + 8 - t := by have := HM.out; omega
      have HV : Hid ((n : Int) * 8 / 2 ^ (8 * t) % 256 = ((UInt8.ofNat (n * 8 / 2 ^ (8 * t))).toNat : Int)) := by
        show _ = _
        rw [UInt8.toNat_ofNat']
        simp
      clear hlt
      go_wp2_with fail
      go_roundw
      case rel =>
        refine ⟨t + 1, by go_num, by omega, ?_, ?_⟩
        · have e := hr.out.set (p + 8 - t) (.int .u8 ((n : Int) * 8 / 2 ^ (8 * t) % 256))
          rw [endTo_step n p t HT.out _ HV.out] at e
          exact e
        · exact hbr.out.setCell (by simp) _
      case measure => simp [intOf]; omega

#print axioms ending_is
end Go.Proofs.YtjeahlfmapacfaaDoor.Oct
