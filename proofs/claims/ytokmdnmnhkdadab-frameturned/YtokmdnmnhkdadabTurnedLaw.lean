/-
  Layer 4 (frame): the law on a turned byte, walked.
-/
import Derived.Test.YtokmdnmnhkdadabTurned
namespace Go.Proofs.Ytokmdnmnhkdadab.Oct
open Go.RowKit

set_option maxHeartbeats 1000000 in
theorem turned (l : List UInt8) (a : Option Addr) (n cp : Nat) (k : Int) (c : UInt8) (w : World) (hl : In w a n cp l) :
    Calls Try.prog 5 #[.slice a n cp, .int .i64 k, .int .u8 (c.toNat : Int)] w fun e w' => e = .returned (.bool true) ∧ Below w.heap.size w w' := by
  have HL : Hid (In w a n cp l) := hl
  have HLL : Hid (l.length = n) := hl.1
  have b1 := hl.2.2.1
  have hc := c.toNat_lt
  clear hl
  by_cases hbig : 20000 < n
  · have q : (20000 : Int) < (n : Int) := by omega
    go_enter Try.func5, Try.ntmps5
    go_wp2_with (go_at_call 6; refine (lives_is w).mono ?_; rintro e w1 ⟨rfl, hw1⟩)
    go_ret
    exact ⟨rfl, hw1⟩
  have q : (n : Int) ≤ 20000 := by omega
  by_cases hc0 : c = 0
  · subst hc0
    go_enter Try.func5, Try.ntmps5
    go_wp2_with (go_at_call 6; refine (lives_is w).mono ?_; rintro e w1 ⟨rfl, hw1⟩)
    go_ret
    exact ⟨rfl, hw1⟩
  have HC : Hid (c ≠ 0) := hc0
  have hcn : ¬ (c.toNat : Int) = 0 := by intro h; exact hc0 (UInt8.toNat_inj.1 (show c.toNat = 0 by omega))
  have hcn2 : ¬ c.toNat = 0 := by omega
  have hcb : ((c.toNat : Int) == 0) = false := by simpa using hcn2
  have HN : Hid (n ≤ 20000) := by show n ≤ 20000; omega
  clear hbig b1 hc0
  go_enter Try.func5, Try.ntmps5
  go_wp2_with fail
  refine (frame_is l a n cp w HL.out (by have := HN.out; omega)).mono ?_
  rintro e w1 ⟨v1, rfl, ho1, hb1⟩
  have HB1 : Hid (Below w.heap.size w w1) := hb1
  have hFL : (frameOf l).length = n + 12 := by rw [frameOf_length, HLL.out]
  obtain ⟨ax, cx, rfl, -, hshx⟩ := own_in ho1 (by rw [hFL]; have := HN.out; omega)
  obtain ⟨g, rfl, hgB, hgl⟩ := hshx (by rw [hFL]; omega)
  rw [hFL] at ho1 ⊢
  have HX : Hid (Own 5 w.heap.size w1 (.slice (some ⟨g, 0, none⟩) (n + 12) cx) (frameOf l)) := ho1
  obtain ⟨M, hM⟩ : ∃ M, M = n + 12 := ⟨_, rfl⟩
  have HM : Hid (M = n + 12) := hM
  have HFL : Hid ((frameOf l).length = M) := by show _ = _; rw [hFL, hM]
  rw [← hM] at HX ⊢
  have r1 : 12 ≤ M := by omega
  have r2 : M ≤ 20012 := by omega
  have r3 : (12 : Int) ≤ (M : Int) := by omega
  have r4 : (M : Int) ≤ 20012 := by omega
  clear ho1 hb1 hshx hgB hgl hFL hM q
  have hwr : IntKind.u64.wrap k = k % 18446744073709551616 := IntKind.wrap_u64 k
  have hnn : 0 ≤ IntKind.u64.wrap k := by rw [hwr]; omega
  have htm : (IntKind.u64.wrap k).tmod (M : Int) = (IntKind.u64.wrap k) % (M : Int) := Int.tmod_eq_emod_of_nonneg hnn
  have hlo : 0 ≤ (IntKind.u64.wrap k) % (M : Int) := Int.emod_nonneg _ (by omega)
  have hhi : (IntKind.u64.wrap k) % (M : Int) < (M : Int) := Int.emod_lt_of_pos _ (by omega)
  obtain ⟨P, hP⟩ : ∃ P : Nat, (IntKind.u64.wrap k).tmod (M : Int) = (P : Int) := ⟨((IntKind.u64.wrap k) % (M : Int)).toNat, by rw [htm]; omega⟩
  have hPM : (P : Int) < (M : Int) := by omega
  clear hwr hnn htm hlo hhi
  have hPM' : P < M := by omega
  have HPM : Hid (P < M) := hPM'
  have htl : P < (frameOf l).length := by rw [HFL.out]; exact hPM'
  obtain ⟨c1, c2, hgB, hset⟩ := own_set HX.out HFL.out P htl
  obtain ⟨x, hx⟩ : ∃ x, x = (frameOf l)[P] := ⟨_, rfl⟩
  rw [← hx] at c1
  obtain ⟨z, hz⟩ : ∃ z, z = x ^^^ c := ⟨_, rfl⟩
  have hset1 := hset z
  have hxc := xor8_eq x c
  rw [← hz] at hxc
  have HNE : Hid (z ≠ (frameOf l).getD P 0) := by
    show _ ≠ _
    rw [hz, List.getD_eq_getElem?_getD, List.getElem?_eq_getElem htl, ← hx]
    exact xor_ne HC.out
  have HO2 : Hid (Own 5 w.heap.size (w1.setCell ⟨g, P, none⟩ (.int .u8 (z.toNat : Int))) (.slice (some ⟨g, 0, none⟩) M cx) ((frameOf l).set P z)) := hset1
  have HB2 : Hid (Below w.heap.size w (w1.setCell ⟨g, P, none⟩ (.int .u8 (z.toNat : Int)))) := HB1.out.setCell hgB _
  clear hset hset1 hx htl hgB hz
  go_wp2_with fail
  generalize w1.setCell ⟨g, P, none⟩ (.int .u8 (z.toNat : Int)) = w2 at *
  have hLS : ((frameOf l).set P z).length = M := by rw [List.length_set]; exact HFL.out
  have hIN : In w2 (some ⟨g, 0, none⟩) M cx ((frameOf l).set P z) := by
    have e := HO2.out
    rw [← hLS] at e ⊢
    exact e.toIn (by rw [hLS]; omega)
  have hbadness : Calls Try.prog 13 #[.slice (some ⟨g, 0, none⟩) M cx] w2 fun e w' => e = .returned (.tuple #[.slice none 0 0, .int .i64 0, .int .i64 40]) ∧ ∃ k, w' = w2.drewN k := by
    rcases turned_bad l (by rw [HLL.out]; have := HN.out; omega) P (by rw [HLL.out, ← HM.out]; exact HPM.out) z HNE.out with h | ⟨h1, h2, h3⟩
    · exact open_head _ g 0 M cx w2 hIN r1 h
    · rw [HLL.out] at h2 h3
      exact open_body _ g 0 M cx n w2 hIN HM.out (by have := HN.out; omega) h1 h2 h3
  refine (unframe_bad _ w2 hbadness).mono ?_
  rintro e w3 ⟨rfl, j, rfl⟩
  have HB3 : Hid (Below w.heap.size w (w2.drewN j)) := ⟨HB2.out.os, HB2.out.tape, HB2.out.output, HB2.out.size, HB2.out.block⟩
  clear hIN hbadness hLS
  generalize w2.drewN j = w3 at *
  go_wp2_with (go_at_call 6; refine (lives_is w3).mono ?_; rintro e w4 ⟨rfl, hw4⟩)
  go_ret
  exact ⟨rfl, HB3.out.trans (hw4.mono HB3.out.size)⟩
#print axioms turned
end Go.Proofs.Ytokmdnmnhkdadab.Oct
