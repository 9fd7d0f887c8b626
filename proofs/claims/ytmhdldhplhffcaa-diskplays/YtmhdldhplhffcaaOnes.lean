/-
  Layer 5 (disk): a sector of one byte, as the laws make it.
-/
import Derived.Test.YtmhdldhplhffcaaClone
namespace Go.Proofs.Ytmhdldhplhffcaa.Oct
open Go.RowKit Go.Maps Go.Lib

def rep (c : UInt8) (t : Nat) : List UInt8 := List.replicate t c ++ List.replicate (256 - t) 0
def onesOf (c : UInt8) : List UInt8 := List.replicate 256 c
theorem rep_set (c : UInt8) (t : Nat) (ht : t < 256) : (U (rep c t)).set t (.int .u8 (c.toNat : Int)) = U (rep c (t + 1)) := by
  unfold rep U
  rw [← List.map_set, List.set_append_right _ _ (by simp)]
  congr 1
  rw [List.length_replicate, Nat.sub_self]
  obtain ⟨m, hm⟩ : ∃ m, 256 - t = m + 1 := ⟨255 - t, by omega⟩
  rw [hm, show 256 - (t + 1) = m by omega, List.replicate_succ, List.set_cons_zero, List.replicate_succ']
  simp
theorem rep_length (c : UInt8) (t : Nat) (ht : t ≤ 256) : (rep c t).length = 256 := by simp [rep]; omega
theorem rep_full (c : UInt8) : rep c 256 = onesOf c := by unfold rep onesOf; rw [Nat.sub_self, List.replicate_zero, List.append_nil]
theorem onesOf_length (c : UInt8) : (onesOf c).length = 256 := List.length_replicate ..
theorem noughts_U : noughts 256 = U (rep 0 0) := by
  unfold noughts U rep
  rw [List.replicate_zero, List.nil_append, List.map_replicate]
  rfl
theorem info5 : (Try.prog.info? 5).map (fun i => (i.zero, i.size, i.bytes)) = some (some (.int .u8 0), 1, 1) := by kernel_rfl
theorem rep_zero (c : UInt8) : rep c 0 = rep 0 0 := rfl

set_option maxHeartbeats 1000000 in
set_option maxRecDepth 100000 in
theorem ones_is (c : UInt8) (w : World) : Calls Try.prog 24 #[.int .u8 (c.toNat : Int)] w fun e w' => e = .returned (.slice (some ⟨w.heap.size, 0, none⟩) 256 256) ∧ Blk w' w.heap.size 5 (U (onesOf c)) ∧ Below w.heap.size w w' := by
  obtain ⟨i0, hi, hz0, hz1, hz2⟩ := info_parts info5
  go_enter Try.func24, Try.ntmps24
  go_wp2_with (refine wpList_make_two w rfl _ _ 30 rfl 5 i0 Try.underlying30 hi hz0 hz1 hz2 .i64 .i64 256 256 256 256 rfl rfl rfl rfl (by omega) (by omega) ?_; intro w1 hb1 hs1 hB1; have HB1 : Hid (Blk w1 w.heap.size 5 (U (rep c 0)) ∧ Below w.heap.size w w1) := ⟨(by unfold Blk; rw [rep_zero, ← noughts_U]; exact hb1.out), hB1⟩; clear hb1 hs1 hB1)
  go_loopw [8] (fun i wr => ∃ t : Nat, i = .int .i64 t ∧ t ≤ 256 ∧ Hid (Blk wr w.heap.size 5 (U (rep c t)) ∧ Below w.heap.size w wr)) (fun i _ => 256 - (intOf i).toNat)
  case atStart => exact ⟨0, rfl, by omega, HB1⟩
  case round =>
    obtain ⟨t, rfl, ht, hr⟩ := hrel
    by_cases hlt : t = 256
    · subst hlt
      go_wp2
      go_ret
      refine ⟨rfl, ?_, hr.out.2⟩
      have := hr.out.1
      rwa [rep_full] at this
    · have q1 : (t : Int) < 256 := by omega
      have HT : Hid (t < 256) := by show _ < _; omega
      have hw : IntKind.i64.wrap ((t : Int) + 1) = (t : Int) + 1 := wrapi (by omega) (by omega)
      have cc : ∃ v, wr.cell? ⟨w.heap.size, t, none⟩ = some v := ⟨_, hr.out.1.cell (List.getElem?_eq_getElem (by rw [U_length, rep_length c t ht]; omega))⟩
      obtain ⟨v, hv⟩ := cc
      have hf := hr.out.1.free t
      have HS : Hid (Blk (wr.setCell ⟨w.heap.size, t, none⟩ (.int .u8 (c.toNat : Int))) w.heap.size 5 (U (rep c (t + 1))) ∧ Below w.heap.size w (wr.setCell ⟨w.heap.size, t, none⟩ (.int .u8 (c.toNat : Int)))) := by
        refine ⟨by have := hr.out.1.set t (.int .u8 (c.toNat : Int)); rwa [rep_set c t HT.out] at this, hr.out.2.grown (grown_setCell wr w.heap.size t _) hr.out.2.size (by intro k hk; simp at hk; omega)⟩
      clear hlt ht
      go_wp2
      exact ⟨⟨t + 1, by simp, by have := HT.out; omega, HS⟩, by have := HT.out; simp only [intOf]; omega⟩
#print axioms ones_is
end Go.Proofs.Ytmhdldhplhffcaa.Oct
