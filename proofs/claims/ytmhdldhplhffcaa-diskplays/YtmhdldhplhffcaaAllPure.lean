/-
  Layer 5 (disk): what the law DiskAll's calls make of a disk, on plain data.
-/
import Derived.Test.YtmhdldhplhffcaaWritten
import Derived.Test.YtmhdldhplhffcaaTells
namespace Go.Proofs.Ytmhdldhplhffcaa.Oct
open Go.RowKit

theorem write_ok {D : Disk} {i : Nat} {b : List UInt8} (h1 : D.down = false) (h2 : i < D.n) (h3 : b.length = 256) (h4 : D.out = false) : D.write (i : Int) b = (0, { D.spent with pend := D.pend ++ [(i, b)] }) := by
  unfold Disk.write
  rw [if_neg (by rw [h1]; simp), if_neg (by rw [h3]; intro h; rcases h with h | h; exact h ⟨by omega, by omega⟩; exact h rfl), if_neg (by rw [h4]; simp), Int.toNat_natCast]
theorem flush_ok {D : Disk} (h1 : D.down = false) (h4 : D.out = false) : D.flush = (0, { D.spent with sure := settled D.sure D.pend, pend := [] }) := by
  unfold Disk.flush
  rw [if_neg (by rw [h1]; simp), if_neg (by rw [h4]; simp)]
theorem arm_ok {D : Disk} {n : Nat} (h1 : D.down = false) : D.arm (n : Int) = (0, { D with plan := some n }) := by
  unfold Disk.arm
  rw [if_neg (by rw [h1]; simp), if_neg (by omega), Int.toNat_natCast]
theorem restart_none (D : Disk) : D.restart [] = (0, { D with pend := [], down := false, plan := none }) := by
  unfold Disk.restart
  rw [if_pos (by simp)]
  have : kept [] D.pend = [] := by simp [kept]
  rw [this]; rfl
/-- the places 0, 1, .. -/
def upTo (n : Nat) : List Int := (List.range n).map fun (i : Nat) => (i : Int)
theorem mem_upTo {n : Nat} {z : Int} : z ∈ upTo n ↔ 0 ≤ z ∧ z < n := by
  unfold upTo
  simp only [List.mem_map, List.mem_range]
  constructor
  · rintro ⟨i, hi, rfl⟩; omega
  · intro ⟨h1, h2⟩; exact ⟨z.toNat, by omega, by omega⟩
theorem upTo_succ (n : Nat) : upTo (n + 1) = upTo n ++ [(n : Int)] := by simp [upTo, List.range_succ]
theorem kept_upTo (l : List (Nat × List UInt8)) : kept (upTo l.length) l = l := by
  unfold kept
  rw [List.filter_eq_self.2 (fun x hx => by
    have := List.snd_lt_of_mem_zipIdx hx
    simp [mem_upTo]
    omega)]
  simp
theorem restart_all (D : Disk) : D.restart (upTo D.pend.length) = (0, { D with sure := settled D.sure D.pend, pend := [], down := false, plan := none }) := by
  unfold Disk.restart
  rw [if_pos (fun p hp => mem_upTo.1 hp), kept_upTo]

/-- the law's disk behind its three writes -/
structure Ready (D : Disk) : Prop where
  n : D.n = 4
  ops : D.ops < 1000
  up : D.down = false
  out : D.out = false
  plan : ∃ k, D.plan = some k ∧ 1000 < k

theorem ready_first {D : Disk} (hn : D.n = 4) (ho : D.ops ≤ 60) : ∃ D1 D2, D1 = (if D.down then (D.restart []).2 else D) ∧ D1.ops < 1000 ∧ D1.arm 1099511627776 = (0, D2) ∧ Ready D2 := by
  have e : (1099511627776 : Int) = ((1099511627776 : Nat) : Int) := rfl
  cases hd : D.down
  · refine ⟨D, { D with plan := some 1099511627776 }, by simp, by omega, by rw [e]; exact arm_ok hd, hn, by show D.ops < 1000; omega, hd, by simp [Disk.out], ⟨_, rfl, by omega⟩⟩
  · refine ⟨(D.restart []).2, { (D.restart []).2 with plan := some 1099511627776 }, by simp, by rw [restart_none]; show D.ops < 1000; omega, by rw [e]; exact arm_ok (by rw [restart_none]), by rw [restart_none]; exact hn, by rw [restart_none]; show D.ops < 1000; omega, by rw [restart_none], by simp [Disk.out], ⟨_, rfl, by omega⟩⟩
theorem Ready.write {D : Disk} (h : Ready D) (i : Nat) (hi : i < 4) (b : List UInt8) (hb : b.length = 256) (ho : D.ops < 900) (hk : ∃ k, D.plan = some k ∧ 2000 < k) : D.write (i : Int) b = (0, { D.spent with pend := D.pend ++ [(i, b)] }) ∧ Ready { D.spent with pend := D.pend ++ [(i, b)] } := by
  refine ⟨write_ok h.up (by rw [h.n]; exact hi) hb h.out, ?_⟩
  obtain ⟨k, hk1, hk2⟩ := hk
  refine ⟨h.n, by show D.ops + 1 < 1000; omega, h.up, ?_, ⟨k - 1, ?_, by omega⟩⟩
  · show (D.plan.map (· - 1) == some 0) = false
    rw [hk1]
    simp
    omega
  · show D.plan.map (· - 1) = some (k - 1)
    rw [hk1]; rfl

/-- the three writes, and what the law asks behind them -/
theorem all_story {D : Disk} (hn : D.n = 4) (ho : D.ops ≤ 60) : ∃ D1 D2 D3 D4 D5 D6 D7 D8 : Disk, D1 = (if D.down then (D.restart []).2 else D) ∧ D1.ops < 1000 ∧ D1.arm 1099511627776 = (0, D2) ∧
    D2.write 1 (onesOf 1) = (0, D3) ∧ D3.write 2 (onesOf 2) = (0, D4) ∧ D4.write 3 (onesOf 3) = (0, D5) ∧ D5.flush = (0, D6) ∧ D5.restart (upTo D5.pend.length) = (0, D7) ∧ D5.restart [] = (0, D8) ∧
    (D2.ops < 1000 ∧ D3.ops < 1000 ∧ D4.ops < 1000 ∧ D5.ops < 1000 ∧ D6.ops < 10000 ∧ D7.ops < 1000 ∧ D8.ops < 1000) ∧ (D5.n = 4 ∧ D6.n = 4 ∧ D7.n = 4 ∧ D8.n = 4) ∧
    (∀ i, D6.sure i = D7.sure i) ∧ (∀ i, D8.sure i = D5.sure i) ∧ D6.sure 1 = onesOf 1 ∧ D6.sure 2 = onesOf 2 ∧ D6.sure 3 = onesOf 3 := by
  obtain ⟨D1, D2, e1, o1, e2, r2⟩ := ready_first hn ho
  have p2 : D2.plan = some 1099511627776 ∧ D2.ops ≤ 60 := by
    have hd : D1.down = false := by
      rw [e1]
      cases hd : D.down
      · simpa using hd
      · simp [restart_none]
    have e : D1.arm 1099511627776 = (0, { D1 with plan := some 1099511627776 }) := arm_ok (n := 1099511627776) hd
    rw [e] at e2
    have : D2 = { D1 with plan := some 1099511627776 } := (Prod.mk.inj e2).2.symm
    rw [this]
    refine ⟨rfl, ?_⟩
    show D1.ops ≤ 60
    rw [e1]
    split
    · rw [restart_none]; exact ho
    · exact ho
  have w3 := r2.write 1 (by omega) (onesOf 1) (onesOf_length 1) (by omega) ⟨_, p2.1, by omega⟩
  obtain ⟨D3, e3⟩ : ∃ D3, D3 = { D2.spent with pend := D2.pend ++ [(1, onesOf 1)] } := ⟨_, rfl⟩
  rw [← e3] at w3
  have p3 : D3.plan = some 1099511627775 ∧ D3.ops ≤ 61 ∧ D3.sure = D2.sure ∧ D3.pend = D2.pend ++ [(1, onesOf 1)] := by
    rw [e3]; exact ⟨by show D2.plan.map (· - 1) = _; rw [p2.1]; rfl, by show D2.ops + 1 ≤ 61; omega, rfl, rfl⟩
  have w4 := w3.2.write 2 (by omega) (onesOf 2) (onesOf_length 2) (by omega) ⟨_, p3.1, by omega⟩
  obtain ⟨D4, e4⟩ : ∃ D4, D4 = { D3.spent with pend := D3.pend ++ [(2, onesOf 2)] } := ⟨_, rfl⟩
  rw [← e4] at w4
  have p4 : D4.plan = some 1099511627774 ∧ D4.ops ≤ 62 ∧ D4.sure = D2.sure ∧ D4.pend = D2.pend ++ [(1, onesOf 1)] ++ [(2, onesOf 2)] := by
    rw [e4]; exact ⟨by show D3.plan.map (· - 1) = _; rw [p3.1]; rfl, by show D3.ops + 1 ≤ 62; omega, p3.2.2.1, by show D3.pend ++ _ = _; rw [p3.2.2.2]⟩
  have w5 := w4.2.write 3 (by omega) (onesOf 3) (onesOf_length 3) (by omega) ⟨_, p4.1, by omega⟩
  obtain ⟨D5, e5⟩ : ∃ D5, D5 = { D4.spent with pend := D4.pend ++ [(3, onesOf 3)] } := ⟨_, rfl⟩
  rw [← e5] at w5
  have p5 : D5.ops ≤ 63 ∧ D5.sure = D2.sure ∧ D5.pend = D2.pend ++ [(1, onesOf 1)] ++ [(2, onesOf 2)] ++ [(3, onesOf 3)] := by
    rw [e5]; exact ⟨by show D4.ops + 1 ≤ 63; omega, p4.2.2.1, by show D4.pend ++ _ = _; rw [p4.2.2.2]⟩
  have hs : ∀ i, settled D5.sure D5.pend i = put (put (put (settled D2.sure D2.pend) (1, onesOf 1)) (2, onesOf 2)) (3, onesOf 3) i := fun i => by
    rw [p5.2.1, p5.2.2, settled_snoc, settled_snoc, settled_snoc]
  refine ⟨D1, D2, D3, D4, D5, _, _, _, e1, o1, e2, w3.1, w4.1, w5.1, flush_ok w5.2.up w5.2.out, restart_all D5, restart_none D5, ⟨r2.ops, w3.2.ops, w4.2.ops, w5.2.ops, ?_, ?_, ?_⟩, ⟨w5.2.n, w5.2.n, w5.2.n, w5.2.n⟩, fun i => rfl, fun i => rfl, ?_, ?_, ?_⟩
  · show D5.ops + 1 < 10000; omega
  · exact w5.2.ops
  · exact w5.2.ops
  · show settled D5.sure D5.pend 1 = _; rw [hs]; simp [put]
  · show settled D5.sure D5.pend 2 = _; rw [hs]; simp [put]
  · show settled D5.sure D5.pend 3 = _; rw [hs]; simp [put]
#print axioms all_story
end Go.Proofs.Ytmhdldhplhffcaa.Oct
