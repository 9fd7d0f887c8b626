/-
  Layer 5 (disk): what the law DiskSure's calls make of a disk, on plain data.
-/
import Derived.Test.YtebgemidemiapaaAllPure
namespace Go.Proofs.Ytebgemidemiapaa.Oct
open Go.RowKit

/-- the law's disk in its writes: no plan, the power is there, what is sure is what was sure, and a pending write is of a touched sector -/
structure SInv (B : Disk) (T : Nat → Bool) (t : Nat) (D : Disk) : Prop where
  n : D.n = 4
  up : D.down = false
  plan : D.plan = none
  ops : D.ops ≤ 100 + t
  sure : D.sure = B.sure
  touched : ∀ p ∈ D.pend, T p.1 = true

theorem SInv.out {B D : Disk} {T : Nat → Bool} {t : Nat} (h : SInv B T t D) : D.out = false := by
  unfold Disk.out
  rw [h.plan]
  rfl
/-- behind a restart with nothing and a flush -/
theorem sinv_first {D : Disk} (hn : D.n = 4) (ho : D.ops ≤ 60) : ∃ D1 D2, D.restart [] = (0, D1) ∧ D1.ops ≤ 60 ∧ D1.flush = (0, D2) ∧ SInv D2 (fun _ => false) 0 D2 := by
  refine ⟨_, _, restart_none D, ho, flush_ok rfl rfl, ?_⟩
  exact ⟨hn, rfl, rfl, by show D.ops + 1 ≤ 100 + 0; omega, rfl, fun p hp => by cases hp⟩
theorem SInv.write {B D : Disk} {T : Nat → Bool} {t : Nat} (h : SInv B T t D) (i : Nat) (hi : i < 4) (b : List UInt8) (hb : b.length = 256) :
    ∃ D', D.write (i : Int) b = (0, D') ∧ SInv B (fun k => T k || k == i) (t + 1) D' := by
  refine ⟨_, write_ok h.up (by rw [h.n]; exact hi) hb h.out, h.n, h.up, ?_, ?_, h.sure, fun p hp => ?_⟩
  · show D.plan.map (· - 1) = none
    rw [h.plan]
    rfl
  · show D.ops + 1 ≤ 100 + (t + 1)
    have := h.ops
    omega
  · have hp' : p ∈ D.pend ++ [(i, b)] := hp
    rcases List.mem_append.1 hp' with h1 | h1
    · simp [h.touched p h1]
    · have : p = (i, b) := by simpa using h1
      simp [this]
/-- behind the restart: every sector can be read, and one that was not touched is what it was -/
theorem SInv.restart {B D : Disk} {T : Nat → Bool} {t : Nat} (h : SInv B T t D) {l : List Int} (hl : ∀ p ∈ l, 0 ≤ p ∧ p < D.pend.length) :
    ∃ D', D.restart l = (0, D') ∧ D'.n = 4 ∧ D'.down = false ∧ D'.ops ≤ 100 + t ∧ D'.pend = [] ∧ ∀ i : Nat, i < 4 → D'.read (i : Int) = (D'.sure i, 0) ∧ (T i = false → D'.sure i = B.sure i) := by
  refine ⟨{ D with sure := settled D.sure (kept l D.pend), pend := [], down := false, plan := none }, by unfold Disk.restart; rw [if_pos hl], h.n, rfl, h.ops, rfl, fun i hi => ⟨?_, fun ht => ?_⟩⟩
  · unfold Disk.read
    rw [if_neg (by simp), if_neg (by show ¬ ¬ (0 ≤ (i : Int) ∧ (i : Int) < ((D.n : Nat) : Int)); rw [h.n]; omega), Int.toNat_natCast]
    rfl
  · show settled D.sure (kept l D.pend) i = B.sure i
    rw [settled_none _ i _ (fun x hx e => by
      have := h.touched x (kept_sub hx)
      rw [e, ht] at this
      cases this), h.sure]
#print axioms SInv.restart
end Go.Proofs.Ytebgemidemiapaa.Oct
