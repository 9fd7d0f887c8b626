/-
  Layer 5 (disk): the reference: does, Arm.
-/
import Derived.Test.YtmhdldhplhffcaaRefDisk
namespace Go.Proofs.Ytmhdldhplhffcaa.Oct
open Go.RowKit Go.Lib

section
variable {w : World} {r : Nat} {sv pv : Value} {D : Disk}
theorem RAt.c0 (h : RAt w r sv pv D) : w.cell? ⟨r, 0, none⟩ = some sv := h.blk.cell rfl
theorem RAt.c1 (h : RAt w r sv pv D) : w.cell? ⟨r, 1, none⟩ = some pv := h.blk.cell rfl
theorem RAt.c2 (h : RAt w r sv pv D) : w.cell? ⟨r, 2, none⟩ = some (.bool D.down) := h.blk.cell rfl
theorem RAt.c3 (h : RAt w r sv pv D) : w.cell? ⟨r, 3, none⟩ = some (.bool D.plan.isSome) := h.blk.cell rfl
theorem RAt.c4 (h : RAt w r sv pv D) : w.cell? ⟨r, 4, none⟩ = some (.int .i64 ((D.plan.getD 0 : Nat) : Int)) := h.blk.cell rfl
theorem RAt.c5 (h : RAt w r sv pv D) : w.cell? ⟨r, 5, none⟩ = some (.int .i64 (D.ops : Int)) := h.blk.cell rfl
/-- its own cells alone are others -/
theorem RAt.cells {D' : Disk} {w' : World} (h : RAt w r sv pv D) (hb : Blk w' r 68 (rc D' sv pv)) (hg : w.grownBy w' (some r)) (hn : D'.n = D.n) (hs : D'.sure = D.sure) (hp : D'.pend = D.pend) (ho : D.ops ≤ D'.ops) (hgd : Good D') : RAt w' r sv pv D' := by
  refine ⟨hb, ?_, ?_, hgd, by rw [hp]; have := h.room; omega⟩
  · rw [hn, hs]
    exact row_kept (S := fun k => k = r) (Keep.grown hg rfl) h.sure (fun g hg' e => blk_row_ne h.blk h.sure (by omega) (by rw [hg', e]))
  · rw [hp]
    exact row_kept (S := fun k => k = r) (Keep.grown hg rfl) h.pend (fun g hg' e => blk_row_ne h.blk h.pend (by omega) (by rw [hg', e]))

theorem rdoes_out (h : RAt w r sv pv D) (ho : D.out = true) :
    Calls Try.prog 46 #[.pointer (some ⟨r, 0, none⟩)] w fun e w' => e = .returned (.bool false) ∧ RAt w' r sv pv D.off ∧ w.grownBy w' (some r) := by
  have hp : D.plan = some 0 := by simpa [Disk.out] using ho
  have c2 := h.c2
  have c3 := h.c3
  have c4 := h.c4
  rw [hp] at c3 c4
  simp only [Option.isSome_some, Option.getD_some] at c3 c4
  have f2 := h.blk.free 2
  have HU : Hid (RAt w r sv pv D) := h
  clear h ho
  go_enter Try.func46, Try.ntmps46
  go_wp2
  go_ret
  have hg := grown_setCell w r 2 (.bool true)
  exact ⟨rfl, HU.out.cells (D' := D.off) (HU.out.blk.set 2 _) hg rfl rfl rfl (Nat.le_refl _) HU.out.good.off, hg⟩
theorem rdoes_on (h : RAt w r sv pv D) (hn : D.ops < 1000000000000) (ho : D.out = false) :
    Calls Try.prog 46 #[.pointer (some ⟨r, 0, none⟩)] w fun e w' => e = .returned (.bool true) ∧ RAt w' r sv pv D.spent ∧ w.grownBy w' (some r) := by
  have c3 := h.c3
  have c4 := h.c4
  have c5 := h.c5
  have f4 := h.blk.free 4
  have f5 := h.blk.free 5
  have HU : Hid (RAt w r sv pv D) := h
  have hw5 : IntKind.i64.wrap ((D.ops : Int) + 1) = (D.ops : Int) + 1 := wrapi (by omega) (by omega)
  clear h
  cases hp : D.plan with
  | none =>
    rw [hp] at c3 c4
    simp only [Option.isSome_none, Option.getD_none] at c3 c4
    have HP : Hid (D.plan = none) := hp
    clear hp ho
    go_enter Try.func46, Try.ntmps46
    go_wp2
    go_ret
    have hg := grown_setCell w r 5 (.int .i64 ((D.ops : Int) + 1))
    refine ⟨rfl, HU.out.cells (D' := D.spent) ?_ hg rfl rfl rfl (Nat.le_succ _) HU.out.good.spent, hg⟩
    have := HU.out.blk.set 5 (.int .i64 ((D.ops : Int) + 1))
    simpa [rc, Disk.spent, HP.out] using this
  | some k =>
    have hk : k ≠ 0 := fun e => by subst e; simp [Disk.out, hp] at ho
    have hk2 := HU.out.good.2.2.2.2 k hp
    rw [hp] at c3 c4
    simp only [Option.isSome_some, Option.getD_some] at c3 c4
    have q1 : ((k : Int) == 0) = false := by simp; omega
    have hw4 : IntKind.i64.wrap ((k : Int) - 1) = (k : Int) - 1 := wrapi (by omega) (by omega)
    have c5' : (w.setCell ⟨r, 4, none⟩ (.int .i64 ((k : Int) - 1))).cell? ⟨r, 5, none⟩ = some (.int .i64 (D.ops : Int)) := by rw [World.cell?_setCell_other _ _ _ _ (by simp)]; exact c5
    have f5' : (w.setCell ⟨r, 4, none⟩ (.int .i64 ((k : Int) - 1))).frozen? ⟨r, 5, none⟩ = false := (HU.out.blk.set 4 _).free 5
    have HP : Hid (D.plan = some k ∧ k ≠ 0) := ⟨hp, hk⟩
    clear hp ho hk hk2
    go_enter Try.func46, Try.ntmps46
    go_wp2
    go_ret
    have hg := grown_tr (grown_setCell w r 4 (.int .i64 ((k : Int) - 1))) (grown_setCell (w.setCell ⟨r, 4, none⟩ (.int .i64 ((k : Int) - 1))) r 5 (.int .i64 ((D.ops : Int) + 1)))
    refine ⟨rfl, HU.out.cells (D' := D.spent) ?_ hg rfl rfl rfl (Nat.le_succ _) HU.out.good.spent, hg⟩
    have := (HU.out.blk.set 4 (.int .i64 ((k : Int) - 1))).set 5 (.int .i64 ((D.ops : Int) + 1))
    have e : ((k - 1 : Nat) : Int) = (k : Int) - 1 := by have := HP.out.2; omega
    simpa [rc, Disk.spent, HP.out.1, e] using this
theorem rarm_is (h : RAt w r sv pv D) (n : Int) (hn : n ≤ 9223372036854775807) :
    Calls Try.prog 34 #[.pointer (some ⟨r, 0, none⟩), .int .i64 n] w fun e w' => e = .returned (.int .i64 (D.arm n).1) ∧ RAt w' r sv pv (D.arm n).2 ∧ w.grownBy w' (some r) := by
  have HU : Hid (RAt w r sv pv D) := h
  have c2 := h.c2
  have c3 := h.c3
  have c4 := h.c4
  have f3 := h.blk.free 3
  have hg := h.good.arm n hn
  have f4 : (w.setCell ⟨r, 3, none⟩ (.bool true)).frozen? ⟨r, 4, none⟩ = false := (h.blk.set 3 _).free 4
  have c4' : (w.setCell ⟨r, 3, none⟩ (.bool true)).cell? ⟨r, 4, none⟩ = some (.int .i64 ((D.plan.getD 0 : Nat) : Int)) := by rw [World.cell?_setCell_other _ _ _ _ (by simp)]; exact c4
  clear h
  unfold Disk.arm at hg ⊢
  cases hd : D.down
  · simp only [hd, Bool.false_eq_true, if_false] at hg c2 ⊢
    by_cases hn0 : n < 0
    · simp only [hn0, if_true] at hg ⊢
      go_enter Try.func34, Try.ntmps34
      go_wp2
      go_ret
      exact ⟨rfl, HU.out, World.grownBy.refl _ _⟩
    · simp only [hn0, if_false] at hg ⊢
      have HG : Hid (Good { D with plan := some n.toNat, down := false }) := hg
      have HN : Hid (0 ≤ n ∧ D.down = false) := ⟨by omega, hd⟩
      clear hg hn
      go_enter Try.func34, Try.ntmps34
      go_wp2
      go_ret
      have hg := grown_tr (grown_setCell w r 3 (.bool true)) (grown_setCell (w.setCell ⟨r, 3, none⟩ (.bool true)) r 4 (.int .i64 n))
      refine ⟨rfl, HU.out.cells (D' := { D with plan := some n.toNat, down := false }) ?_ hg rfl rfl rfl (Nat.le_refl _) HG.out, hg⟩
      have := (HU.out.blk.set 3 (.bool true)).set 4 (.int .i64 n)
      have e : ((n.toNat : Nat) : Int) = n := by have := HN.out.1; omega
      simpa [rc, e, HN.out.2] using this
  · simp only [hd, if_true] at hg c2 ⊢
    go_enter Try.func34, Try.ntmps34
    go_wp2
    go_ret
    exact ⟨rfl, HU.out, World.grownBy.refl _ _⟩
end
#print axioms rarm_is
end Go.Proofs.Ytmhdldhplhffcaa.Oct
