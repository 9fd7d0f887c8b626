/-
  Layer 5 (disk): the calls that change a disk's own cells: spend, Arm, forget; a sector handed out; a write made sure.
-/
import Derived.Test.YtmhdldhplhffcaaSmall
import Derived.Deep.RegionHeldLaw
namespace Go.Proofs.Ytmhdldhplhffcaa.Oct
open Go.RowKit Go.Maps

section
variable {w w' : World} {d bs bl : Nat} {pv : Value} {nS nL : Nat} {DS DL : DataW Unit} {D D' : Disk}

theorem DkAt.d_bs (h : DkAt w d bs bl pv nS nL DS DL D) : d ≠ bs := fun e => by
  subst e
  obtain ⟨es, clock, hb, _⟩ := h.sure
  have := h.blk
  unfold Blk at this
  rw [this] at hb
  cases hb
theorem DkAt.d_bl (h : DkAt w d bs bl pv nS nL DS DL D) : d ≠ bl := fun e => by
  subst e
  obtain ⟨es, clock, hb, _⟩ := h.last
  have := h.blk
  unfold Blk at this
  rw [this] at hb
  cases hb
theorem DkAt.pv_ne (h : DkAt w d bs bl pv nS nL DS DL D) {g : Nat} (hg : pv.ownBlock = some g) : g ≠ d ∧ g ≠ bs ∧ g ≠ bl := by
  rcases h.row.2 with ⟨e, _⟩ | ⟨g', cap, cur, e, _, hb, _⟩
  · rw [e] at hg; cases hg
  · rw [e] at hg
    have : g' = g := by simpa [Value.ownBlock] using hg
    subst this
    refine ⟨fun e => ?_, fun e => ?_, fun e => ?_⟩
    · subst e
      have := h.blk
      unfold Blk at this
      rw [this] at hb
      simp at hb
    · subst e
      obtain ⟨es, clock, hb', _⟩ := h.sure
      rw [hb] at hb'; cases hb'
    · subst e
      obtain ⟨es, clock, hb', _⟩ := h.last
      rw [hb] at hb'; cases hb'

/-- the disk's own cells are written, no more -/
theorem DkAt.cells (h : DkAt w d bs bl pv nS nL DS DL D) (hb : Blk w' d 61 (dc D' bs pv bl)) (hg : w.grownBy w' (some d)) (hs : D'.sure = D.sure) (hp : D'.pend = D.pend) (ho : D.ops ≤ D'.ops) (hgood : Good D') : DkAt w' d bs bl pv nS nL DS DL D' := by
  refine ⟨hb, h.sure.kept hg (fun e => h.d_bs (by cases e; rfl)), h.last.kept hg (fun e => h.d_bl (by cases e; rfl)), by rw [hs]; exact h.looks, by rw [hp]; exact h.lasts, ?_, ?_, Nat.le_trans h.roomL ho, h.ne, hgood⟩
  · rw [hp]
    exact row_kept (Keep.grown (S := fun k => k = d) hg rfl) h.row (fun g hg' => (h.pv_ne hg').1)
  · rw [hp]; exact Nat.le_trans h.roomS ho
end

theorem wrapi {a : Int} (h1 : -9223372036854775808 ≤ a) (h2 : a ≤ 9223372036854775807) : IntKind.i64.wrap a = a := by rw [IntKind.wrap_i64]; omega

theorem spend0 (w : World) (d : Nat) (c4 : w.cell? ⟨d, 4, none⟩ = some (.int .i64 0)) (c5 : w.cell? ⟨d, 5, none⟩ = some (.bool false)) (f5 : w.frozen? ⟨d, 5, none⟩ = false) :
    Calls Try.prog 41 #[.pointer (some ⟨d, 0, none⟩)] w fun e w' => e = .returned (.int .i64 50) ∧ w' = w.setCell ⟨d, 5, none⟩ (.bool true) := by
  go_enter Try.func41, Try.ntmps41
  go_wp2
  go_ret
  exact ⟨rfl, rfl⟩
theorem spendN (w : World) (d : Nat) (n : Nat) (hn : n < 1000000000000) (c4 : w.cell? ⟨d, 4, none⟩ = some (.int .i64 (-1))) (c6 : w.cell? ⟨d, 6, none⟩ = some (.int .i64 (n : Int))) (f6 : w.frozen? ⟨d, 6, none⟩ = false) :
    Calls Try.prog 41 #[.pointer (some ⟨d, 0, none⟩)] w fun e w' => e = .returned (.int .i64 0) ∧ w' = w.setCell ⟨d, 6, none⟩ (.int .i64 ((n : Int) + 1)) := by
  have hw6 : IntKind.i64.wrap ((n : Int) + 1) = (n : Int) + 1 := wrapi (by omega) (by omega)
  go_enter Try.func41, Try.ntmps41
  go_wp2
  go_ret
  exact ⟨rfl, rfl⟩
theorem spendP (w : World) (d : Nat) (n : Nat) (hn : n < 1000000000000) (p : Int) (hp : 0 < p) (hp2 : p ≤ 9223372036854775807) (c4 : w.cell? ⟨d, 4, none⟩ = some (.int .i64 p)) (c6 : w.cell? ⟨d, 6, none⟩ = some (.int .i64 (n : Int))) (f4 : w.frozen? ⟨d, 4, none⟩ = false) (f6 : w.frozen? ⟨d, 6, none⟩ = false) :
    Calls Try.prog 41 #[.pointer (some ⟨d, 0, none⟩)] w fun e w' => e = .returned (.int .i64 0) ∧ w' = (w.setCell ⟨d, 4, none⟩ (.int .i64 (p - 1))).setCell ⟨d, 6, none⟩ (.int .i64 ((n : Int) + 1)) := by
  have hw6 : IntKind.i64.wrap ((n : Int) + 1) = (n : Int) + 1 := wrapi (by omega) (by omega)
  have hw4 : IntKind.i64.wrap (p - 1) = p - 1 := wrapi (by omega) (by omega)
  have c6' : (w.setCell ⟨d, 4, none⟩ (.int .i64 (p - 1))).cell? ⟨d, 6, none⟩ = some (.int .i64 (n : Int)) := by rw [World.cell?_setCell_other _ _ _ _ (by simp)]; exact c6
  go_enter Try.func41, Try.ntmps41
  go_wp2
  go_ret
  exact ⟨rfl, rfl⟩

theorem spend_out {w : World} {d bs bl : Nat} {pv : Value} {nS nL : Nat} {DS DL : DataW Unit} {D : Disk} (h : DkAt w d bs bl pv nS nL DS DL D) (hd : D.down = false) (ho : D.out = true) :
    Calls Try.prog 41 #[.pointer (some ⟨d, 0, none⟩)] w fun e w' => e = .returned (.int .i64 50) ∧ DkAt w' d bs bl pv nS nL DS DL D.off ∧ w.grownBy w' (some d) := by
  have hp : D.plan = some 0 := by simpa [Disk.out] using ho
  have c4 := h.c4
  have c5 := h.c5
  rw [hp] at c4
  rw [hd] at c5
  refine (spend0 w d c4 c5 (h.blk.free 5)).mono fun e w' ⟨he, hw⟩ => ⟨he, ?_⟩
  subst hw
  have hg := grown_setCell w d 5 (.bool true)
  exact ⟨h.cells (D' := D.off) (h.blk.set 5 _) hg rfl rfl (Nat.le_refl _) h.good.off, hg⟩
theorem spend_on {w : World} {d bs bl : Nat} {pv : Value} {nS nL : Nat} {DS DL : DataW Unit} {D : Disk} (h : DkAt w d bs bl pv nS nL DS DL D) (hn : D.ops < 1000000000000) (ho : D.out = false) :
    Calls Try.prog 41 #[.pointer (some ⟨d, 0, none⟩)] w fun e w' => e = .returned (.int .i64 0) ∧ DkAt w' d bs bl pv nS nL DS DL D.spent ∧ w.grownBy w' (some d) := by
  have c4 := h.c4
  have c6 := h.c6
  cases hp : D.plan with
  | none =>
    rw [hp] at c4
    refine (spendN w d D.ops hn c4 c6 (h.blk.free 6)).mono fun e w' ⟨he, hw⟩ => ⟨he, ?_⟩
    subst hw
    have hg := grown_setCell w d 6 (.int .i64 ((D.ops : Int) + 1))
    refine ⟨h.cells (D' := D.spent) ?_ hg rfl rfl (Nat.le_succ _) h.good.spent, hg⟩
    have := h.blk.set 6 (.int .i64 ((D.ops : Int) + 1))
    unfold dc at this
    rw [hp] at this
    simpa [dc, Disk.spent, hp] using this
  | some k =>
    have hk : k ≠ 0 := fun e => by subst e; simp [Disk.out, hp] at ho
    have hk2 := h.good.2.2.2.2 k hp
    rw [hp] at c4
    refine (spendP w d D.ops hn (k : Int) (by omega) (by omega) c4 c6 (h.blk.free 4) (h.blk.free 6)).mono fun e w' ⟨he, hw⟩ => ⟨he, ?_⟩
    subst hw
    have hg := grown_tr (grown_setCell w d 4 (.int .i64 ((k : Int) - 1))) (grown_setCell (w.setCell ⟨d, 4, none⟩ (.int .i64 ((k : Int) - 1))) d 6 (.int .i64 ((D.ops : Int) + 1)))
    refine ⟨h.cells (D' := D.spent) ?_ hg rfl rfl (Nat.le_succ _) h.good.spent, hg⟩
    have := (h.blk.set 4 (.int .i64 ((k : Int) - 1))).set 6 (.int .i64 ((D.ops : Int) + 1))
    have e : ((k - 1 : Nat) : Int) = (k : Int) - 1 := by omega
    simpa [dc, Disk.spent, hp, planI, e] using this

theorem arm_is {w : World} {d bs bl : Nat} {pv : Value} {nS nL : Nat} {DS DL : DataW Unit} {D : Disk} (h : DkAt w d bs bl pv nS nL DS DL D) (n : Int) (hn : n ≤ 9223372036854775807) :
    Calls Try.prog 23 #[.pointer (some ⟨d, 0, none⟩), .int .i64 n] w fun e w' => e = .returned (.int .i64 (D.arm n).1) ∧ DkAt w' d bs bl pv nS nL DS DL (D.arm n).2 ∧ w.grownBy w' (some d) := by
  have HU : Hid (DkAt w d bs bl pv nS nL DS DL D) := h
  have c4 := h.c4
  have f4 := h.blk.free 4
  have hg := h.good.arm n hn
  have hr := ready_is h
  clear h
  unfold Disk.arm at hg ⊢
  cases hd : D.down
  · simp only [hd, Bool.false_eq_true, if_false] at hg hr ⊢
    by_cases hn0 : n < 0
    · simp only [hn0, if_true] at hg ⊢
      go_enter Try.func23, Try.ntmps23
      go_wp2_with (go_at_call 40; refine hr.mono ?_; rintro e w1 ⟨rfl, rfl⟩)
      go_ret
      exact ⟨rfl, HU.out, World.grownBy.refl _ _⟩
    · simp only [hn0, if_false] at hg ⊢
      have HG : Hid (Good { D with plan := some n.toNat }) := hg
      clear hg
      go_enter Try.func23, Try.ntmps23
      go_wp2_with (go_at_call 40; refine hr.mono ?_; rintro e w1 ⟨rfl, rfl⟩)
      go_ret
      have hg := grown_setCell w d 4 (.int .i64 n)
      refine ⟨rfl, HU.out.cells ?_ hg rfl rfl (Nat.le_refl _) HG.out, hg⟩
      have := HU.out.blk.set 4 (.int .i64 n)
      have e : ((n.toNat : Nat) : Int) = n := by omega
      simpa [dc, planI, e, hd] using this
  · simp only [hd, if_true] at hg hr ⊢
    go_enter Try.func23, Try.ntmps23
    go_wp2_with (go_at_call 40; refine hr.mono ?_; rintro e w1 ⟨rfl, rfl⟩)
    go_ret
    exact ⟨rfl, HU.out, World.grownBy.refl _ _⟩

theorem row_nil (w : World) : w.ownsRow 0 75 257 (.slice none 0 0) ([] : List (Nat × List UInt8)).length (([] : List (Nat × List UInt8)).flatMap wc) := by
  refine ⟨?_, .inl ⟨rfl, rfl⟩⟩
  simp

theorem forget_is (w : World) (d bs bl : Nat) (pv : Value) (nL : Nat) (DL : DataW Unit) (D : Disk) (hB : Blk w d 61 (dc D bs pv bl)) (hL : w.ownsMap Try.prog 3 (plainElem Try.prog 3) bl nL DL) (hne : d ≠ bl) :
    Calls Try.prog 39 #[.pointer (some ⟨d, 0, none⟩)] w fun e w' => e = .returned (.tuple #[]) ∧ Blk w' d 61 (dc { D with pend := [] } bs (.slice none 0 0) bl) ∧ w'.ownsMap Try.prog 3 (plainElem Try.prog 3) bl 0 (.map [] : DataW Unit) ∧ Keep (fun k => k = d ∨ k = bl) w w' := by
  have HB : Hid (Blk w d 61 (dc D bs pv bl)) := hB
  have HN : Hid (d ≠ bl) := hne
  have f2 := hB.free 2
  have c2 : w.cell? ⟨d, 2, none⟩ = some pv := hB.cell rfl
  have hg1 := grown_setCell w d 2 (.slice none 0 0)
  have hm := hL.kept hg1 (fun e => hne (by cases e; rfl))
  have c3 : (w.setCell ⟨d, 2, none⟩ (.slice none 0 0)).cell? ⟨d, 3, none⟩ = some (.map (some bl)) := by rw [World.cell?_setCell_other _ _ _ _ (by simp)]; exact hB.cell rfl
  obtain ⟨w2, hrun, hm2, hg2⟩ := owns_clear hm (t := 59) (e := 3) Try.underlying59 0
  have HM2 : Hid (w2.ownsMap Try.prog 3 (plainElem Try.prog 3) bl 0 (.map [] : DataW Unit)) := hm2
  have HG : Hid ((w.setCell ⟨d, 2, none⟩ (.slice none 0 0)).grownBy w2 (some bl)) := hg2
  have HG1 : Hid (w.grownBy (w.setCell ⟨d, 2, none⟩ (.slice none 0 0)) (some d)) := hg1
  clear hB hL hne hm hm2 hg1 hg2
  go_enter Try.func39, Try.ntmps39
  go_wp2
  go_end0
  refine ⟨rfl, ?_, HM2.out, (Keep.grown HG1.out (.inl rfl)).trans (Keep.grown HG.out (S := fun k => k = bl) rfl) (fun j hj _ => .inr hj)⟩
  have := (HB.out.set 2 (.slice none 0 0)).kept HG.out (fun e => HN.out (by cases e; rfl))
  simpa [dc] using this
#print axioms spend_on
#print axioms arm_is
#print axioms forget_is
end Go.Proofs.Ytmhdldhplhffcaa.Oct
