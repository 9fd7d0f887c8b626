/-
  Layer 5 (disk): the calls that only look at a disk's own cells, of one that was made and of one that no call made.
-/
import Derived.Test.YtmhdldhplhffcaaRel
namespace Go.Proofs.Ytmhdldhplhffcaa.Oct
open Go.RowKit Go.Maps

/-- a disk that no call made -/
def Un (w : World) (p : Option Addr) : Prop := p = none ∨ ∃ d, p = some ⟨d, 0, none⟩ ∧ d < w.heap.size ∧ w.cell? ⟨d, 0, none⟩ = some (.int .i64 0)
theorem Un.below {w w' : World} {p : Option Addr} (h : Un w p) (hb : Below w.heap.size w w') : Un w' p := by
  rcases h with rfl | ⟨d, rfl, h1, h2⟩
  · exact .inl rfl
  · exact .inr ⟨d, rfl, Nat.lt_of_lt_of_le h1 hb.size, (hb.cell (p := ⟨d, 0, none⟩) h1).trans h2⟩

theorem isMade_un (w : World) (p : Option Addr) (h : Un w p) : Calls Try.prog 28 #[.pointer p] w fun e w' => e = .returned (.bool false) ∧ w = w' := by
  rcases h with rfl | ⟨d, rfl, _, h2⟩
  · go_enter Try.func28, Try.ntmps28
    go_wp2
    go_ret
    exact ⟨rfl, rfl⟩
  · go_enter Try.func28, Try.ntmps28
    go_wp2
    go_ret
    exact ⟨rfl, rfl⟩

section
variable {w : World} {d bs bl : Nat} {pv : Value} {nS nL : Nat} {DS DL : DataW Unit} {D : Disk}

theorem DkAt.c0 (h : DkAt w d bs bl pv nS nL DS DL D) : w.cell? ⟨d, 0, none⟩ = some (.int .i64 (D.n : Int)) := h.blk.cell rfl
theorem DkAt.c1 (h : DkAt w d bs bl pv nS nL DS DL D) : w.cell? ⟨d, 1, none⟩ = some (.map (some bs)) := h.blk.cell rfl
theorem DkAt.c2 (h : DkAt w d bs bl pv nS nL DS DL D) : w.cell? ⟨d, 2, none⟩ = some pv := h.blk.cell rfl
theorem DkAt.c3 (h : DkAt w d bs bl pv nS nL DS DL D) : w.cell? ⟨d, 3, none⟩ = some (.map (some bl)) := h.blk.cell rfl
theorem DkAt.c4 (h : DkAt w d bs bl pv nS nL DS DL D) : w.cell? ⟨d, 4, none⟩ = some (.int .i64 (planI D.plan)) := h.blk.cell rfl
theorem DkAt.c5 (h : DkAt w d bs bl pv nS nL DS DL D) : w.cell? ⟨d, 5, none⟩ = some (.bool D.down) := h.blk.cell rfl
theorem DkAt.c6 (h : DkAt w d bs bl pv nS nL DS DL D) : w.cell? ⟨d, 6, none⟩ = some (.int .i64 (D.ops : Int)) := h.blk.cell rfl
end

theorem isMade_is {w : World} {d bs bl : Nat} {pv : Value} {nS nL : Nat} {DS DL : DataW Unit} {D : Disk} (h : DkAt w d bs bl pv nS nL DS DL D) :
    Calls Try.prog 28 #[.pointer (some ⟨d, 0, none⟩)] w fun e w' => e = .returned (.bool true) ∧ w = w' := by
  have c0 := h.c0
  have hn : (0 : Int) < (D.n : Int) := by have := h.good.1; omega
  clear h
  go_enter Try.func28, Try.ntmps28
  go_wp2
  go_ret
  refine ⟨?_, rfl⟩
  simp; omega

theorem ready_un (w : World) (p : Option Addr) (h : Un w p) : Calls Try.prog 40 #[.pointer p] w fun e w' => e = .returned (.int .i64 1) ∧ w = w' := by
  have HU : Hid (Un w p) := h
  clear h
  go_enter Try.func40, Try.ntmps40
  go_wp2_with (go_at_call 28; refine (isMade_un _ p HU.out).mono ?_; rintro e w1 ⟨rfl, rfl⟩)
  go_ret
  exact ⟨rfl, rfl⟩

theorem ready_is {w : World} {d bs bl : Nat} {pv : Value} {nS nL : Nat} {DS DL : DataW Unit} {D : Disk} (h : DkAt w d bs bl pv nS nL DS DL D) :
    Calls Try.prog 40 #[.pointer (some ⟨d, 0, none⟩)] w fun e w' => e = .returned (.int .i64 (if D.down then 50 else 0)) ∧ w = w' := by
  have HU : Hid (DkAt w d bs bl pv nS nL DS DL D) := h
  have c5 := h.c5
  clear h
  cases hd : D.down <;> rw [hd] at c5
  · go_enter Try.func40, Try.ntmps40
    go_wp2_with (go_at_call 28; refine (isMade_is HU.out).mono ?_; rintro e w1 ⟨rfl, rfl⟩)
    go_ret
    exact ⟨rfl, rfl⟩
  · go_enter Try.func40, Try.ntmps40
    go_wp2_with (go_at_call 28; refine (isMade_is HU.out).mono ?_; rintro e w1 ⟨rfl, rfl⟩)
    go_ret
    exact ⟨rfl, rfl⟩

theorem has_is {w : World} {d bs bl : Nat} {pv : Value} {nS nL : Nat} {DS DL : DataW Unit} {D : Disk} (h : DkAt w d bs bl pv nS nL DS DL D) (i : Int) :
    Calls Try.prog 44 #[.pointer (some ⟨d, 0, none⟩), .int .i64 i] w fun e w' => e = .returned (.bool (decide (0 ≤ i ∧ i < D.n))) ∧ w = w' := by
  have c0 := h.c0
  clear h
  go_enter Try.func44, Try.ntmps44
  go_wp2
  · go_ret
    refine ⟨?_, rfl⟩
    simp; omega
  · go_ret
    refine ⟨?_, rfl⟩
    simp; omega

theorem sectors_is {w : World} {d bs bl : Nat} {pv : Value} {nS nL : Nat} {DS DL : DataW Unit} {D : Disk} (h : DkAt w d bs bl pv nS nL DS DL D) :
    Calls Try.prog 25 #[.pointer (some ⟨d, 0, none⟩)] w fun e w' => e = .returned (.int .i64 (D.n : Int)) ∧ w = w' := by
  have HU : Hid (DkAt w d bs bl pv nS nL DS DL D) := h
  have c0 := h.c0
  clear h
  go_enter Try.func25, Try.ntmps25
  go_wp2_with (go_at_call 28; refine (isMade_is HU.out).mono ?_; rintro e w1 ⟨rfl, rfl⟩)
  go_ret
  exact ⟨rfl, rfl⟩
theorem sectors_un (w : World) (p : Option Addr) (h : Un w p) : Calls Try.prog 25 #[.pointer p] w fun e w' => e = .returned (.int .i64 0) ∧ w = w' := by
  have HU : Hid (Un w p) := h
  clear h
  go_enter Try.func25, Try.ntmps25
  go_wp2_with (go_at_call 28; refine (isMade_un _ p HU.out).mono ?_; rintro e w1 ⟨rfl, rfl⟩)
  go_ret
  exact ⟨rfl, rfl⟩
theorem ops_is {w : World} {d bs bl : Nat} {pv : Value} {nS nL : Nat} {DS DL : DataW Unit} {D : Disk} (h : DkAt w d bs bl pv nS nL DS DL D) :
    Calls Try.prog 26 #[.pointer (some ⟨d, 0, none⟩)] w fun e w' => e = .returned (.int .i64 (D.ops : Int)) ∧ w = w' := by
  have HU : Hid (DkAt w d bs bl pv nS nL DS DL D) := h
  have c6 := h.c6
  clear h
  go_enter Try.func26, Try.ntmps26
  go_wp2_with (go_at_call 28; refine (isMade_is HU.out).mono ?_; rintro e w1 ⟨rfl, rfl⟩)
  go_ret
  exact ⟨rfl, rfl⟩
theorem ops_un (w : World) (p : Option Addr) (h : Un w p) : Calls Try.prog 26 #[.pointer p] w fun e w' => e = .returned (.int .i64 0) ∧ w = w' := by
  have HU : Hid (Un w p) := h
  clear h
  go_enter Try.func26, Try.ntmps26
  go_wp2_with (go_at_call 28; refine (isMade_un _ p HU.out).mono ?_; rintro e w1 ⟨rfl, rfl⟩)
  go_ret
  exact ⟨rfl, rfl⟩
theorem down_is {w : World} {d bs bl : Nat} {pv : Value} {nS nL : Nat} {DS DL : DataW Unit} {D : Disk} (h : DkAt w d bs bl pv nS nL DS DL D) :
    Calls Try.prog 22 #[.pointer (some ⟨d, 0, none⟩)] w fun e w' => e = .returned (.bool D.down) ∧ w = w' := by
  have HU : Hid (DkAt w d bs bl pv nS nL DS DL D) := h
  have c5 := h.c5
  clear h
  go_enter Try.func22, Try.ntmps22
  go_wp2_with (go_at_call 28; refine (isMade_is HU.out).mono ?_; rintro e w1 ⟨rfl, rfl⟩)
  go_ret
  exact ⟨rfl, rfl⟩
theorem down_un (w : World) (p : Option Addr) (h : Un w p) : Calls Try.prog 22 #[.pointer p] w fun e w' => e = .returned (.bool false) ∧ w = w' := by
  have HU : Hid (Un w p) := h
  clear h
  go_enter Try.func22, Try.ntmps22
  go_wp2_with (go_at_call 28; refine (isMade_un _ p HU.out).mono ?_; rintro e w1 ⟨rfl, rfl⟩)
  go_ret
  exact ⟨rfl, rfl⟩
theorem flush_un (w : World) (p : Option Addr) (h : Un w p) : Calls Try.prog 16 #[.pointer p] w fun e w' => e = .returned (.int .i64 1) ∧ w = w' := by
  have HU : Hid (Un w p) := h
  clear h
  go_enter Try.func16, Try.ntmps16
  go_wp2_with (go_at_call 40; refine (ready_un _ p HU.out).mono ?_; rintro e w1 ⟨rfl, rfl⟩)
  go_ret
  exact ⟨rfl, rfl⟩
theorem write_un (w : World) (p : Option Addr) (i v : Value) (h : Un w p) : Calls Try.prog 18 #[.pointer p, i, v] w fun e w' => e = .returned (.int .i64 1) ∧ w = w' := by
  have HU : Hid (Un w p) := h
  clear h
  go_enter Try.func18, Try.ntmps18
  go_wp2_with (go_at_call 40; refine (ready_un _ p HU.out).mono ?_; rintro e w1 ⟨rfl, rfl⟩)
  go_ret
  exact ⟨rfl, rfl⟩
theorem arm_un (w : World) (p : Option Addr) (i : Value) (h : Un w p) : Calls Try.prog 23 #[.pointer p, i] w fun e w' => e = .returned (.int .i64 1) ∧ w = w' := by
  have HU : Hid (Un w p) := h
  clear h
  go_enter Try.func23, Try.ntmps23
  go_wp2_with (go_at_call 40; refine (ready_un _ p HU.out).mono ?_; rintro e w1 ⟨rfl, rfl⟩)
  go_ret
  exact ⟨rfl, rfl⟩
theorem read_un (w : World) (p : Option Addr) (i : Value) (h : Un w p) : Calls Try.prog 21 #[.pointer p, i] w fun e w' => e = .returned (.tuple #[.slice none 0 0, .int .i64 1]) ∧ w = w' := by
  have HU : Hid (Un w p) := h
  clear h
  go_enter Try.func21, Try.ntmps21
  go_wp2_with (go_at_call 40; refine (ready_un _ p HU.out).mono ?_; rintro e w1 ⟨rfl, rfl⟩)
  go_ret2
  exact ⟨rfl, rfl⟩
theorem restart_un (w : World) (p : Option Addr) (i : Value) (h : Un w p) : Calls Try.prog 15 #[.pointer p, i] w fun e w' => e = .returned (.int .i64 1) ∧ w = w' := by
  have HU : Hid (Un w p) := h
  clear h
  go_enter Try.func15, Try.ntmps15
  go_wp2_with (go_at_call 28; refine (isMade_un _ p HU.out).mono ?_; rintro e w1 ⟨rfl, rfl⟩)
  go_ret
  exact ⟨rfl, rfl⟩
theorem pending_un (w : World) (p : Option Addr) (h : Un w p) : Calls Try.prog 20 #[.pointer p] w fun e w' => e = .returned (.slice none 0 0) ∧ w = w' := by
  have HU : Hid (Un w p) := h
  clear h
  go_enter Try.func20, Try.ntmps20
  go_wp2_with (go_at_call 28; refine (isMade_un _ p HU.out).mono ?_; rintro e w1 ⟨rfl, rfl⟩)
  go_ret
  exact ⟨rfl, rfl⟩
theorem sure_un (w : World) (p : Option Addr) (h : Un w p) : Calls Try.prog 17 #[.pointer p] w fun e w' => e = .returned (.slice none 0 0) ∧ w = w' := by
  have HU : Hid (Un w p) := h
  clear h
  go_enter Try.func17, Try.ntmps17
  go_wp2_with (go_at_call 28; refine (isMade_un _ p HU.out).mono ?_; rintro e w1 ⟨rfl, rfl⟩)
  go_ret
  exact ⟨rfl, rfl⟩
theorem clone_un (w : World) (p : Option Addr) (h : Un w p) : Calls Try.prog 9 #[.pointer p] w fun e w' => e = .returned (.pointer none) ∧ w = w' := by
  have HU : Hid (Un w p) := h
  clear h
  go_enter Try.func9, Try.ntmps9
  go_wp2_with (go_at_call 28; refine (isMade_un _ p HU.out).mono ?_; rintro e w1 ⟨rfl, rfl⟩)
  go_ret
  exact ⟨rfl, rfl⟩
#print axioms clone_un
end Go.Proofs.Ytmhdldhplhffcaa.Oct
