/-
  Layer 18 (quota): limits and what is made.
-/
import Derived.Test.YtbkkdjafcmnliaaRows
import Derived.Test.YtbkkdjafcmnliaaBlk
import Derived.WalkKit
import Derived.WalkSpells
import Derived.Laws.Closers25
import Derived.WalkLawsBesides
namespace Go.Proofs.Ytbkkdjafcmnliaa.Oct
open Go.RowKit

abbrev iv (n : Int) : Value := .int .i64 n
/-- a meter's cells: bytes, rate, window, used, last, hits -/
structure Mt where
  b : Int
  r : Int
  n : Int
  u : Int
  l : Int
  h : Int
def Mt.cells (M : Mt) : List Value := [iv M.b, iv M.r, iv M.n, iv M.u, iv M.l, iv M.h]
/-- limits that may be -/
def okL (b r n : Int) : Bool := decide (0 ≤ b ∧ b ≤ 1099511627776) && decide (0 ≤ r ∧ r ≤ 1099511627776) && decide (1 ≤ n ∧ n ≤ 1099511627776)
def MAt (w : World) (p : Nat) (M : Mt) : Prop := Blk w p 50 M.cells
def Mt.good (M : Mt) : Prop := (0 ≤ M.b ∧ M.b ≤ 1099511627776) ∧ (0 ≤ M.r ∧ M.r ≤ 1099511627776) ∧ (1 ≤ M.n ∧ M.n ≤ 1099511627776) ∧ (0 ≤ M.u ∧ M.u ≤ 1099511627776) ∧ (0 ≤ M.l ∧ M.l ≤ 9223372036854775807) ∧ (0 ≤ M.h ∧ M.h ≤ 1099511627776)

theorem mayBe_is (n k : Int) (w : World) : Calls Try.prog 27 #[iv n, iv k] w fun e w' => e = .returned (.bool (decide (k ≤ n ∧ n ≤ 1099511627776))) ∧ w = w' := by
  by_cases h1 : k ≤ n
  · by_cases h2 : n ≤ 1099511627776
    · rw [decide_eq_true ⟨h1, h2⟩]
      go_enter Try.func27, Try.ntmps27
      go_wp2
      go_ret
      exact ⟨rfl, rfl⟩
    · rw [decide_eq_false (fun h => h2 h.2)]
      go_enter Try.func27, Try.ntmps27
      go_wp2
      go_ret
      exact ⟨rfl, rfl⟩
  · rw [decide_eq_false (fun h => h1 h.1)]
    go_enter Try.func27, Try.ntmps27
    go_wp2
    go_ret
    exact ⟨rfl, rfl⟩
#print axioms mayBe_is
set_option maxRecDepth 100000 in
theorem made_nil (w : World) : Calls Try.prog 24 #[.pointer none] w fun e w' => e = .returned (.bool false) ∧ w = w' := by
  go_enter Try.func24, Try.ntmps24
  go_wp2
  go_ret
  exact ⟨rfl, rfl⟩
section
variable {w : World} {p : Nat} {M : Mt}
theorem MAt.c0 (h : MAt w p M) : w.cell? ⟨p, 0, none⟩ = some (iv M.b) := h.cell rfl
theorem MAt.c1 (h : MAt w p M) : w.cell? ⟨p, 1, none⟩ = some (iv M.r) := h.cell rfl
theorem MAt.c2 (h : MAt w p M) : w.cell? ⟨p, 2, none⟩ = some (iv M.n) := h.cell rfl
theorem MAt.c3 (h : MAt w p M) : w.cell? ⟨p, 3, none⟩ = some (iv M.u) := h.cell rfl
theorem MAt.c4 (h : MAt w p M) : w.cell? ⟨p, 4, none⟩ = some (iv M.l) := h.cell rfl
theorem MAt.c5 (h : MAt w p M) : w.cell? ⟨p, 5, none⟩ = some (iv M.h) := h.cell rfl
set_option maxRecDepth 100000 in
theorem made_is (h : MAt w p M) (hn : 1 ≤ M.n) : Calls Try.prog 24 #[.pointer (some ⟨p, 0, none⟩)] w fun e w' => e = .returned (.bool true) ∧ w = w' := by
  have c0 := h.c0
  have c1 := h.c1
  have c2 := h.c2
  generalize M.b = b at *
  generalize M.r = r at *
  generalize M.n = n at *
  clear h
  have q : (n == 0) = false := by simp; omega
  have hf : ∀ W, (Instr.field 50 (.agg #[iv 0, iv 0, iv 0, iv 0, iv 0, iv 0]) 0).run Try.prog W = .ok (.agg #[iv 0, iv 0, iv 0]) W := fun _ => by kernel_rfl
  go_enter Try.func24, Try.ntmps24
  go_wp2
  go_ret
  exact ⟨rfl, rfl⟩
set_option maxRecDepth 100000 in
theorem window_is (h : MAt w p M) (hn : 1 ≤ M.n) (t : Int) (h0 : 0 ≤ t) (h1 : t ≤ 9223372036854775807) : Calls Try.prog 25 #[.pointer (some ⟨p, 0, none⟩), iv t] w fun e w' => e = .returned (iv (t / M.n)) ∧ w = w' := by
  have c2 := h.c2
  generalize M.n = n at *
  clear h
  have q : (n == 0) = false := by simp; omega
  have q2 : wrap64 (t.tdiv n) = t / n := by
    rw [Int.tdiv_eq_ediv_of_nonneg h0]
    have e := wrap_i64_ediv t n (by omega) h1 hn
    rw [IntKind.wrap_i64] at e
    unfold wrap64; omega
  generalize t / n = d at *
  clear h0 h1
  go_enter Try.func25, Try.ntmps25
  go_wp2
  go_ret
  exact ⟨congrArg (fun x => Ending.returned (iv x)) q2, rfl⟩
end
theorem wrapi {a : Int} (h1 : -9223372036854775808 ≤ a) (h2 : a ≤ 9223372036854775807) : IntKind.i64.wrap a = a := by rw [IntKind.wrap_i64]; omega
#print axioms window_is
#print axioms made_is
end Go.Proofs.Ytbkkdjafcmnliaa.Oct
