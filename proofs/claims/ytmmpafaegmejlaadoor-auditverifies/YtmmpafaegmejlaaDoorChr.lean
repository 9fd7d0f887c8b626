/-
  Layer 19 (audit): the law AuditChain.
-/
import Derived.Test.YtmmpafaegmejlaaDoorSme
namespace Go.Proofs.YtmmpafaegmejlaaDoor.Oct
open Go.RowKit Sha
set_option linter.unusedSimpArgs false
set_option linter.unusedVariables false

theorem okAt_app {l r : List En} {i : Nat} (hi : i < l.length) : okAt (l ++ r) i ↔ okAt l i := by
  unfold okAt
  rw [List.getElem?_append_left hi, List.take_append_of_le_length (Nat.le_of_lt hi)]
theorem ok_step {l : List En} {tick : Int} {who what : BA} (h : ∀ i, i < l.length → okAt l i) : ∀ i, i < (lA l (nxE l tick who what)).length → okAt (lA l (nxE l tick who what)) i := by
  unfold lA
  split
  · rename_i h0
    intro i hi
    rw [List.length_append, List.length_singleton] at hi
    by_cases hl : i < l.length
    · exact (okAt_app hl).2 (h i hl)
    · obtain rfl : i = l.length := by omega
      intro e he
      rw [List.getElem?_append_right (Nat.le_refl _)] at he
      simp at he
      subst he
      rw [List.take_left' rfl]
      have g := nxE_good h0
      rw [g.2.2]
      show nxE l tick who what = _
      rw [← g.2.2]
      exact Prod.ext rfl h0
  · exact h
theorem lA_take (l : List En) (q : En × Int) : (lA l q).take l.length = l := by
  unfold lA
  split
  · exact List.take_left' rfl
  · exact List.take_of_length_le (Nat.le_refl _)
theorem lA_len (l : List En) (q : En × Int) : (lA l q).length ≤ l.length + 1 ∧ l.length ≤ (lA l q).length := by
  unfold lA
  split
  · simp
  · omega
theorem ok_take {l : List En} (h : ∀ i, i < l.length → okAt l i) (m : Nat) : ∀ i, i < (l.take m).length → okAt (l.take m) i := by
  intro i hi
  rw [List.length_take] at hi
  have := h i (by omega)
  rw [← List.take_append_drop m l] at this
  exact (okAt_app (by rw [List.length_take]; exact hi)).1 this
theorem vf_ok {l : List En} (h : ∀ i, i < l.length → okAt l i) : VfP l (-1) := .inl ⟨rfl, h⟩
/-- a beginning of a row -/
theorem cut_is {w : World} {a : Option Addr} {cap : Nat} {l : List En} (h : EsR w (.slice a l.length cap) l) (m : Nat) (hm : m ≤ l.length) : ∃ c', (∀ W, (Instr.slice 27 (.slice a l.length cap) none (some (iv (m : Int))) none).run Tryd.prog W = .ok (.slice a m c') W) ∧ EsR w (.slice a m c') (l.take m) := by
  obtain ⟨h1, a', cap', h2, h3, h4, h5⟩ := h
  cases h2
  have e1 := fun W => run_sliceBound (P := Tryd.prog) (w := W) .i64 (m : Int) cap .sliceAcap (by omega) (by omega)
  refine ⟨cap, fun W => ?_, fun e he => h1 e (List.mem_of_mem_take he), a, cap, by rw [List.length_take, Nat.min_eq_left hm], by rw [List.length_take]; omega, h4, fun hp => ?_⟩
  · have e2 := e1 W
    simp only [Int.toNat_natCast] at e2
    rcases a with _ | ⟨b, off, sp⟩
    · simp [Instr.slice, run_underlying elem27, Instr.sliceBounds, e2, go_sem]
    · simp [Instr.slice, run_underlying elem27, Instr.sliceBounds, e2, go_sem]
  · rw [List.length_take] at hp
    obtain ⟨b, off, e1, e2, e3⟩ := h5 (by omega)
    refine ⟨b, off, e1, e2, fun j e he => e3 j e ?_⟩
    rw [List.getElem?_take] at he
    split at he
    · exact he
    · cases he
#print axioms ok_step
#print axioms cut_is
end Go.Proofs.YtmmpafaegmejlaaDoor.Oct
