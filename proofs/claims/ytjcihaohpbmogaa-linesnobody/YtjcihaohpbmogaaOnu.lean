/-
  Layer 11 (lines), plain: the order by numbers: the place that the loop finds.
-/
import Derived.Test.YtjcihaohpbmogaaNxt
import Derived.Test.YtjcihaohpbmogaaDor
namespace Go.Proofs.Ytjcihaohpbmogaa.Oct
open Go.RowKit
set_option linter.unusedVariables false

/-- the one told last, or -1 -/
def lastOf (out : List Nat) : Int := match out.getLast? with
  | none => -1
  | some l => (l : Int)
theorem flw_any (fl : Nat → List Nat) (out : List Nat) (n : Nat) : ((fl n).any fun k => (k : Int) == lastOf out) = Gr.flw fl out n := by
  unfold lastOf Gr.flw
  cases out.getLast? with
  | none =>
    show ((fl n).any fun k => (k : Int) == -1) = false
    rw [List.any_eq_false]
    intro k _
    have : ¬ (k : Int) = -1 := by omega
    simp [this]
  | some l =>
    show ((fl n).any fun k => (k : Int) == (l : Int)) = decide (l ∈ fl n)
    rw [Bool.eq_iff_iff, List.any_eq_true, decide_eq_true_eq]
    constructor
    · rintro ⟨k, hk, he⟩
      have : (k : Int) = l := by simpa using he
      have : k = l := by omega
      rw [← this]; exact hk
    · intro h
      exact ⟨l, h, by simp⟩
theorem nxAt_is (fl : Nat → List Nat) (out : List Nat) (told : Nat → Bool) (ht : ∀ k, told k = decide (k ∈ out)) : ∀ (l : List Nat) (i : Nat) (least : Int),
    match l.find? (fun n => Gr.rdy fl out n && Gr.flw fl out n) with
    | some n => ∃ j, l[j]? = some n ∧ nxAt fl told (lastOf out) l i least = ((i + j : Nat) : Int)
    | none => if least < 0 then (match l.find? (fun n => Gr.rdy fl out n) with
        | some n => ∃ j, l[j]? = some n ∧ nxAt fl told (lastOf out) l i least = ((i + j : Nat) : Int)
        | none => nxAt fl told (lastOf out) l i least = least) else nxAt fl told (lastOf out) l i least = least
  | [], i, least => by
    simp only [List.find?_nil]
    unfold nxAt
    split <;> rfl
  | n :: l, i, least => by
    have hr : (fl n).all told = Gr.rdy fl out n := by
      unfold Gr.rdy
      exact List.all_congr rfl (fun k => ht k)
    have ih := nxAt_is fl out told ht l (i + 1)
    rw [List.find?_cons, List.find?_cons]
    unfold nxAt
    rw [hr, flw_any]
    cases h1 : Gr.rdy fl out n with
    | false =>
      simp only [Bool.false_and, Bool.false_eq_true, if_false]
      have h0 := ih least
      cases h2 : l.find? (fun n => Gr.rdy fl out n && Gr.flw fl out n) with
      | some m =>
        rw [h2] at h0
        obtain ⟨j, a, b⟩ := h0
        exact ⟨j + 1, by simpa using a, by rw [b]; congr 1; omega⟩
      | none =>
        rw [h2] at h0
        simp only at h0 ⊢
        split
        · rename_i hl
          rw [if_pos hl] at h0
          cases h3 : l.find? (fun n => Gr.rdy fl out n) with
          | some m =>
            rw [h3] at h0
            obtain ⟨j, a, b⟩ := h0
            exact ⟨j + 1, by simpa using a, by rw [b]; congr 1; omega⟩
          | none => rw [h3] at h0; exact h0
        · rename_i hl
          rw [if_neg hl] at h0
          exact h0
    | true =>
      simp only [Bool.true_and, if_true]
      cases h4 : Gr.flw fl out n with
      | true =>
        simp only [if_true]
        exact ⟨0, rfl, by simp⟩
      | false =>
        simp only [Bool.false_eq_true, if_false]
        by_cases hl : least < 0
        · rw [if_pos hl]
          have h0 := ih (i : Int)
          rw [if_neg (by omega)] at h0
          cases h2 : l.find? (fun n => Gr.rdy fl out n && Gr.flw fl out n) with
          | some m =>
            rw [h2] at h0
            obtain ⟨j, a, b⟩ := h0
            exact ⟨j + 1, by simpa using a, by rw [b]; congr 1; omega⟩
          | none =>
            rw [h2] at h0
            simp only [if_pos hl]
            exact ⟨0, rfl, by simpa using h0⟩
        · rw [if_neg hl]
          have h0 := ih least
          cases h2 : l.find? (fun n => Gr.rdy fl out n && Gr.flw fl out n) with
          | some m =>
            rw [h2] at h0
            obtain ⟨j, a, b⟩ := h0
            exact ⟨j + 1, by simpa using a, by rw [b]; congr 1; omega⟩
          | none =>
            rw [h2] at h0
            simp only [if_neg hl] at h0 ⊢
            exact h0
/-- the place found is that of the next one -/
theorem nxAt_nxt {fl : Nat → List Nat} {vs out : List Nat} {told : Nat → Bool} (ht : ∀ k, told k = decide (k ∈ out)) {n : Nat} (h : Gr.nxt fl vs out = some n) : ∃ j : Nat, (Gr.lft vs out)[j]? = some n ∧ nxAt fl told (lastOf out) (Gr.lft vs out) 0 (-1) = (j : Int) := by
  have h0 := nxAt_is fl out told ht (Gr.lft vs out) 0 (-1)
  unfold Gr.nxt at h
  cases h2 : (Gr.lft vs out).find? (fun n => Gr.rdy fl out n && Gr.flw fl out n) with
  | some m =>
    rw [h2] at h h0
    cases h
    obtain ⟨j, a, b⟩ := h0
    exact ⟨j, a, by rw [b]; congr 1; omega⟩
  | none =>
    rw [h2] at h h0
    simp only [if_pos (show (-1 : Int) < 0 by omega)] at h0
    simp only at h
    rw [h] at h0
    obtain ⟨j, a, b⟩ := h0
    exact ⟨j, a, by rw [b]; congr 1; omega⟩
theorem erase_filter : ∀ (l : List Nat) (j n : Nat), l.Nodup → l[j]? = some n → l.eraseIdx j = l.filter fun v => decide (v ≠ n)
  | [], j, n, _, h => by simp at h
  | x :: l, 0, n, hn, h => by
    simp at h; subst h
    have := (List.nodup_cons.1 hn).1
    rw [List.eraseIdx_zero, List.tail_cons, List.filter_cons, if_neg (by simp)]
    symm
    refine List.filter_eq_self.2 fun v hv => ?_
    have : v ≠ x := fun e => this (e ▸ hv)
    simpa using this
  | x :: l, j + 1, n, hn, h => by
    have hj : l[j]? = some n := by simpa using h
    have hx : x ≠ n := fun e => (List.nodup_cons.1 hn).1 (e ▸ List.mem_of_getElem? hj)
    rw [List.eraseIdx_cons_succ, List.filter_cons, if_pos (by simpa using hx), erase_filter l j n (List.nodup_cons.1 hn).2 hj]
theorem lft_erase {vs out : List Nat} (hn : vs.Nodup) {j n : Nat} (h : (Gr.lft vs out)[j]? = some n) : (Gr.lft vs out).eraseIdx j = Gr.lft vs (out ++ [n]) := by
  have hnd : (Gr.lft vs out).Nodup := hn.filter _
  rw [erase_filter _ j n hnd h]
  unfold Gr.lft
  rw [List.filter_filter]
  refine List.filter_congr fun v _ => ?_
  rw [Bool.eq_iff_iff]
  simp only [Bool.and_eq_true, decide_eq_true_eq, List.mem_append, List.mem_singleton, not_or]
  exact ⟨fun h => ⟨h.2, h.1⟩, fun h => ⟨h.2, h.1⟩⟩
/-- steps by numbers -/
def stpN (fl : Nat → List Nat) (N k : Nat) : List Nat := (List.range N).filter fun n => decide (k ∈ fl n)
theorem from_N {fl : Nat → List Nat} {N : Nat} (hl : ∀ n < N, ∀ k ∈ fl n, k < N) : Gr.From (stpN fl N) (List.range N) fl := by
  intro n hn u
  rw [List.mem_range] at hn
  unfold stpN
  rw [List.mem_filter, List.mem_range, List.mem_range, decide_eq_true_eq]
  exact ⟨fun h => ⟨hl n hn u h, hn, h⟩, fun h => h.2.2⟩
theorem stays_N (fl : Nat → List Nat) (N : Nat) : Gr.Stays (stpN fl N) (List.range N) := by
  intro k hk u h
  left
  cases h with
  | one h1 => exact (List.mem_filter.1 h1).1
  | more _ h1 => exact (List.mem_filter.1 h1).1
theorem rise_N {fl : Nat → List Nat} {N : Nat} {f : Nat → Nat} (hf : ∀ n < N, ∀ k ∈ fl n, f k < f n) : ∀ a b, b ∈ stpN fl N a → f a < f b := by
  intro a b h
  unfold stpN at h
  rw [List.mem_filter, List.mem_range, decide_eq_true_eq] at h
  exact hf b h.1 a h.2
#print axioms nxAt_nxt
#print axioms lft_erase
end Go.Proofs.Ytjcihaohpbmogaa.Oct
