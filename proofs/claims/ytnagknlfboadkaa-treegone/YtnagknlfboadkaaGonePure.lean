/-
  Layer 7 (tree): what is left behind deletions.
-/
import Derived.Test.YtnagknlfboadkaaShallow
namespace Go.Proofs.Ytnagknlfboadkaa.Oct
open Go.RowKit

theorem mem_rem {M : List Pr} {x : Pr} {k : ByteArray} (h : x ∈ M) (hk : x.1 ≠ k) : x ∈ remP M k := by
  unfold remP lo hi
  cases h1 : Lt x.1 k with
  | true => exact List.mem_append.2 (.inl (List.mem_filter.2 ⟨h, h1⟩))
  | false =>
    cases h2 : Lt k x.1 with
    | true => exact List.mem_append.2 (.inr (List.mem_filter.2 ⟨h, h2⟩))
    | false => exact absurd (lt_total h1 h2) hk
theorem eqs_mem {M : List Pr} {x : Pr} (h : x ∈ M) : (eqs x.1 M).isEmpty = false := by
  have : x ∈ eqs x.1 M := List.mem_filter.2 ⟨h, eqb_iff.2 rfl⟩
  cases he : eqs x.1 M with
  | nil => rw [he] at this; cases this
  | cons y l => rfl
theorem eqs_rem (M : List Pr) (k : ByteArray) : eqs k (remP M k) = [] := by
  refine List.filter_eq_nil_iff.2 fun x hx he => ?_
  have e := eqb_iff.1 he
  unfold remP lo hi at hx
  rcases List.mem_append.1 hx with hx | hx
  · have := (List.mem_filter.1 hx).2
    rw [e, lt_irrefl] at this; cases this
  · have := (List.mem_filter.1 hx).2
    rw [e, lt_irrefl] at this; cases this
theorem ris_dist {L : List Pr} (h : Ris L) {p q : Nat} {x y : Pr} (hx : L[p]? = some x) (hy : L[q]? = some y) (hpq : p ≠ q) : x.1 ≠ y.1 := by
  obtain ⟨hp, rfl⟩ := List.getElem?_eq_some_iff.1 hx
  obtain ⟨hq, rfl⟩ := List.getElem?_eq_some_iff.1 hy
  intro e
  rcases Nat.lt_or_gt_of_ne hpq with h1 | h1
  · have := List.pairwise_iff_getElem.1 h p q hp hq h1
    rw [e, lt_irrefl] at this; cases this
  · have := List.pairwise_iff_getElem.1 h q p hq hp h1
    rw [e, lt_irrefl] at this; cases this
theorem modf {i c n : Nat} (hi : i < n) (hc : c < n) : (i + c) % n = if i + c < n then i + c else i + c - n := by
  split
  · exact Nat.mod_eq_of_lt (by assumption)
  · rw [Nat.mod_eq_sub_mod (by omega), Nat.mod_eq_of_lt (by omega)]
/-- what is left behind some deletions -/
structure GInv (L : List Pr) (c i : Nat) (M : List Pr) : Prop where
  ris : Ris M
  len : M.length + i = L.length
  mem : ∀ j x, i ≤ j → j < L.length → L[(j + c) % L.length]? = some x → x ∈ M
theorem GInv.step {L : List Pr} {c i : Nat} {M : List Pr} {x : Pr} (h : GInv L c i M) (hL : Ris L) (hi : i < L.length) (hc : c < L.length) (hx : L[(i + c) % L.length]? = some x) : GInv L c (i + 1) (remP M x.1) ∧ (eqs x.1 M).isEmpty = false ∧ (eqs x.1 (remP M x.1)).isEmpty = true := by
  have hm := h.mem i x (Nat.le_refl _) hi hx
  have he := eqs_mem hm
  refine ⟨⟨ris_rem h.ris _, ?_, fun j y hj hjn hy => ?_⟩, he, by rw [eqs_rem]; rfl⟩
  · have h1 := rem_len h.ris x.1
    rw [if_neg (by rw [he]; simp)] at h1
    have h2 := h.len
    have h3 : 0 < M.length := List.length_pos_of_mem hm
    omega
  · refine mem_rem (h.mem j y (by omega) hjn hy) (ris_dist hL hy hx ?_)
    rw [modf hjn hc, modf hi hc]
    split <;> split <;> omega
#print axioms GInv.step
end Go.Proofs.Ytnagknlfboadkaa.Oct
