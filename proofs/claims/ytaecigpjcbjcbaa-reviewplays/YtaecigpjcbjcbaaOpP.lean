/-
  Layer 20 (review): ReviewOpen: plain facts.
-/
import Derived.Test.YtaecigpjcbjcbaaCls
namespace Go.Proofs.Ytaecigpjcbjcbaa.Oct
open Go.RowKit
set_option linter.unusedSimpArgs false

/-- a proposal's channel and patch -/
def chp (M : Br) (j : Nat) : Option (BA × Hs) := (M.props[j - 1]?).map fun p => (p.channel, p.patch)
structure OkO (M : Br) (cl : List Nat) : Prop where
  nodup : M.opn.Nodup
  opn : ∀ j ∈ M.opn, 1 ≤ j ∧ j ≤ M.props.length
  clo : ∀ j ∈ cl, 1 ≤ j ∧ j ≤ M.props.length
  either : ∀ j, 1 ≤ j → j ≤ M.props.length → (j ∈ M.opn ↔ j ∉ cl)
  apart : ∀ j j', j ∈ M.opn → j' ∈ M.opn → j ≠ j' → chp M j ≠ chp M j'
theorem hasN_iff {l : List Nat} {x : Int} : hasN l x = true ↔ ∃ k ∈ l, x = (k : Int) := by
  unfold hasN
  rw [List.any_eq_true]
  constructor
  · rintro ⟨k, hk, h⟩; exact ⟨k, hk, by simpa using h⟩
  · rintro ⟨k, hk, h⟩; exact ⟨k, hk, by simpa using h⟩
theorem hasN_nat {l : List Nat} {k : Nat} : hasN l (k : Int) = true ↔ k ∈ l := by
  rw [hasN_iff]
  constructor
  · rintro ⟨j, hj, e⟩; have : k = j := by omega
    rw [this]; exact hj
  · intro h; exact ⟨k, h, rfl⟩
theorem at_range {M : Br} {x : Int} {p : Pr} (h : M.at? x = some p) : ∃ k : Nat, x = (k : Int) ∧ 1 ≤ k ∧ k ≤ M.props.length ∧ M.props[k - 1]? = some p := by
  obtain ⟨i, rfl, hi⟩ := Br.at_some h
  have := (List.getElem?_eq_some_iff.1 hi).1
  exact ⟨i + 1, by omega, by omega, by omega, by simpa using hi⟩
/-- what is open is not closed, and the other way round -/
theorem OkO.turn {M : Br} {cl : List Nat} (h : OkO M cl) {x : Int} {p : Pr} (hx : M.at? x = some p) : hasN M.opn x = !hasN cl x := by
  obtain ⟨k, rfl, h1, h2, _⟩ := at_range hx
  have he := h.either k h1 h2
  cases ho : hasN M.opn (k : Int)
  · have hn : k ∉ M.opn := fun hm => by rw [hasN_nat.2 hm] at ho; cases ho
    have hc : k ∈ cl := Classical.not_not.1 fun hh => hn (he.2 hh)
    rw [hasN_nat.2 hc]; rfl
  · have hm := hasN_nat.1 ho
    have hc := he.1 hm
    cases hh : hasN cl (k : Int)
    · rfl
    · exact absurd (hasN_nat.1 hh) hc
theorem OkO.new : OkO ⟨.slice none 0 0, .slice none 0 0, [], []⟩ [] :=
  ⟨by simp, by simp, by simp, fun j h1 h2 => by simp at h2; omega, by simp⟩
theorem OkO.with {M : Br} {cl : List Nat} (h : OkO M cl) {ch au : BA} {hs : Hs} (ha : M.opn.any (M.ofN ch hs) = false) (v7 v9 : Value) (mb : Nat) : OkO (M.with v7 v9 (Pr.new au ch hs mb)) cl := by
  have hold : ∀ j, j ∈ M.opn → chp (M.with v7 v9 (Pr.new au ch hs mb)) j = chp M j := fun j hj => by
    have := h.opn j hj
    unfold chp
    show ((M.props ++ [_])[j - 1]?).map _ = _
    rw [List.getElem?_append_left (by omega)]
  have hnew : chp (M.with v7 v9 (Pr.new au ch hs mb)) (M.props.length + 1) = some (ch, hs) := by
    unfold chp
    show ((M.props ++ [_])[M.props.length + 1 - 1]?).map _ = _
    rw [Nat.add_sub_cancel, List.getElem?_append_right (Nat.le_refl _), Nat.sub_self]
    rfl
  have hne : ∀ j ∈ M.opn, chp M j ≠ some (ch, hs) := fun j hj e => by
    rw [List.any_eq_false] at ha
    apply ha j hj
    unfold chp at e
    unfold Br.ofN
    cases hp : M.props[j - 1]? with
    | none => rw [hp] at e; cases e
    | some p =>
      rw [hp] at e
      simp only [Option.map_some, Option.some.injEq, Prod.mk.injEq] at e
      simp [isOfB, e.1, e.2]
  have hlt : ∀ j ∈ M.opn, j ≠ M.props.length + 1 := fun j hj e => by have := h.opn j hj; omega
  refine ⟨?_, ?_, ?_, ?_, ?_⟩
  · show (M.opn ++ [M.props.length + 1]).Nodup
    rw [List.nodup_append]
    exact ⟨h.nodup, by simp, fun a ha b hb e => by simp at hb; subst hb; exact hlt a ha e⟩
  · intro j hj
    show 1 ≤ j ∧ j ≤ (M.props ++ [_]).length
    rw [List.length_append, List.length_singleton]
    rcases List.mem_append.1 (show j ∈ M.opn ++ [M.props.length + 1] from hj) with hj | hj
    · have := h.opn j hj; omega
    · have : j = M.props.length + 1 := by simpa using hj
      omega
  · intro j hj
    show 1 ≤ j ∧ j ≤ (M.props ++ [_]).length
    rw [List.length_append, List.length_singleton]
    have := h.clo j hj; omega
  · intro j h1 h2
    have h2' : j ≤ M.props.length + 1 := by simpa [Br.with] using h2
    show j ∈ M.opn ++ [M.props.length + 1] ↔ _
    rw [List.mem_append, List.mem_singleton]
    by_cases e : j = M.props.length + 1
    · constructor
      · intro _ hc
        have := h.clo j hc; omega
      · intro _; exact .inr e
    · rw [← h.either j h1 (by omega)]
      constructor
      · rintro (hj | hj)
        · exact hj
        · exact absurd hj e
      · exact .inl
  · intro j j' hj hj' hjj
    rcases List.mem_append.1 (show j ∈ M.opn ++ [M.props.length + 1] from hj) with hj | hj
    · rcases List.mem_append.1 (show j' ∈ M.opn ++ [M.props.length + 1] from hj') with hj' | hj'
      · rw [hold j hj, hold j' hj']; exact h.apart j j' hj hj' hjj
      · have : j' = M.props.length + 1 := by simpa using hj'
        rw [this, hnew, hold j hj]; exact hne j hj
    · have e1 : j = M.props.length + 1 := by simpa using hj
      rcases List.mem_append.1 (show j' ∈ M.opn ++ [M.props.length + 1] from hj') with hj' | hj'
      · rw [e1, hnew, hold j' hj']; exact (hne j' hj').symm
      · have : j' = M.props.length + 1 := by simpa using hj'
        omega
/-- the same proposals, but for their votes and remarks -/
structure Alike (M M' : Br) : Prop where
  opn : M'.opn = M.opn
  len : M'.props.length = M.props.length
  same : ∀ j, chp M' j = chp M j
theorem Alike.refl (M : Br) : Alike M M := ⟨rfl, rfl, fun _ => rfl⟩
theorem OkO.alike {M M' : Br} {cl : List Nat} (h : OkO M cl) (a : Alike M M') : OkO M' cl :=
  ⟨by rw [a.opn]; exact h.nodup, by rw [a.opn, a.len]; exact h.opn, by rw [a.len]; exact h.clo, by rw [a.opn, a.len]; exact h.either, by
    intro j j' hj hj' hjj
    rw [a.opn] at hj hj'
    rw [a.same, a.same]
    exact h.apart j j' hj hj' hjj⟩
theorem alike_turn {M : Br} {i : Nat} {p : Pr} (hi : M.props[i]? = some p) (u : Hs) (k : Int) : Alike M (M.turn i p u k) := by
  refine ⟨rfl, by simp [Br.turn], fun j => ?_⟩
  unfold chp Br.turn
  simp only
  rw [List.getElem?_set]
  split
  · rename_i e
    split
    · rw [← e, hi]; rfl
    · rename_i hl
      rw [List.getElem?_eq_none (by omega)]
  · rfl
theorem alike_vote (M : Br) (x : Int) (u : BA) (y : Bool) : Alike M (M.vote x u y).1 := by
  unfold Br.vote
  cases h : M.at? x with
  | none => exact Alike.refl M
  | some p =>
    obtain ⟨i, rfl, hi⟩ := Br.at_some h
    simp only
    split
    · exact Alike.refl M
    · split
      · exact Alike.refl M
      · have e : ((i : Int) + 1 - 1).toNat = i := by omega
        rw [e]
        exact alike_turn hi _ _
/-- a vote that was taken is of an open one -/
theorem vote_ok {M : Br} {x : Int} {u : BA} {y : Bool} (h : (M.vote x u y).2 = 0) : ∃ p, M.at? x = some p ∧ hasN M.opn x = true := by
  unfold Br.vote at h
  cases hp : M.at? x with
  | none => rw [hp] at h; simp at h
  | some p =>
    rw [hp] at h
    simp only at h
    cases ho : hasN M.opn x
    · rw [ho] at h; simp at h
    · exact ⟨p, rfl, rfl⟩
theorem OkO.shut {M : Br} {cl : List Nat} (h : OkO M cl) {k : Nat} (hk : k ∈ M.opn) (ov : Value) : OkO (M.shut ov (k : Int)) (cl ++ [k]) := by
  have hm : ∀ j, j ∈ outN M.opn (k : Int) ↔ j ∈ M.opn ∧ j ≠ k := fun j => by
    unfold outN
    rw [List.mem_filter]
    constructor
    · rintro ⟨h1, h2⟩
      refine ⟨h1, fun e => ?_⟩
      subst e
      simp at h2
    · rintro ⟨h1, h2⟩
      refine ⟨h1, ?_⟩
      simp; omega
  refine ⟨?_, ?_, ?_, ?_, ?_⟩
  · exact List.Nodup.sublist List.filter_sublist h.nodup
  · intro j hj
    exact h.opn j ((hm j).1 hj).1
  · intro j hj
    rcases List.mem_append.1 hj with hj | hj
    · exact h.clo j hj
    · have : j = k := by simpa using hj
      rw [this]; exact h.opn k hk
  · intro j h1 h2
    show j ∈ outN M.opn (k : Int) ↔ _
    rw [hm, h.either j h1 h2, List.mem_append, List.mem_singleton]
    constructor
    · rintro ⟨a, b⟩ (c | c)
      · exact a c
      · exact b c
    · intro c
      exact ⟨fun d => c (.inl d), fun d => c (.inr d)⟩
  · intro j j' hj hj' hjj
    exact h.apart j j' ((hm j).1 hj).1 ((hm j').1 hj').1 hjj
#print axioms OkO.shut
/-- a block that is not the board's stays -/
theorem BAfter.other {w w' : World} {b : Nat} {M M' : Br} (h : BAfter w b M M' w') {k : Nat} (hk : k < w.heap.size) (hn : k ∉ M.bl b) : w'.heap[k]? = w.heap[k]? ∧ k ∉ M'.bl b ∧ k < w'.heap.size :=
  ⟨h.2.block k hk hn, fun hm => (h.1 k hm).elim hn (fun e => by omega), Nat.lt_of_lt_of_le hk h.2.size⟩
end Go.Proofs.Ytaecigpjcbjcbaa.Oct
