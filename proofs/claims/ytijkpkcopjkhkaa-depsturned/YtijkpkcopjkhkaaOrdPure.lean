/-
  Layer 12 (deps): the order by numbers, as lists.
-/
import Derived.Test.YtijkpkcopjkhkaaReady
namespace Go.Proofs.Ytijkpkcopjkhkaa.Oct
open Go.RowKit

/-- how often a number stands in the row of another one -/
def cnt (ab : List (List Nat)) (n k : Nat) : Nat := (ab.getD k []).count n
/-- .. in the rows of some -/
def sumOf (ab : List (List Nat)) (told : List Nat) (n : Nat) : Nat := (told.map (cnt ab n)).sum
theorem sumOf_snoc (ab : List (List Nat)) (told : List Nat) (y n : Nat) : sumOf ab (told ++ [y]) n = sumOf ab told n + (ab.getD y []).count n := by
  simp [sumOf, cnt]
/-- all that it waits for is told -/
def Free (ab : List (List Nat)) (wt0 : List Nat) (told : List Nat) (n : Nat) : Prop := sumOf ab told n = wt0.getD n 0
/-- where the order stands: some told, of the last one's row a rest not yet taken off -/
structure OI (N : Nat) (ab : List (List Nat)) (wt0 told rest wt ready : List Nat) : Prop where
  eq : ∀ n, n < N → wt.getD n 0 + sumOf ab told n = wt0.getD n 0 + rest.count n
  len : wt.length = N
  rise : ready.Pairwise (· < ·)
  mem : ∀ n, n ∈ ready ↔ n < N ∧ n ∉ told ∧ wt.getD n 0 = 0
  zero : ∀ n, n ∈ told → n < N ∧ wt.getD n 0 = 0
  nd : told.Nodup
/-- each told is the least of those that were free -/
def Gr (N : Nat) (ab : List (List Nat)) (wt0 T : List Nat) : Prop := ∀ (i t : Nat), T[i]? = some t → t < N ∧ t ∉ T.take i ∧ Free ab wt0 (T.take i) t ∧ ∀ n, n < N → n ∉ T.take i → Free ab wt0 (T.take i) n → t ≤ n
section
variable {N : Nat} {ab : List (List Nat)} {wt0 told rest wt ready ys : List Nat} {y n m : Nat}
theorem OI.free (h : OI N ab wt0 told [] wt ready) (hn : n < N) : wt.getD n 0 = 0 ↔ Free ab wt0 told n := by
  have := h.eq n hn
  simp only [List.count_nil, Nat.add_zero] at this
  unfold Free
  omega
theorem Gr.snoc (hg : Gr N ab wt0 told) (h : OI N ab wt0 told [] wt (y :: ys)) : Gr N ab wt0 (told ++ [y]) := by
  intro i t ht
  by_cases hi : i < told.length
  · rw [List.getElem?_append_left hi] at ht
    rw [List.take_append_of_le_length (by omega)]
    exact hg i t ht
  · have hi2 : i = told.length := by
      have := (List.getElem?_eq_some_iff.1 ht).1
      simp at this; omega
    subst hi2
    rw [List.getElem?_append_right (Nat.le_refl _)] at ht
    simp at ht
    subst ht
    rw [List.take_append_of_le_length (Nat.le_refl _), List.take_length]
    obtain ⟨h1, h2, h3⟩ := (h.mem y).1 (by simp)
    refine ⟨h1, h2, (h.free h1).1 h3, fun n hn hnt hf => ?_⟩
    have hm := (h.mem n).2 ⟨hn, hnt, (h.free hn).2 hf⟩
    rcases List.mem_cons.1 hm with rfl | hm
    · exact Nat.le_refl _
    · have := (List.pairwise_cons.1 h.rise).1 n hm
      omega
theorem OI.take (h : OI N ab wt0 told [] wt (y :: ys)) : OI N ab wt0 (told ++ [y]) (ab.getD y []) wt ys := by
  obtain ⟨h1, h2, h3⟩ := (h.mem y).1 (by simp)
  have hr := List.pairwise_cons.1 h.rise
  refine ⟨fun n hn => ?_, h.len, hr.2, fun n => ?_, fun n hn => ?_, ?_⟩
  · have := h.eq n hn
    rw [sumOf_snoc]
    simp only [List.count_nil] at this
    omega
  · constructor
    · intro hn
      obtain ⟨a1, a2, a3⟩ := (h.mem n).1 (by simp [hn])
      have := hr.1 n hn
      exact ⟨a1, by simp only [List.mem_append, List.mem_singleton, not_or]; exact ⟨a2, by omega⟩, a3⟩
    · rintro ⟨a1, a2, a3⟩
      simp only [List.mem_append, List.mem_singleton, not_or] at a2
      have := (h.mem n).2 ⟨a1, a2.1, a3⟩
      rcases List.mem_cons.1 this with e | e
      · exact absurd e a2.2
      · exact e
  · rcases List.mem_append.1 hn with hn | hn
    · exact h.zero n hn
    · obtain rfl := List.mem_singleton.1 hn
      exact ⟨h1, h3⟩
  · rw [List.nodup_append]
    refine ⟨h.nd, by simp, fun a ha b hb e => ?_⟩
    obtain rfl := List.mem_singleton.1 hb
    exact h2 (by rw [← e]; exact ha)
theorem OI.pos (h : OI N ab wt0 told (n :: rest) wt ready) (hn : n < N) (hc : sumOf ab told n ≤ wt0.getD n 0) : 1 ≤ wt.getD n 0 := by
  have := h.eq n hn
  rw [List.count_cons_self] at this
  omega
theorem getD_set (wt : List Nat) (n m k : Nat) (hn : n < wt.length) : (wt.set n m).getD k 0 = if k = n then m else wt.getD k 0 := by
  rw [List.getD_eq_getElem?_getD, List.getD_eq_getElem?_getD]
  by_cases hk : k = n
  · subst hk
    rw [List.getElem?_set_self hn, if_pos rfl]; rfl
  · rw [List.getElem?_set_ne (by omega), if_neg hk]
theorem OI.step0 (h : OI N ab wt0 told (n :: rest) wt ready) (hn : n < N) (hw : wt.getD n 0 = m + 1) (hm : m ≠ 0) : OI N ab wt0 told rest (wt.set n m) ready := by
  have hnt : n ∉ told := fun e => by have := (h.zero n e).2; omega
  refine ⟨fun k hk => ?_, by simp [h.len], h.rise, fun k => ?_, fun k hk => ?_, h.nd⟩
  · have := h.eq k hk
    rw [getD_set wt n m k (by rw [h.len]; exact hn)]
    by_cases e : k = n
    · subst e
      rw [if_pos rfl]
      rw [List.count_cons_self] at this
      omega
    · rw [if_neg e]
      rw [List.count_cons_of_ne (by omega)] at this
      exact this
  · rw [h.mem k, getD_set wt n m k (by rw [h.len]; exact hn)]
    by_cases e : k = n
    · subst e; rw [if_pos rfl]
      constructor
      · rintro ⟨_, _, a⟩; omega
      · rintro ⟨_, _, a⟩; omega
    · rw [if_neg e]
  · rw [getD_set wt n m k (by rw [h.len]; exact hn), if_neg (fun e => hnt (by rw [← e]; exact hk))]
    exact h.zero k hk
theorem insAt_rise : ∀ (xs : List Nat), xs.Pairwise (· < ·) → n ∉ xs → (insAt (xs.countP (fun y => decide (y < n))) n xs).Pairwise (· < ·) ∧ ∀ k, k ∈ insAt (xs.countP (fun y => decide (y < n))) n xs ↔ k = n ∨ k ∈ xs
  | [], _, _ => by simp [insAt]
  | x :: t, hr, hn => by
    have hr2 := List.pairwise_cons.1 hr
    have hnx : n ≠ x := fun e => hn (by simp [e])
    by_cases hx : x < n
    · have ih := insAt_rise t hr2.2 (fun e => hn (by simp [e]))
      have e : insAt ((x :: t).countP (fun y => decide (y < n))) n (x :: t) = x :: insAt (t.countP (fun y => decide (y < n))) n t := by
        rw [List.countP_cons_of_pos (by simpa using hx)]; rfl
      rw [e]
      refine ⟨List.pairwise_cons.2 ⟨fun k hk => ?_, ih.1⟩, fun k => ?_⟩
      · rcases (ih.2 k).1 hk with rfl | hk
        · exact hx
        · exact hr2.1 k hk
      · simp only [List.mem_cons, ih.2 k]
        constructor
        · rintro (h | h | h)
          · exact .inr (.inl h)
          · exact .inl h
          · exact .inr (.inr h)
        · rintro (h | h | h)
          · exact .inr (.inl h)
          · exact .inl h
          · exact .inr (.inr h)
    · have h0 : (x :: t).countP (fun y => decide (y < n)) = 0 := by
        rw [List.countP_eq_zero]
        intro a ha
        rcases List.mem_cons.1 ha with rfl | ha
        · simpa using hx
        · have := hr2.1 a ha
          simp; omega
      rw [h0]
      refine ⟨?_, fun k => by simp [insAt]⟩
      show (n :: x :: t).Pairwise (· < ·)
      refine List.pairwise_cons.2 ⟨fun k hk => ?_, hr⟩
      rcases List.mem_cons.1 hk with rfl | hk
      · omega
      · have := hr2.1 k hk; omega
theorem OI.step1 (h : OI N ab wt0 told (n :: rest) wt ready) (hn : n < N) (hw : wt.getD n 0 = 0 + 1) : OI N ab wt0 told rest (wt.set n 0) (insAt (ready.countP (fun y => decide (y < n))) n ready) := by
  have hnt : n ∉ told := fun e => by have := (h.zero n e).2; omega
  have hnr : n ∉ ready := fun e => by have := ((h.mem n).1 e).2.2; omega
  have hi := insAt_rise ready h.rise hnr
  refine ⟨fun k hk => ?_, by simp [h.len], hi.1, fun k => ?_, fun k hk => ?_, h.nd⟩
  · have := h.eq k hk
    rw [getD_set wt n 0 k (by rw [h.len]; exact hn)]
    by_cases e : k = n
    · subst e
      rw [if_pos rfl]
      rw [List.count_cons_self] at this
      omega
    · rw [if_neg e]
      rw [List.count_cons_of_ne (by omega)] at this
      exact this
  · rw [hi.2 k, h.mem k, getD_set wt n 0 k (by rw [h.len]; exact hn)]
    by_cases e : k = n
    · subst e; rw [if_pos rfl]
      exact ⟨fun _ => ⟨hn, hnt, rfl⟩, fun _ => .inl rfl⟩
    · rw [if_neg e]
      exact ⟨fun a => a.resolve_left e, .inr⟩
  · rw [getD_set wt n 0 k (by rw [h.len]; exact hn), if_neg (fun e => hnt (by rw [← e]; exact hk))]
    exact h.zero k hk
/-- the beginning -/
def firstR (wt0 : List Nat) (i : Nat) : List Nat := (List.range i).filter (fun n => wt0.getD n 0 = 0)
theorem firstR_succ (wt0 : List Nat) (i : Nat) : firstR wt0 (i + 1) = if wt0.getD i 0 = 0 then firstR wt0 i ++ [i] else firstR wt0 i := by
  unfold firstR
  rw [List.range_succ, List.filter_append]
  by_cases h : wt0.getD i 0 = 0
  · simp only [List.filter_cons, List.filter_nil, h, if_true, decide_true]
  · simp only [List.filter_cons, List.filter_nil, h, if_false, decide_false, Bool.false_eq_true, List.append_nil]
theorem firstR_length (wt0 : List Nat) (i : Nat) : (firstR wt0 i).length ≤ i := by
  unfold firstR
  have := List.length_filter_le (fun n => decide (wt0.getD n 0 = 0)) (List.range i)
  simpa using this
theorem OI.start (ab : List (List Nat)) (wt0 : List Nat) : OI wt0.length ab wt0 [] [] wt0 (firstR wt0 wt0.length) := by
  refine ⟨fun n hn => by simp [sumOf], rfl, ?_, fun n => by simp [firstR], by simp, List.nodup_nil⟩
  exact List.Pairwise.filter _ List.pairwise_lt_range
/-- no more are ready than there are -/
theorem rise_len : ∀ (xs : List Nat) (N : Nat), xs.Pairwise (· < ·) → (∀ n ∈ xs, n < N) → xs.length ≤ N := by
  intro xs N hr hn
  have key : ∀ (xs : List Nat) (lo : Nat), xs.Pairwise (· < ·) → (∀ n ∈ xs, lo ≤ n ∧ n < N) → lo ≤ N → xs.length + lo ≤ N := by
    intro xs
    induction xs with
    | nil => intro lo _ _ h; simpa using h
    | cons x t ih =>
      intro lo hr hb hl
      have hx := hb x (by simp)
      have hr2 := List.pairwise_cons.1 hr
      have := ih (x + 1) hr2.2 (fun n hn => ⟨hr2.1 n hn, (hb n (by simp [hn])).2⟩) (by omega)
      simp only [List.length_cons]; omega
  have := key xs 0 hr (fun n h => ⟨Nat.zero_le _, hn n h⟩) (Nat.zero_le _)
  omega
theorem OI.ready_len (h : OI N ab wt0 told rest wt ready) : ready.length ≤ N := rise_len ready N h.rise (fun n hn => ((h.mem n).1 hn).1)
theorem nodup_len : ∀ (told : List Nat) (N : Nat), told.Nodup → (∀ n ∈ told, n < N) → told.length ≤ N
  | told, N, hn, hb => by
    have key : ∀ (a b : List Nat), a.Nodup → (∀ x ∈ a, x ∈ b) → a.length ≤ b.length := by
      intro a
      induction a with
      | nil => intro b _ _; exact Nat.zero_le _
      | cons x a ih =>
        intro b hn h
        rw [List.nodup_cons] at hn
        have hx := h x (by simp)
        have := ih (b.erase x) hn.2 (fun y hy => by
          have hyx : y ≠ x := fun e => hn.1 (by rw [← e]; exact hy)
          exact (List.mem_erase_of_ne hyx).2 (h y (by simp [hy])))
        rw [List.length_erase_of_mem hx] at this
        have hp : 0 < b.length := List.length_pos_of_mem hx
        simp only [List.length_cons]; omega
    have := key told (List.range N) hn (fun x hx => by simpa using hb x hx)
    simpa using this
theorem OI.told_len (h : OI N ab wt0 told rest wt ready) : told.length ≤ N := nodup_len told N h.nd (fun n hn => (h.zero n hn).1)
end
end Go.Proofs.Ytijkpkcopjkhkaa.Oct
