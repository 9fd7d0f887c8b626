/-
  Layer 17 (acl): what is decided hangs on which rules match, not on their order.
-/
import Derived.Test.YtngkajeghmogmaaAsk
namespace Go.Proofs.Ytngkajeghmogmaa.Oct
open Go.RowKit Go.Shelf

theorem mx_ge : ∀ (l : List Ru) (m : Nat), m ≤ l.foldl (fun m r => max m r.pre.size) m ∧ ∀ r ∈ l, r.pre.size ≤ l.foldl (fun m r => max m r.pre.size) m
  | [], m => ⟨Nat.le_refl _, by simp⟩
  | x :: l, m => by
    have h := mx_ge l (max m x.pre.size)
    simp only [List.foldl_cons]
    refine ⟨by omega, fun r hr => ?_⟩
    rcases List.mem_cons.1 hr with rfl | hr
    · omega
    · exact h.2 r hr
theorem mx_at : ∀ (l : List Ru) (m : Nat), l.foldl (fun m r => max m r.pre.size) m = m ∨ ∃ r ∈ l, r.pre.size = l.foldl (fun m r => max m r.pre.size) m
  | [], m => .inl rfl
  | x :: l, m => by
    simp only [List.foldl_cons]
    rcases mx_at l (max m x.pre.size) with h | ⟨r, hr, h⟩
    · by_cases hm : x.pre.size ≤ m
      · exact .inl (by rw [h]; omega)
      · exact .inr ⟨x, by simp, by rw [h]; omega⟩
    · exact .inr ⟨r, by simp [hr], h⟩
/-- the rules with the longest prefix -/
def Top (ms : List Ru) (r : Ru) : Prop := r ∈ ms ∧ ∀ q ∈ ms, q.pre.size ≤ r.pre.size
theorem mem_near {ms : List Ru} {r : Ru} : r ∈ near ms ↔ Top ms r := by
  unfold near Top
  rw [List.mem_filter]
  refine and_congr_right fun hr => ?_
  have h1 := mx_ge ms 0
  rw [beq_iff_eq]
  constructor
  · intro h q hq
    rw [h]
    exact h1.2 q hq
  · intro h
    rcases mx_at ms 0 with h2 | ⟨q, hq, h2⟩
    · have := h1.2 r hr
      unfold mx
      omega
    · have a := h q hq
      have b := h1.2 r hr
      unfold mx
      omega
theorem near_nil {ms : List Ru} : near ms = [] ↔ ms = [] := by
  constructor
  · intro h
    cases ms with
    | nil => rfl
    | cons x ms =>
      exfalso
      rcases mx_at (x :: ms) 0 with h2 | ⟨q, hq, h2⟩
      · have : x ∈ near (x :: ms) := by
          unfold near
          rw [List.mem_filter]
          have := (mx_ge (x :: ms) 0).2 x (by simp)
          exact ⟨by simp, by rw [beq_iff_eq]; unfold mx; omega⟩
        rw [h] at this
        simp at this
      · have : q ∈ near (x :: ms) := by
          unfold near
          rw [List.mem_filter]
          exact ⟨hq, by rw [beq_iff_eq]; exact h2⟩
        rw [h] at this
        simp at this
  · rintro rfl; rfl
/-- what the rules that match decide -/
def decM (ms : List Ru) (role : Bool) : Bool := if (near ms).isEmpty then role else !((near ms).any (·.deny))
theorem decM_iff (ms : List Ru) (role : Bool) : decM ms role = true ↔ (ms = [] ∧ role = true) ∨ (ms ≠ [] ∧ ∀ r, Top ms r → r.deny = false) := by
  unfold decM
  by_cases h : ms = []
  · subst h
    simp [near]
  · have hn : near ms ≠ [] := fun e => h (near_nil.1 e)
    have he : (near ms).isEmpty = false := by
      cases hq : near ms with
      | nil => exact absurd hq hn
      | cons _ _ => rfl
    rw [he]
    simp only [Bool.false_eq_true, if_false, Bool.not_eq_true', h, false_and, not_false_eq_true, true_and, false_or, ne_eq]
    rw [List.any_eq_false]
    constructor
    · intro hh r hr
      have := hh r (mem_near.2 hr)
      simpa using this
    · intro hh r hr
      simpa using hh r (mem_near.1 hr)
theorem dec_eq_M (l : List Ru) (k : Ak) : dec l k = if isPath k.path.data.toList && rightOk k.right then decM (l.filter fun r => matB r k.s k.ch k.path k.right) (k.s.role == 2) else false := rfl
def mat (k : Ak) (r : Ru) : Bool := matB r k.s k.ch k.path k.right
theorem decM_same {ms ns : List Ru} (role : Bool) (h : ∀ r, r ∈ ms ↔ r ∈ ns) : decM ms role = decM ns role := by
  have ht : ∀ r, Top ms r ↔ Top ns r := fun r => by
    unfold Top
    rw [h r]
    exact and_congr_right fun _ => ⟨fun hh q hq => hh q ((h q).2 hq), fun hh q hq => hh q ((h q).1 hq)⟩
  have h0 : ms = [] ↔ ns = [] := by
    simp only [List.eq_nil_iff_forall_not_mem]
    exact ⟨fun hh r hr => hh r ((h r).2 hr), fun hh r hr => hh r ((h r).1 hr)⟩
  rw [Bool.eq_iff_iff, decM_iff, decM_iff, h0]
  simp only [ne_eq, h0, ht]
/-- no answer hangs on the order -/
theorem dec_same {l m : List Ru} (k : Ak) (h : ∀ r, r ∈ l ↔ r ∈ m) : dec l k = dec m k := by
  rw [dec_eq_M, dec_eq_M]
  congr 1
  refine decM_same _ fun r => ?_
  simp only [List.mem_filter, h r]
theorem dec_apart {l : List Ru} {r : Ru} {k : Ak} (h : matB r k.s k.ch k.path k.right = false) : dec ([r] ++ l) k = dec l k := by
  rw [dec_eq_M, dec_eq_M]
  simp [h]
theorem top_more {ms : List Ru} {r x : Ru} (h : Top (ms ++ [r]) x) (hx : x ∈ ms) : Top ms x := ⟨hx, fun q hq => h.2 q (List.mem_append_left _ hq)⟩
theorem decM_allow {ms : List Ru} {r : Ru} {role : Bool} (hd : r.deny = false) (h : decM ms role = true) : decM (ms ++ [r]) role = true := by
  rw [decM_iff] at *
  refine .inr ⟨by simp, fun x hx => ?_⟩
  rcases List.mem_append.1 hx.1 with hm | hm
  · rcases h with ⟨e, _⟩ | ⟨_, h⟩
    · subst e; simp at hm
    · exact h x (top_more hx hm)
  · have : x = r := by simpa using hm
    rw [this]; exact hd
theorem decM_deny {ms : List Ru} {r : Ru} {role : Bool} (hd : r.deny = true) (h : decM (ms ++ [r]) role = true) : decM ms role = true := by
  rw [decM_iff] at *
  rcases h with ⟨e, _⟩ | ⟨_, h⟩
  · simp at e
  · have hnr : ¬ Top (ms ++ [r]) r := fun ht => by rw [h r ht] at hd; cases hd
    obtain ⟨q, hq, hlt⟩ : ∃ q ∈ ms, r.pre.size < q.pre.size := by
      refine Classical.byContradiction fun hn => hnr ⟨by simp, fun q hq => ?_⟩
      rcases List.mem_append.1 hq with hm | hm
      · exact Nat.le_of_not_lt fun hl => hn ⟨q, hm, hl⟩
      · have : q = r := by simpa using hm
        rw [this]; exact Nat.le_refl _
    refine .inr ⟨fun e => by subst e; simp at hq, fun x hx => h x ⟨List.mem_append_left _ hx.1, fun y hy => ?_⟩⟩
    rcases List.mem_append.1 hy with hm | hm
    · exact hx.2 y hm
    · have : y = r := by simpa using hm
      have := hx.2 q hq
      subst y
      omega
theorem dec_allow {l : List Ru} {r : Ru} {k : Ak} (hd : r.deny = false) (h : dec l k = true) : dec (l ++ [r]) k = true := by
  rw [dec_eq_M] at *
  split at h
  · rename_i hc
    rw [if_pos hc, List.filter_append]
    by_cases hm : matB r k.s k.ch k.path k.right = true
    · simp only [List.filter_cons, hm, if_true, List.filter_nil]
      exact decM_allow hd h
    · simp only [List.filter_cons, hm, if_false, List.filter_nil, List.append_nil, Bool.false_eq_true]
      exact h
  · cases h
theorem dec_deny {l : List Ru} {r : Ru} {k : Ak} (hd : r.deny = true) (h : dec (l ++ [r]) k = true) : dec l k = true := by
  rw [dec_eq_M] at *
  split at h
  · rename_i hc
    rw [if_pos hc]
    rw [List.filter_append] at h
    by_cases hm : matB r k.s k.ch k.path k.right = true
    · simp only [List.filter_cons, hm, if_true, List.filter_nil] at h
      exact decM_deny hd h
    · simp only [List.filter_cons, hm, if_false, List.filter_nil, List.append_nil, Bool.false_eq_true] at h
      exact h
  · cases h
#print axioms dec_deny
#print axioms dec_same
/-- a prefix that covers is the path's beginning -/
theorem cov_pre {p s : ByteArray} (h : cov p s = true) : p.data.toList <+: s.data.toList := by
  unfold cov at h
  rw [List.any_eq_true] at h
  obtain ⟨x, hm, hf⟩ := h
  unfold hdl at hm
  split at hm
  · obtain ⟨t, ht, rfl⟩ := List.mem_map.1 hm
    simp only [fits, Bool.or_eq_true, beq_iff_eq, mkS_data] at hf
    rcases hf with hf | hf
    · rw [hf]; exact List.nil_prefix
    · rw [hf]
      exact headOf_prefix _ t (by simpa using ht)
  · simp at hm
theorem cov_size {p s : ByteArray} (h : cov p s = true) : p.size ≤ s.size := by
  have := (cov_pre h).length_le
  rw [size_list, size_list]
  exact this
theorem cov_all {p s : ByteArray} (h : cov p s = true) (hs : p.size = s.size) : p.data.toList = s.data.toList := by
  refine (cov_pre h).eq_of_length ?_
  rw [← size_list, ← size_list]
  exact hs
/-- a rule of the very path decides -/
def very (path : BA) (right : Int) (deny : Bool) : Ru := ⟨⟨#[42]⟩, ⟨#[]⟩, path, right, deny⟩
theorem very_mat {k : Ak} {deny : Bool} (hp : isPath k.path.data.toList = true) (hr : rightOk k.right = true) : matB (very k.path k.right deny) k.s k.ch k.path k.right = true := by
  have h1 : whoOk ⟨#[42]⟩ = true := by kernel_rfl
  have h2 : emp ⟨#[]⟩ = true := by kernel_rfl
  have h3 : ((kindOf ⟨#[42]⟩).toList == [42]) = true := by kernel_rfl
  unfold matB ruleOk meansB very
  dsimp only
  rw [h1, h2, hp, hr, h3, cov_self, hp]
  simp
def deniedAt (k : Ak) (l : List Ru) : Bool := l.any fun x => x.deny && x.pre.toList == k.path.toList && matB x k.s k.ch k.path k.right
theorem mat_cov {k : Ak} {x : Ru} (h : matB x k.s k.ch k.path k.right = true) : cov x.pre k.path = true := by
  unfold matB at h
  simp only [Bool.and_eq_true] at h
  exact h.1.2
theorem dec_very {k : Ak} {l : List Ru} {deny : Bool} (hp : isPath k.path.data.toList = true) (hr : rightOk k.right = true) : dec (l ++ [very k.path k.right deny]) k = !(deny || deniedAt k l) := by
  have hm := very_mat (k := k) (deny := deny) hp hr
  rw [dec_eq_M, hp, hr]
  simp only [Bool.and_self, if_true, List.filter_append, List.filter_cons, hm, List.filter_nil]
  rw [Bool.eq_iff_iff, decM_iff]
  have hsz : ∀ q ∈ (l.filter fun r => matB r k.s k.ch k.path k.right) ++ [very k.path k.right deny], q.pre.size ≤ k.path.size := by
    intro q hq
    rcases List.mem_append.1 hq with hq | hq
    · exact cov_size (mat_cov (List.mem_filter.1 hq).2)
    · have : q = very k.path k.right deny := by simpa using hq
      rw [this]; exact Nat.le_refl _
  have htop : ∀ x, Top ((l.filter fun r => matB r k.s k.ch k.path k.right) ++ [very k.path k.right deny]) x ↔ x ∈ ((l.filter fun r => matB r k.s k.ch k.path k.right) ++ [very k.path k.right deny]) ∧ x.pre.size = k.path.size := by
    intro x
    refine and_congr_right fun hx => ⟨fun h => ?_, fun h q hq => ?_⟩
    · have a := h (very k.path k.right deny) (by simp)
      have b := hsz x hx
      have : (very k.path k.right deny).pre.size = k.path.size := rfl
      omega
    · rw [h]; exact hsz q hq
  simp only [Bool.not_eq_true', Bool.or_eq_false_iff]
  constructor
  · rintro (⟨e, _⟩ | ⟨_, h⟩)
    · simp at e
    · refine ⟨?_, ?_⟩
      · exact h (very k.path k.right deny) ((htop _).2 ⟨by simp, rfl⟩)
      · unfold deniedAt
        rw [List.any_eq_false]
        intro x hx hc
        simp only [Bool.and_eq_true, beq_iff_eq] at hc
        have e : x.pre.size = k.path.size := by
          rw [size_list, size_list, ← toList_is, ← toList_is, hc.1.2]
        have := h x ((htop x).2 ⟨List.mem_append_left _ (List.mem_filter.2 ⟨hx, hc.2⟩), e⟩)
        rw [hc.1.1] at this
        cases this
  · rintro ⟨hd, ha⟩
    refine .inr ⟨by simp, fun x hx => ?_⟩
    obtain ⟨hx, hs⟩ := (htop x).1 hx
    rcases List.mem_append.1 hx with hx | hx
    · have hmm := List.mem_filter.1 hx
      unfold deniedAt at ha
      rw [List.any_eq_false] at ha
      have := ha x hmm.1
      have e : (x.pre.toList == k.path.toList) = true := by
        rw [beq_iff_eq, toList_is, toList_is]
        exact cov_all (mat_cov hmm.2) hs
      rw [e, hmm.2] at this
      simpa using this
    · have : x = very k.path k.right deny := by simpa using hx
      rw [this]; exact hd
#print axioms dec_very
end Go.Proofs.Ytngkajeghmogmaa.Oct
