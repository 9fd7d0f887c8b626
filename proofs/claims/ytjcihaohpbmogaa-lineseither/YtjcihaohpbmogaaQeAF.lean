/-
  Layer 11 (lines), plain: which lines may be shown next: all that lead to them were told, which is that none ahead of them was not told; there is one.
  Layer 11 (lines), plain: two lists that rise and hold the same are the same; two additions in either order.
  Layer 11 (lines), plain: the least of a list is the first of what rises and holds the same.
  Layer 11 (lines), plain: the order in which lines are told: again and again the first one of those that may be told with a step from the last one, else the first one of them.
-/
import Derived.Test.YtjcihaohpbmogaaQeAE
/- Layer 11 (lines), plain: which lines may be shown next: all that lead to them were told, which is that none ahead of them was not told; there is one. -/
namespace Go.Proofs.Ytjcihaohpbmogaa.Gr
set_option linter.unusedVariables false

/-- told lines have with them all lines that lead to them -/
def Closed {α : Type} (step : α → List α) (all told : List α) : Prop := ∀ x ∈ told, ∀ u ∈ all, x ∈ step u → u ∈ told
/-- from a line one comes to lines, or to what leads nowhere -/
def Stays {α : Type} (step : α → List α) (all : List α) : Prop := ∀ k ∈ all, ∀ u, Reach step k u → u ∈ all ∨ step u = []
theorem told_back {α : Type} {step : α → List α} {all told : List α} (hc : Closed step all told) (hs : Stays step all) {k u : α} (hk : k ∈ all) (h : Reach step k u) (hu : u ∈ told) : k ∈ told := by
  induction h with
  | one h1 => exact hc _ hu k hk h1
  | @more v u h0 h1 ih =>
    rcases hs k hk v h0 with hv | hv
    · exact ih (hc _ hu v hv h1)
    · rw [hv] at h1; cases h1
theorem free_iff {α : Type} {step : α → List α} {all told : List α} (hc : Closed step all told) (hs : Stays step all) (n : α) :
    (∀ u ∈ all, n ∈ step u → u ∈ told) ↔ ∀ k ∈ all, k ∉ told → ¬ Reach step k n := by
  constructor
  · intro h k hk hkt hr
    cases hr with
    | one h1 => exact hkt (h k hk h1)
    | @more u _ h0 h1 =>
      rcases hs k hk u h0 with hu | hu
      · exact hkt (told_back hc hs hk h0 (h u hu h1))
      · rw [hu] at h1; cases h1
  · intro h u hu h1
    exact Classical.byContradiction fun hut => h u hu hut (.one h1)
/-- one more is told: still closed -/
theorem Closed.add {α : Type} {step : α → List α} {all told : List α} (h : Closed step all told) {n : α} (hn : ∀ u ∈ all, n ∈ step u → u ∈ told) : Closed step all (told ++ [n]) := by
  intro x hx u hu h1
  refine List.mem_append_left _ ?_
  rcases List.mem_append.1 hx with hx | hx
  · exact h x hx u hu h1
  · rw [List.mem_singleton.1 hx] at h1
    exact hn u hu h1
theorem Closed.nil {α : Type} (step : α → List α) (all : List α) : Closed step all [] := fun x hx => by cases hx
/-- if a line is left, one may be told -/
theorem ready_one {α : Type} {step : α → List α} {all told : List α} (f : α → Nat) (hf : ∀ a b, b ∈ step a → f a < f b) : ∀ (m : Nat) (n : α), f n ≤ m → n ∈ all → n ∉ told → ∃ x ∈ all, x ∉ told ∧ ∀ u ∈ all, x ∈ step u → u ∈ told
  | m, n, hm, hn, ht => by
    by_cases h : ∀ u ∈ all, n ∈ step u → u ∈ told
    · exact ⟨n, hn, ht, h⟩
    · obtain ⟨u, h1⟩ := Classical.not_forall.1 h
      have h2 := Classical.not_imp.1 h1
      have h3 := Classical.not_imp.1 h2.2
      have hlt := hf u n h3.1
      match m, hm with
      | 0, hm => omega
      | m + 1, hm => exact ready_one f hf m u (by omega) h2.1 h3.2
end Go.Proofs.Ytjcihaohpbmogaa.Gr

/- Layer 11 (lines), plain: two lists that rise and hold the same are the same; two additions in either order. -/
namespace Go.Proofs.Ytjcihaohpbmogaa.Gr
set_option linter.unusedVariables false

theorem rising_same {α : Type} (f : α → Nat) : ∀ (l r : List α), l.Pairwise (fun a b => f a < f b) → r.Pairwise (fun a b => f a < f b) → (∀ x, x ∈ l ↔ x ∈ r) → l = r
  | [], [], _, _, _ => rfl
  | [], y :: r, _, _, h => by have := (h y).2 (by simp); cases this
  | x :: l, [], _, _, h => by have := (h x).1 (by simp); cases this
  | x :: l, y :: r, hl, hr, h => by
    rw [List.pairwise_cons] at hl hr
    have hxy : x = y := by
      refine Classical.byContradiction fun hne => ?_
      have h1 : x ∈ r := by
        rcases List.mem_cons.1 ((h x).1 (by simp)) with e | e
        · exact absurd e hne
        · exact e
      have h2 : y ∈ l := by
        rcases List.mem_cons.1 ((h y).2 (by simp)) with e | e
        · exact absurd e.symm hne
        · exact e
      have := hl.1 y h2
      have := hr.1 x h1
      omega
    subst hxy
    congr 1
    refine rising_same f l r hl.2 hr.2 fun z => ?_
    constructor
    · intro hz
      rcases List.mem_cons.1 ((h z).1 (List.mem_cons_of_mem _ hz)) with e | e
      · subst e; exact absurd (hl.1 z hz) (Nat.lt_irrefl _)
      · exact e
    · intro hz
      rcases List.mem_cons.1 ((h z).2 (List.mem_cons_of_mem _ hz)) with e | e
      · subst e; exact absurd (hr.1 z hz) (Nat.lt_irrefl _)
      · exact e
/-- a chain of lines that all are ahead of the next ones stands so in each order in which steps rise -/
theorem chain_shown {α : Type} {step : α → List α} (f : α → Nat) (hf : ∀ a b, b ∈ step a → f a < f b) {C S : List α} (hC : C.Pairwise (Reach step)) (hS : S.Pairwise (fun a b => f a < f b)) (hm : ∀ x, x ∈ C ↔ x ∈ S) : C = S :=
  rising_same f C S (hC.imp fun h => h.rises f hf) hS hm
theorem steps_swap {α : Type} [DecidableEq α] (top bot : α) (L : List (Ad α)) (a b : Ad α) (v x : α) : x ∈ steps top bot (L ++ [a] ++ [b]) v ↔ x ∈ steps top bot (L ++ [b] ++ [a]) v := by
  rw [steps_add, steps_add, steps_add, steps_add]
  simp only [List.mem_append]
  constructor
  · rintro ((h | h) | h)
    · exact .inl (.inl h)
    · exact .inr h
    · exact .inl (.inr h)
  · rintro ((h | h) | h)
    · exact .inl (.inl h)
    · exact .inr h
    · exact .inl (.inr h)
theorem reach_swap {α : Type} [DecidableEq α] (top bot : α) (L : List (Ad α)) (a b : Ad α) (x y : α) : Reach (steps top bot (L ++ [a] ++ [b])) x y ↔ Reach (steps top bot (L ++ [b] ++ [a])) x y :=
  ⟨Reach.sub fun u v h => (steps_swap top bot L a b u v).1 h, Reach.sub fun u v h => (steps_swap top bot L a b u v).2 h⟩
end Go.Proofs.Ytjcihaohpbmogaa.Gr

/- Layer 11 (lines), plain: the least of a list is the first of what rises and holds the same. -/
namespace Go.Proofs.Ytjcihaohpbmogaa.Gr
set_option linter.unusedVariables false

/-- the least so far, gone on with -/
def minOf {α : Type} (lt : α → α → Bool) : α → List α → α
  | m, [] => m
  | m, x :: l => minOf lt (if lt x m = true then x else m) l
theorem minOf_mem {α : Type} (lt : α → α → Bool) : ∀ (l : List α) (m : α), minOf lt m l ∈ m :: l
  | [], m => by simp [minOf]
  | x :: l, m => by
    unfold minOf
    rcases List.mem_cons.1 (minOf_mem lt l (if lt x m = true then x else m)) with h | h
    · rw [h]
      split <;> simp
    · simp [h]
theorem minOf_least {α : Type} (lt : α → α → Bool) (ht : ∀ a b c, lt a b = true → lt b c = true → lt a c = true) (hi : ∀ a, lt a a = false) : ∀ (l : List α) (m : α) (s : List α), (∀ y ∈ s, lt y m = false) → ∀ y, y ∈ s ∨ y = m ∨ y ∈ l → lt y (minOf lt m l) = false
  | [], m, s, hs, y, hy => by
    rcases hy with h | rfl | h
    · exact hs y h
    · exact hi y
    · cases h
  | x :: l, m, s, hs, y, hy => by
    unfold minOf
    have key : ∀ z ∈ m :: x :: s, lt z (if lt x m = true then x else m) = false := by
      intro z hz
      cases h : lt x m with
      | true =>
        rw [if_pos rfl]
        rcases List.mem_cons.1 hz with rfl | hz
        · cases h2 : lt z x with
          | false => rfl
          | true => have := ht _ _ _ h h2; rw [hi] at this; cases this
        · rcases List.mem_cons.1 hz with rfl | hz
          · exact hi z
          · cases h2 : lt z x with
            | false => rfl
            | true => have := ht _ _ _ h2 h; rw [hs z hz] at this; cases this
      | false =>
        rw [if_neg (by decide)]
        rcases List.mem_cons.1 hz with rfl | hz
        · exact hi z
        · rcases List.mem_cons.1 hz with rfl | hz
          · exact h
          · exact hs z hz
    refine minOf_least lt ht hi l _ (m :: x :: s) key y ?_
    rcases hy with h | rfl | h
    · exact .inl (by simp [h])
    · exact .inl (by simp)
    · rcases List.mem_cons.1 h with rfl | h
      · exact .inl (by simp)
      · exact .inr (.inr h)
/-- the first of what rises is the least of any list with the same in it -/
theorem least_first {α : Type} (lt : α → α → Bool) (ht : ∀ a b c, lt a b = true → lt b c = true → lt a c = true) (hi : ∀ a, lt a a = false) {S near : List α} {h m : α} (hS : (h :: S).Pairwise fun a b => lt a b = true) (hm : ∀ x, x ∈ h :: S ↔ x ∈ m :: near) : minOf lt m near = h := by
  have h1 := (hm _).2 (minOf_mem lt near m)
  rcases List.mem_cons.1 h1 with e | e
  · exact e
  · rw [List.pairwise_cons] at hS
    have h2 := hS.1 _ e
    have h3 : h ∈ m :: near := (hm h).1 (by simp)
    have h4 := minOf_least lt ht hi near m [] (by simp) h (.inr (List.mem_cons.1 h3))
    rw [h2] at h4
    cases h4
end Go.Proofs.Ytjcihaohpbmogaa.Gr

/- Layer 11 (lines), plain: the order in which lines are told: again and again the first one of those that may be told with a step from the last one, else the first one of them. -/
namespace Go.Proofs.Ytjcihaohpbmogaa.Gr
set_option linter.unusedVariables false
set_option linter.unusedSectionVars false
variable {α : Type} [DecidableEq α]

/-- a line may be told: all lines from which steps lead to it were -/
def rdy (fl : α → List α) (told : List α) (n : α) : Bool := (fl n).all fun u => decide (u ∈ told)
/-- a step leads to it from the one told last -/
def flw (fl : α → List α) (told : List α) (n : α) : Bool := match told.getLast? with
  | none => false
  | some l => decide (l ∈ fl n)
/-- those that were not told -/
def lft (vs told : List α) : List α := vs.filter fun v => decide (v ∉ told)
/-- the next one -/
def nxt (fl : α → List α) (vs told : List α) : Option α := match (lft vs told).find? fun n => rdy fl told n && flw fl told n with
  | some n => some n
  | none => (lft vs told).find? fun n => rdy fl told n
def run (fl : α → List α) (vs : List α) : Nat → List α → List α
  | 0, told => told
  | k + 1, told => match nxt fl vs told with
    | none => told
    | some n => run fl vs k (told ++ [n])
/-- all, in order -/
def ordr (fl : α → List α) (vs : List α) : List α := run fl vs vs.length []

theorem rdy_iff {fl : α → List α} {told : List α} {n : α} : rdy fl told n = true ↔ ∀ u ∈ fl n, u ∈ told := by
  simp [rdy, List.all_eq_true]
theorem lft_mem {vs told : List α} {n : α} : n ∈ lft vs told ↔ n ∈ vs ∧ n ∉ told := by simp [lft]
theorem nxt_some {fl : α → List α} {vs told : List α} {n : α} (h : nxt fl vs told = some n) : n ∈ vs ∧ n ∉ told ∧ rdy fl told n = true := by
  unfold nxt at h
  split at h
  · rename_i m hm
    cases h
    have h1 := List.mem_of_find?_eq_some hm
    have h2 := List.find?_some hm
    simp only [Bool.and_eq_true] at h2
    exact ⟨(lft_mem.1 h1).1, (lft_mem.1 h1).2, h2.1⟩
  · have h1 := List.mem_of_find?_eq_some h
    have h2 := List.find?_some h
    exact ⟨(lft_mem.1 h1).1, (lft_mem.1 h1).2, h2⟩
theorem nxt_none {fl : α → List α} {vs told : List α} (h : nxt fl vs told = none) : ∀ n ∈ vs, n ∉ told → rdy fl told n = false := by
  unfold nxt at h
  split at h
  · cases h
  · intro n hn ht
    have := List.find?_eq_none.1 h n (lft_mem.2 ⟨hn, ht⟩)
    simpa using this
/-- what the lines from which steps lead are -/
def From (step : α → List α) (vs : List α) (fl : α → List α) : Prop := ∀ n ∈ vs, ∀ u, u ∈ fl n ↔ u ∈ vs ∧ n ∈ step u
theorem rdy_from {step : α → List α} {vs : List α} {fl : α → List α} (h : From step vs fl) {told : List α} {n : α} (hn : n ∈ vs) : rdy fl told n = true ↔ ∀ u ∈ vs, n ∈ step u → u ∈ told := by
  rw [rdy_iff]
  constructor
  · exact fun k u hu h1 => k u ((h n hn u).2 ⟨hu, h1⟩)
  · exact fun k u hu => k u ((h n hn u).1 hu).1 ((h n hn u).1 hu).2
theorem nxt_is {step : α → List α} {vs : List α} {fl : α → List α} (h : From step vs fl) (f : α → Nat) (hf : ∀ a b, b ∈ step a → f a < f b) {told : List α} (hlt : ∃ n ∈ vs, n ∉ told) : ∃ n, nxt fl vs told = some n := by
  cases hx : nxt fl vs told with
  | some n => exact ⟨n, rfl⟩
  | none =>
    exfalso
    obtain ⟨n, hn, ht⟩ := hlt
    obtain ⟨x, h1, h2, h3⟩ := ready_one f hf (f n) n (Nat.le_refl _) hn ht
    have := nxt_none hx x h1 h2
    rw [(rdy_from h h1).2 h3] at this
    cases this
/-- what was told so far -/
structure Told (step : α → List α) (vs told : List α) : Prop where
  cl : Closed step vs told
  sub : ∀ x ∈ told, x ∈ vs
  nd : told.Nodup
  ord : told.Pairwise fun a b => ¬ Reach step b a
theorem Told.nil (step : α → List α) (vs : List α) : Told step vs [] := ⟨Closed.nil _ _, by simp, by simp, by simp⟩
theorem Told.add {step : α → List α} {vs told : List α} {fl : α → List α} (hF : From step vs fl) (hs : Stays step vs) (h : Told step vs told) {n : α} (hn : nxt fl vs told = some n) : Told step vs (told ++ [n]) := by
  obtain ⟨h1, h2, h3⟩ := nxt_some hn
  refine ⟨h.cl.add ((rdy_from hF h1).1 h3), fun x hx => ?_, ?_, ?_⟩
  · rcases List.mem_append.1 hx with hx | hx
    · exact h.sub x hx
    · rw [List.mem_singleton.1 hx]; exact h1
  · rw [List.nodup_append]
    exact ⟨h.nd, by simp, fun x hx y hy e => by rw [List.mem_singleton.1 hy] at e; subst e; exact h2 hx⟩
  · rw [List.pairwise_append]
    refine ⟨h.ord, by simp, fun x hx y hy k => ?_⟩
    rw [List.mem_singleton.1 hy] at k
    exact h2 (told_back h.cl hs h1 k hx)
theorem nodup_len : ∀ (a b : List α), a.Nodup → (∀ x ∈ a, x ∈ b) → a.length ≤ b.length
  | [], _, _, _ => Nat.zero_le _
  | x :: a, b, hn, h => by
    have hn' := List.nodup_cons.1 hn
    have hx := h x (by simp)
    have ih := nodup_len a (b.erase x) hn'.2 (fun y hy => (List.mem_erase_of_ne (by rintro rfl; exact hn'.1 hy)).2 (h y (by simp [hy])))
    rw [List.length_erase_of_mem hx] at ih
    have := List.length_pos_of_mem hx
    simp; omega
theorem mem_all {a b : List α} (ha : a.Nodup) (hs : ∀ x ∈ a, x ∈ b) (hl : b.length ≤ a.length) : ∀ x ∈ b, x ∈ a := by
  intro x hx
  refine Classical.byContradiction fun hn => ?_
  have := nodup_len (x :: a) b (List.nodup_cons.2 ⟨hn, ha⟩) (by
    intro y hy
    rcases List.mem_cons.1 hy with rfl | hy
    · exact hx
    · exact hs y hy)
  simp at this
  omega
/-- a list that misses some has fewer -/
theorem some_left {a b : List α} (hb : b.Nodup) (hl : a.length < b.length) : ∃ x ∈ b, x ∉ a := by
  refine Classical.byContradiction fun hc => ?_
  have := nodup_len b a hb (fun x hx => Classical.byContradiction fun h => hc ⟨x, hx, h⟩)
  omega
theorem run_told {step : α → List α} {vs : List α} {fl : α → List α} (hF : From step vs fl) (hs : Stays step vs) (f : α → Nat) (hf : ∀ a b, b ∈ step a → f a < f b) (hv : vs.Nodup) :
    ∀ (k : Nat) (told : List α), Told step vs told → told.length + k = vs.length → Told step vs (run fl vs k told) ∧ (run fl vs k told).length = vs.length
  | 0, told, h, hl => ⟨h, by show told.length = _; omega⟩
  | k + 1, told, h, hl => by
    obtain ⟨n, hn⟩ := nxt_is hF f hf (some_left (a := told) hv (by omega))
    unfold run
    rw [hn]
    exact run_told hF hs f hf hv k _ (h.add hF hs hn) (by simp; omega)
/-- in order all are told, each once, none behind one that it is ahead of -/
theorem ordr_told {step : α → List α} {vs : List α} {fl : α → List α} (hF : From step vs fl) (hs : Stays step vs) (f : α → Nat) (hf : ∀ a b, b ∈ step a → f a < f b) (hv : vs.Nodup) :
    Told step vs (ordr fl vs) ∧ (ordr fl vs).length = vs.length ∧ ∀ x, x ∈ ordr fl vs ↔ x ∈ vs := by
  have h := run_told hF hs f hf hv vs.length [] (Told.nil _ _) (by simp)
  exact ⟨h.1, h.2, fun x => ⟨h.1.sub x, mem_all h.1.nd h.1.sub (Nat.le_of_eq h.2.symm) x⟩⟩
/-- the order hangs on what steps lead to a line alone -/
theorem nxt_same {fl fl' : α → List α} {vs told : List α} (h : ∀ n ∈ vs, ∀ u, u ∈ fl n ↔ u ∈ fl' n) : nxt fl vs told = nxt fl' vs told := by
  have h1 : ∀ n ∈ lft vs told, rdy fl told n = rdy fl' told n := fun n hn => by
    have hn' := (lft_mem.1 hn).1
    rw [Bool.eq_iff_iff, rdy_iff, rdy_iff]
    exact ⟨fun k u hu => k u ((h n hn' u).2 hu), fun k u hu => k u ((h n hn' u).1 hu)⟩
  have h2 : ∀ n ∈ lft vs told, flw fl told n = flw fl' told n := fun n hn => by
    have hn' := (lft_mem.1 hn).1
    unfold flw
    split
    · rfl
    · exact decide_eq_decide.2 (h n hn' _)
  have find_congr : ∀ {p q : α → Bool} (l : List α), (∀ n ∈ l, p n = q n) → l.find? p = l.find? q := fun {p q} l => by
    induction l with
    | nil => intro _; rfl
    | cons x l ih =>
      intro hl
      rw [List.find?_cons, List.find?_cons, hl x (by simp), ih (fun n hn => hl n (by simp [hn]))]
  unfold nxt
  rw [find_congr _ (fun n hn => by rw [h1 n hn, h2 n hn]), find_congr _ h1]
theorem run_same {fl fl' : α → List α} {vs : List α} (h : ∀ n ∈ vs, ∀ u, u ∈ fl n ↔ u ∈ fl' n) : ∀ (k : Nat) (told : List α), run fl vs k told = run fl' vs k told
  | 0, _ => rfl
  | k + 1, told => by
    unfold run
    rw [nxt_same h]
    split
    · rfl
    · exact run_same h k _
theorem ordr_same {fl fl' : α → List α} {vs : List α} (h : ∀ n ∈ vs, ∀ u, u ∈ fl n ↔ u ∈ fl' n) : ordr fl vs = ordr fl' vs := run_same h _ _
end Go.Proofs.Ytjcihaohpbmogaa.Gr
