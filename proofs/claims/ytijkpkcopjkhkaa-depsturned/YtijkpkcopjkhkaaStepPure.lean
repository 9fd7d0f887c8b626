/-
  Layer 12 (deps): the steps as items tell them; needs and above mirror each other.
-/
import Derived.Test.YtijkpkcopjkhkaaOrder
namespace Go.Proofs.Ytijkpkcopjkhkaa.Oct

theorem find_key {ms : List (Hs × List Hs)} {x : Hs} {m : Hs × List Hs} (h : ms.find? (fun m => m.1 == x) = some m) : m.1 = x := by
  have := List.find?_some h
  simpa using this
theorem getS_appS (ms : List (Hs × List Hs)) (h x : Hs) (xs : List Hs) : getS (appS ms h xs) x = if x = h then getS ms h ++ xs else getS ms x := by
  unfold appS
  split
  · rename_i hm
    unfold getS
    rw [List.find?_map]
    have e : ((fun m : Hs × List Hs => m.1 == x) ∘ fun m => if m.1 = h then (m.1, m.2 ++ xs) else m) = fun m => m.1 == x := by
      funext m
      simp only [Function.comp]
      split <;> rfl
    rw [e]
    cases hf : ms.find? (fun m => m.1 == x) with
    | none =>
      by_cases hx : x = h
      · subst hx
        obtain ⟨m, hm1, hm2⟩ := List.mem_map.1 hm
        rw [List.find?_eq_none] at hf
        exact absurd (by simpa using hm2) (hf m hm1)
      · simp [hx]
    | some m =>
      have hk := find_key hf
      by_cases hx : x = h
      · subst hx
        simp [hf, hk]
      · have : ¬ m.1 = h := by rw [hk]; exact hx
        simp [hx, this]
  · rename_i hm
    unfold getS
    rw [List.find?_append]
    by_cases hx : x = h
    · subst hx
      have hn : ms.find? (fun m => m.1 == x) = none := by
        rw [List.find?_eq_none]
        intro m hmm e
        exact hm (List.mem_map.2 ⟨m, hmm, by simpa using e⟩)
      rw [hn]; simp
    · have : (fun m : Hs × List Hs => m.1 == x) (h, xs) = false := by simpa using fun e : h = x => hx e.symm
      rw [if_neg hx]
      cases hf : ms.find? (fun m => m.1 == x) with
      | none => simp [this]
      | some m => simp
theorem mem_down (l : List It) (x y : Hs) : y ∈ getS (downS l) x ↔ ∃ it ∈ l, it.name = x ∧ y ∈ it.deps := by
  have key : ∀ (l : List It) (ms : List (Hs × List Hs)), y ∈ getS (l.foldl (fun ms x => appS ms x.name x.deps) ms) x ↔ y ∈ getS ms x ∨ ∃ it ∈ l, it.name = x ∧ y ∈ it.deps := by
    intro l
    induction l with
    | nil => intro ms; simp
    | cons it l ih =>
      intro ms
      rw [List.foldl_cons, ih, getS_appS]
      by_cases hx : x = it.name
      · subst hx
        simp only [if_true, List.mem_append, List.mem_cons, exists_eq_or_imp, true_and, or_assoc]
      · have : ¬ it.name = x := fun e => hx e.symm
        simp only [if_neg hx, List.mem_cons, exists_eq_or_imp, this, false_and, false_or]
  have := key l []
  simpa [downS, getS] using this
theorem mem_up (l : List It) (x y : Hs) : y ∈ getS (upS l) x ↔ ∃ it ∈ l, x ∈ it.deps ∧ it.name = y := by
  have inner : ∀ (ds : List Hs) (n : Hs) (ms : List (Hs × List Hs)), y ∈ getS (ds.foldl (fun ms d => appS ms d [n]) ms) x ↔ y ∈ getS ms x ∨ (x ∈ ds ∧ n = y) := by
    intro ds n
    induction ds with
    | nil => intro ms; simp
    | cons d ds ih =>
      intro ms
      rw [List.foldl_cons, ih, getS_appS]
      by_cases hx : x = d
      · subst hx
        simp only [if_true, List.mem_append, List.mem_cons, List.not_mem_nil, or_false, true_or, true_and]
        constructor
        · rintro ((h | h) | h)
          · exact .inl h
          · exact .inr h.symm
          · exact .inr h.2
        · rintro (h | h)
          · exact .inl (.inl h)
          · exact .inl (.inr h.symm)
      · rw [if_neg hx]
        simp only [List.mem_cons, hx, false_or]
  have key : ∀ (l : List It) (ms : List (Hs × List Hs)), y ∈ getS (l.foldl (fun ms x => upI ms x.name x.deps) ms) x ↔ y ∈ getS ms x ∨ ∃ it ∈ l, x ∈ it.deps ∧ it.name = y := by
    intro l
    induction l with
    | nil => intro ms; simp
    | cons it l ih =>
      intro ms
      rw [List.foldl_cons, ih]
      unfold upI
      rw [inner]
      simp only [List.mem_cons, exists_eq_or_imp, or_assoc]
  have := key l []
  simpa [upS, getS] using this
theorem Reach.trans {s : Hs → List Hs} {a b c : Hs} (h : Reach s a b) (k : Reach s b c) : Reach s a c := by
  induction k with
  | one h1 => exact .step h h1
  | step _ h1 ih => exact .step ih h1
theorem reach_turn {s t : Hs → List Hs} (hst : ∀ x y, y ∈ s x → x ∈ t y) {a b : Hs} (h : Reach s a b) : Reach t b a := by
  induction h with
  | one h1 => exact .one (hst _ _ h1)
  | step _ h1 ih => exact (Reach.one (hst _ _ h1)).trans ih
/-- one needs another just if the other is needed by it -/
theorem mirror (l : List It) (a b : Hs) : Reach (getS (downS l)) a b ↔ Reach (getS (upS l)) b a := by
  have h : ∀ x y, y ∈ getS (downS l) x ↔ x ∈ getS (upS l) y := fun x y => by
    rw [mem_down, mem_up]
    constructor
    · rintro ⟨it, h1, h2, h3⟩; exact ⟨it, h1, h3, h2⟩
    · rintro ⟨it, h1, h2, h3⟩; exact ⟨it, h1, h3, h2⟩
  exact ⟨reach_turn fun x y hy => (h x y).1 hy, reach_turn fun x y hy => (h y x).2 hy⟩
#print axioms mirror
/-- steps that say the same lead to the same -/
theorem reach_same {s t : Hs → List Hs} (hst : ∀ x y, y ∈ s x ↔ y ∈ t x) {a b : Hs} : Reach s a b ↔ Reach t a b := by
  have key : ∀ {s t : Hs → List Hs}, (∀ x y, y ∈ s x → y ∈ t x) → ∀ {b}, Reach s a b → Reach t a b := by
    intro s t h b hr
    induction hr with
    | one h1 => exact .one (h _ _ h1)
    | step _ h1 ih => exact .step ih (h _ _ h1)
  exact ⟨key fun x y => (hst x y).1, key fun x y => (hst x y).2⟩

/-! ### the chapter's example -/
section
variable {x1 x2 x3 : It} {a b c : Hs}
structure Exam (x1 x2 x3 : It) (a b c : Hs) : Prop where
  n1 : x1.name = c
  d1 : x1.deps = [a, b]
  n2 : x2.name = a
  d2 : x2.deps = []
  n3 : x3.name = b
  d3 : x3.deps = [a]
  ab : LtH a b
  bc : LtH b c
theorem Exam.ne (h : Exam x1 x2 x3 a b c) : a ≠ b ∧ a ≠ c ∧ b ≠ c :=
  ⟨fun e => LtH.irr a (by have := h.ab; rw [← e] at this; exact this), fun e => LtH.irr a (by have := h.ab.tr h.bc; rw [← e] at this; exact this), fun e => LtH.irr b (by have := h.bc; rw [← e] at this; exact this)⟩
theorem Exam.rdy (h : Exam x1 x2 x3 a b c) (told : List Hs) (k : Hs) : Rdy [x1, x2, x3] told k ↔ (k = c ∧ c ∉ told ∧ a ∈ told ∧ b ∈ told) ∨ (k = a ∧ a ∉ told) ∨ (k = b ∧ b ∉ told ∧ a ∈ told) := by
  obtain ⟨n1, n2, n3⟩ := h.ne
  unfold Rdy
  simp only [List.map_cons, List.map_nil, List.mem_cons, List.not_mem_nil, or_false, h.n1, h.n2, h.n3, forall_eq_or_imp, forall_eq, h.d1, h.d2, h.d3]
  constructor
  · rintro ⟨rfl | rfl | rfl, h1, h2, h3, h4⟩
    · exact .inl ⟨rfl, h1, (h2 rfl).1, (h2 rfl).2⟩
    · exact .inr (.inl ⟨rfl, h1⟩)
    · exact .inr (.inr ⟨rfl, h1, h4 rfl⟩)
  · rintro (⟨rfl, h1, h2, h3⟩ | ⟨rfl, h1⟩ | ⟨rfl, h1, h2⟩)
    · exact ⟨.inl rfl, h1, fun _ => ⟨h2, h3⟩, fun _ => by simp, fun e => h2⟩
    · exact ⟨.inr (.inl rfl), h1, fun e => absurd e.symm n2, fun _ => by simp, fun e => absurd e.symm n1⟩
    · exact ⟨.inr (.inr rfl), h1, fun e => absurd e.symm n3, fun _ => by simp, fun _ => h2⟩
theorem Exam.order (h : Exam x1 x2 x3 a b c) : OrderS [x1, x2, x3] [a, b, c] := by
  obtain ⟨n1, n2, n3⟩ := h.ne
  refine ⟨fun i k hk => ?_, fun k hk => ?_⟩
  · match i, hk with
    | 0, hk =>
      simp at hk; subst hk
      refine ⟨(h.rdy _ _).2 (.inr (.inl ⟨rfl, by simp⟩)), fun k' hk' => ?_⟩
      rcases (h.rdy _ _).1 hk' with ⟨_, _, e, _⟩ | ⟨e, _⟩ | ⟨_, _, e⟩
      · simp at e
      · exact .inl e.symm
      · simp at e
    | 1, hk =>
      simp at hk; subst hk
      refine ⟨(h.rdy _ _).2 (.inr (.inr ⟨rfl, by simpa using fun e => n1 e.symm, by simp⟩)), fun k' hk' => ?_⟩
      rcases (h.rdy _ _).1 hk' with ⟨_, _, _, e⟩ | ⟨_, e⟩ | ⟨e, _⟩
      · simp at e; exact absurd e.symm n1
      · simp at e
      · exact .inl e.symm
    | 2, hk =>
      simp at hk; subst hk
      refine ⟨(h.rdy _ _).2 (.inl ⟨rfl, by simpa using ⟨fun e => n2 e.symm, fun e => n3 e.symm⟩, by simp, by simp⟩), fun k' hk' => ?_⟩
      rcases (h.rdy _ _).1 hk' with ⟨e, _⟩ | ⟨_, e⟩ | ⟨_, e, _⟩
      · exact .inl e.symm
      · simp at e
      · simp at e
    | i + 3, hk => simp at hk
  · rcases (h.rdy _ _).1 hk with ⟨_, e, _⟩ | ⟨_, e⟩ | ⟨_, e, _⟩ <;> simp at e
theorem Exam.nodup (h : Exam x1 x2 x3 a b c) : ([x1, x2, x3].map (·.name)).Nodup := by
  obtain ⟨n1, n2, n3⟩ := h.ne
  simp only [List.map_cons, List.map_nil, h.n1, h.n2, h.n3]
  simp [n1]
  exact ⟨fun e => n2 e.symm, fun e => n3 e.symm⟩
theorem Exam.whole (h : Exam x1 x2 x3 a b c) (x : Hs) : ¬ missing [x1, x2, x3] x := by
  rintro ⟨⟨it, h1, h2⟩, h3⟩
  simp only [List.map_cons, List.map_nil, h.n1, h.n2, h.n3] at h3
  simp only [List.mem_cons, List.not_mem_nil, or_false] at h1
  rcases h1 with rfl | rfl | rfl
  · rw [h.d1] at h2; simp at h2; rcases h2 with rfl | rfl <;> simp at h3
  · rw [h.d2] at h2; simp at h2
  · rw [h.d3] at h2; simp at h2; subst h2; simp at h3
theorem Exam.ord (h : Exam x1 x2 x3 a b c) {hs : List Hs} {er : Int} (ho : OrdA [x1, x2, x3] hs er) : hs = [a, b, c] ∧ er = 0 := by
  rcases ho with ⟨e, _⟩ | ⟨_, e, _⟩ | ⟨_, _, ⟨x, e⟩, _⟩ | ⟨_, _, _, ⟨ks, e1, e2⟩, _⟩ | ⟨_, _, _, e1, _, e2⟩
  · simp at e
  · exact absurd h.nodup e
  · exact absurd e (h.whole x)
  · have := OrderS.same (fun _ _ => Iff.rfl) e1 h.order
    rw [this] at e2; simp at e2
  · exact ⟨OrderS.same (fun _ _ => Iff.rfl) e1 h.order, e2⟩
theorem Exam.needs (h : Exam x1 x2 x3 a b c) (x : Hs) : Reach (getS (downS [x1, x2, x3])) c x ↔ x ∈ [a, b] := by
  obtain ⟨n1, n2, n3⟩ := h.ne
  have st : ∀ u v, v ∈ getS (downS [x1, x2, x3]) u ↔ (u = c ∧ (v = a ∨ v = b)) ∨ (u = b ∧ v = a) := by
    intro u v
    rw [mem_down]
    simp only [List.mem_cons, List.not_mem_nil, or_false, exists_eq_or_imp, exists_eq_left, h.n1, h.n2, h.n3, h.d1, h.d2, h.d3, and_false, false_or]
    constructor
    · rintro (⟨e, f⟩ | ⟨e, f⟩)
      · exact .inl ⟨e.symm, f⟩
      · exact .inr ⟨e.symm, f⟩
    · rintro (⟨e, f⟩ | ⟨e, f⟩)
      · exact .inl ⟨e.symm, f⟩
      · exact .inr ⟨e.symm, f⟩
  constructor
  · intro hr
    induction hr with
    | one h1 =>
      rcases (st _ _).1 h1 with ⟨_, e | e⟩ | ⟨e, _⟩
      · simp [e]
      · simp [e]
      · exact absurd e.symm n3
    | step _ h1 ih =>
      rcases (st _ _).1 h1 with ⟨_, e | e⟩ | ⟨_, e⟩ <;> simp [e]
  · intro hx
    simp at hx
    exact .one ((st _ _).2 (.inl ⟨rfl, hx⟩))
theorem Exam.above (h : Exam x1 x2 x3 a b c) (x : Hs) : Reach (getS (upS [x1, x2, x3])) a x ↔ x ∈ [b, c] := by
  obtain ⟨n1, n2, n3⟩ := h.ne
  have st : ∀ u v, v ∈ getS (upS [x1, x2, x3]) u ↔ (v = c ∧ (u = a ∨ u = b)) ∨ (v = b ∧ u = a) := by
    intro u v
    rw [mem_up]
    simp only [List.mem_cons, List.not_mem_nil, or_false, exists_eq_or_imp, exists_eq_left, h.n1, h.n2, h.n3, h.d1, h.d2, h.d3, false_and, false_or]
    constructor
    · rintro (⟨e, f⟩ | ⟨e, f⟩)
      · exact .inl ⟨f.symm, e⟩
      · exact .inr ⟨f.symm, e⟩
    · rintro (⟨e, f⟩ | ⟨e, f⟩)
      · exact .inl ⟨f, e.symm⟩
      · exact .inr ⟨f, e.symm⟩
  constructor
  · intro hr
    induction hr with
    | one h1 =>
      rcases (st _ _).1 h1 with ⟨e, _⟩ | ⟨e, _⟩ <;> simp [e]
    | step _ h1 ih =>
      rcases (st _ _).1 h1 with ⟨e, _⟩ | ⟨e, _⟩ <;> simp [e]
  · intro hx
    simp at hx
    rcases hx with e | e
    · exact .one ((st _ _).2 (.inr ⟨e, rfl⟩))
    · exact .one ((st _ _).2 (.inl ⟨e, .inl rfl⟩))
end
#print axioms Exam.above
end Go.Proofs.Ytijkpkcopjkhkaa.Oct
