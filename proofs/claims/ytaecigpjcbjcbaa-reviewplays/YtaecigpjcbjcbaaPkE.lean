/-
  Layer 20 (review): the board and the document's board say the same.
  Layer 20 (review): a proposal, told by both.
  Layer 20 (review): each call of the board answers as the document's.
-/
import Derived.Test.YtaecigpjcbjcbaaPkD
import Derived.Test.YtaecigpjcbjcbaaOpP
import Derived.Test.YtaecigpjcbjcbaaCls
/- Layer 20 (review): the board and the document's board say the same. -/
namespace Go.Proofs.Ytaecigpjcbjcbaa.Oct
open Go.RowKit
set_option linter.unusedSimpArgs false
set_option linter.unusedVariables false

def voteOf (l : List (Hs × Int)) (u : Hs) : Int := ((l.find? fun r => r.1 == u).map (·.2)).getD 0
structure Rel (M : Br) (R : Rb) : Prop where
  len : R.L.length = M.props.length
  made : ∀ (i : Nat) (p : Pr), M.props[i]? = some p → R.L[i]? = some ⟨p.author, p.channel, p.patch⟩
  opn : M.opn = openN R R.L.length
  vot : ∀ (i : Nat) (p : Pr), M.props[i]? = some p → ∀ u : BA, voteOf p.votes (bk u) = ofD R.D ((i : Int) + 1) u
  kin : ∀ p ∈ M.props, ∀ r ∈ p.votes, r.2 = 1 ∨ r.2 = 2
  talk : ∀ (i : Nat) (p : Pr), M.props[i]? = some p → p.talk = talkD R.D ((i : Int) + 1)
  ids : ∀ d ∈ R.D, 1 ≤ d.id ∧ d.id ≤ (R.L.length : Int)
theorem rel_new (pv ov : Value) : Rel ⟨pv, ov, [], []⟩ ⟨[], []⟩ := ⟨rfl, fun i p h => by simp at h, rfl, fun i p h => by simp at h, fun p h => by simp at h, fun i p h => by simp at h, fun d h => by simp at h⟩
section
variable {M : Br} {R : Rb}
theorem Rel.there (h : Rel M R) (x : Int) : thereR R x = (M.at? x).isSome := by
  unfold thereR
  cases hm : M.at? x with
  | none =>
    have := Br.at_none hm
    have := h.len
    simp
    omega
  | some p =>
    obtain ⟨i, hi, hp⟩ := Br.at_some hm
    have := (List.getElem?_eq_some_iff.1 hp).1
    have := h.len
    simp
    omega
theorem mem_openN (R : Rb) : ∀ n k : Nat, k ∈ openN R n ↔ (1 ≤ k ∧ k ≤ n) ∧ openR R (k : Int) = true
  | 0, k => by simp [openN]; omega
  | n + 1, k => by
    have ih := mem_openN R n k
    unfold openN
    rw [List.mem_append, ih]
    constructor
    · rintro (h | h)
      · exact ⟨by omega, h.2⟩
      · split at h
        · rename_i h2
          simp at h
          subst h
          exact ⟨by omega, by simpa using h2⟩
        · simp at h
    · rintro ⟨h1, h2⟩
      by_cases hk : k = n + 1
      · subst hk
        right
        rw [if_pos (by simpa using h2)]
        simp
      · exact .inl ⟨by omega, h2⟩
theorem Rel.has (h : Rel M R) {x : Int} (ht : thereR R x = true) : hasN M.opn x = openR R x := by
  obtain ⟨i, rfl, hi⟩ := there_nat ht
  rw [h.opn]
  cases ho : openR R ((i : Int) + 1) with
  | true => exact hasN_iff.2 ⟨i + 1, (mem_openN R _ _).2 ⟨by omega, by simpa using ho⟩, by simp⟩
  | false =>
    rw [← Bool.not_eq_true]
    intro hc
    obtain ⟨k, hk, e⟩ := hasN_iff.1 hc
    have := ((mem_openN R _ _).1 hk).2
    rw [← e, ho] at this
    cases this
theorem Rel.live (h : Rel M R) (x : Int) : liveR R x = if M.at? x = none then 111 else if hasN M.opn x = false then 201 else 0 := by
  unfold liveR
  cases hm : M.at? x with
  | none =>
    have : thereR R x = false := by rw [h.there, hm]; rfl
    rw [if_pos this, if_pos rfl]
  | some p =>
    have : thereR R x = true := by rw [h.there, hm]; rfl
    have e := h.has this
    rw [e]
    simp [this]
theorem shutD_snoc (D : List Dd) (d : Dd) (x : Int) : shutD (D ++ [d]) x = (shutD D x || (d.id == x && d.k == 5)) := by unfold shutD; simp
theorem openN_congr {R R' : Rb} : ∀ n : Nat, (∀ k : Nat, 1 ≤ k → k ≤ n → openR R' (k : Int) = openR R (k : Int)) → openN R' n = openN R n
  | 0, _ => rfl
  | n + 1, h => by
    unfold openN
    rw [openN_congr n (fun k h1 h2 => h k h1 (by omega))]
    have := h (n + 1) (by omega) (Nat.le_refl _)
    rw [show (((n + 1 : Nat) : Int)) = (n : Int) + 1 by omega] at this
    rw [this]
theorem openR_deed (R : Rb) (d : Dd) (hk : d.k ≠ 5) (x : Int) : openR { R with D := R.D ++ [d] } x = openR R x := by
  unfold openR
  show (!shutD (R.D ++ [d]) x && thereR R x) = _
  rw [shutD_snoc]
  have : (d.k == 5) = false := by simpa using hk
  rw [this]; simp
/-- what a deed that does not close leaves -/
theorem Rel.deed (h : Rel M R) {d : Dd} (hd : 1 ≤ d.id ∧ d.id ≤ (R.L.length : Int)) (hk : d.k ≠ 5) {M' : Br} (h1 : M'.props.length = M.props.length) (h2 : M'.opn = M.opn)
    (h3 : ∀ (i : Nat) (p' : Pr), M'.props[i]? = some p' → ∃ p : Pr, M.props[i]? = some p ∧ p'.author = p.author ∧ p'.channel = p.channel ∧ p'.patch = p.patch ∧ (∀ u : BA, voteOf p'.votes (bk u) = ofD (R.D ++ [d]) ((i : Int) + 1) u) ∧ (∀ r ∈ p'.votes, r.2 = 1 ∨ r.2 = 2) ∧ p'.talk = talkD (R.D ++ [d]) ((i : Int) + 1)) :
    Rel M' { R with D := R.D ++ [d] } := by
  refine ⟨h.len.trans h1.symm, fun i p' hp => ?_, ?_, fun i p' hp => ?_, fun p' hp r hr => ?_, fun i p' hp => ?_, fun e he => ?_⟩
  · obtain ⟨p, a1, a2, a3, a4, _⟩ := h3 i p' hp
    rw [a2, a3, a4]; exact h.made i p a1
  · rw [h2, h.opn]; exact (openN_congr _ (fun k _ _ => openR_deed R d hk _)).symm
  · exact (h3 i p' hp).choose_spec.2.2.2.2.1
  · obtain ⟨i, hi⟩ := List.mem_iff_getElem?.1 hp
    exact (h3 i p' hi).choose_spec.2.2.2.2.2.1 r hr
  · exact (h3 i p' hp).choose_spec.2.2.2.2.2.2
  · rcases List.mem_append.1 he with he | he
    · exact h.ids e he
    · simp at he; subst he; exact hd
theorem find_out (l : List (Hs × Int)) (u v : Hs) : (outV l u).find? (fun r => r.1 == v) = if v = u then none else l.find? (fun r => r.1 == v) := by
  unfold outV
  induction l with
  | nil => simp
  | cons a l ih =>
    rw [List.filter_cons]
    by_cases ha : a.1 = u
    · have e : (a.1 != u) = false := by simpa using ha
      rw [e]
      simp only [Bool.false_eq_true, if_false]
      rw [ih]
      by_cases hv : v = u
      · rw [if_pos hv, if_pos hv]
      · rw [if_neg hv, if_neg hv, List.find?_cons]
        have : (a.1 == v) = false := by
          rw [ha]; simpa using fun e => hv e.symm
        rw [this]
    · have e : (a.1 != u) = true := by simpa using ha
      rw [e]
      simp only [if_true]
      rw [List.find?_cons, List.find?_cons, ih]
      cases hc : (a.1 == v) with
      | true =>
        have : ¬ v = u := fun e => ha (by rw [← e]; simpa using hc)
        simp [this]
      | false => rfl
theorem vote_turn (l : List (Hs × Int)) (u v : Hs) (k : Int) : voteOf (turnV l u k) v = if v = u then k else voteOf l v := by
  unfold turnV
  by_cases hk : k = 0
  · rw [if_pos hk]
    unfold voteOf
    rw [find_out]
    by_cases hv : v = u
    · rw [if_pos hv, if_pos hv, hk]; rfl
    · rw [if_neg hv, if_neg hv]
  · rw [if_neg hk]
    unfold voteOf
    rw [List.find?_append, find_out]
    by_cases hv : v = u
    · rw [if_pos hv, if_pos hv, hv]
      simp
    · rw [if_neg hv, if_neg hv]
      have : (u == v) = false := by simpa using fun e => hv e.symm
      simp [this]
theorem turn_kin {l : List (Hs × Int)} {u : Hs} {k : Int} (h : ∀ r ∈ l, r.2 = 1 ∨ r.2 = 2) (hk : k = 0 ∨ k = 1 ∨ k = 2) : ∀ r ∈ turnV l u k, r.2 = 1 ∨ r.2 = 2 := by
  have ho : ∀ r ∈ outV l u, r.2 = 1 ∨ r.2 = 2 := fun r hr => h r (List.mem_filter.1 hr).1
  unfold turnV
  split
  · exact ho
  · intro r hr
    rcases List.mem_append.1 hr with hr | hr
    · exact ho r hr
    · simp at hr; subst hr; show k = 1 ∨ k = 2; omega
/-- votes -/
theorem Rel.turned (h : Rel M R) {i : Nat} {p : Pr} (hp : M.props[i]? = some p) (u : BA) {k kd : Int} (hk : (k = 0 ∧ kd = 3) ∨ (k = 1 ∧ kd = 1) ∨ (k = 2 ∧ kd = 2)) : Rel (M.turn i p (bk u) k) { R with D := R.D ++ [⟨kd, (i : Int) + 1, u, ⟨#[]⟩⟩] } := by
  have hi : i < M.props.length := (List.getElem?_eq_some_iff.1 hp).1
  have hlen := h.len
  refine h.deed (d := ⟨kd, (i : Int) + 1, u, ⟨#[]⟩⟩) ⟨by show 1 ≤ (i : Int) + 1; omega, by show (i : Int) + 1 ≤ _; omega⟩ (by show kd ≠ 5; omega) List.length_set rfl (fun j p' hj => ?_)
  change (M.props.set i _)[j]? = some p' at hj
  rw [List.getElem?_set] at hj
  have hto : ∀ x, talkD (R.D ++ [⟨kd, (i : Int) + 1, u, ⟨#[]⟩⟩]) x = talkD R.D x := fun x => by rw [talkD_snoc, if_neg]; rintro ⟨_, e⟩; change kd = 4 at e; omega
  by_cases hij : i = j
  · subst hij
    rw [if_pos rfl, if_pos hi] at hj
    cases hj
    refine ⟨p, hp, rfl, rfl, rfl, fun v => ?_, turn_kin (h.kin p (List.mem_of_getElem? hp)) (by omega), ?_⟩
    · rw [ofD_snoc]
      show voteOf (turnV p.votes (bk u) k) (bk v) = _
      rw [vote_turn, h.vot i p hp v]
      by_cases hv : v = u
      · subst hv
        rw [if_pos rfl, if_pos ⟨rfl, rfl, by show kd < 4; omega⟩]
        show k = kd.tmod 3
        rcases hk with ⟨rfl, rfl⟩ | ⟨rfl, rfl⟩ | ⟨rfl, rfl⟩ <;> rfl
      · rw [if_neg (fun e => hv (bk_inj e)), if_neg (fun e => hv e.2.1.symm)]
    · rw [hto]; exact h.talk i p hp
  · rw [if_neg hij] at hj
    refine ⟨p', hj, rfl, rfl, rfl, fun v => ?_, h.kin p' (List.mem_of_getElem? hj), ?_⟩
    · rw [ofD_snoc, if_neg (fun e => by have e1 : (i : Int) + 1 = (j : Int) + 1 := e.1; omega)]; exact h.vot j p' hj v
    · rw [hto]; exact h.talk j p' hj
/-- a remark -/
theorem Rel.said (h : Rel M R) {i : Nat} {p : Pr} (hp : M.props[i]? = some p) (v : Value) (u t : BA) : Rel (M.said i p v u t) { R with D := R.D ++ [⟨4, (i : Int) + 1, u, t⟩] } := by
  have hi : i < M.props.length := (List.getElem?_eq_some_iff.1 hp).1
  have hlen := h.len
  refine h.deed (d := ⟨4, (i : Int) + 1, u, t⟩) ⟨by show 1 ≤ (i : Int) + 1; omega, by show (i : Int) + 1 ≤ _; omega⟩ (by show (4 : Int) ≠ 5; omega) List.length_set rfl (fun j p' hj => ?_)
  change (M.props.set i _)[j]? = some p' at hj
  rw [List.getElem?_set] at hj
  have hof : ∀ x v, ofD (R.D ++ [⟨4, (i : Int) + 1, u, t⟩]) x v = ofD R.D x v := fun x v => by rw [ofD_snoc, if_neg]; rintro ⟨_, _, e⟩; change (4 : Int) < 4 at e; omega
  by_cases hij : i = j
  · subst hij
    rw [if_pos rfl, if_pos hi] at hj
    cases hj
    refine ⟨p, hp, rfl, rfl, rfl, fun v => by rw [hof]; exact h.vot i p hp v, h.kin p (List.mem_of_getElem? hp), ?_⟩
    rw [talkD_snoc, if_pos ⟨rfl, rfl⟩]
    show p.talk ++ [(u, t)] = _
    rw [h.talk i p hp]
  · rw [if_neg hij] at hj
    refine ⟨p', hj, rfl, rfl, rfl, fun v => by rw [hof]; exact h.vot j p' hj v, h.kin p' (List.mem_of_getElem? hj), ?_⟩
    rw [talkD_snoc, if_neg (fun e => by have e1 : (i : Int) + 1 = (j : Int) + 1 := e.1; omega)]
    exact h.talk j p' hj
theorem openN_out (R : Rb) (x : Int) : ∀ n : Nat, openN { R with D := R.D ++ [⟨5, x, ⟨#[]⟩, ⟨#[]⟩⟩] } n = outN (openN R n) x
  | 0 => rfl
  | n + 1 => by
    have ih := openN_out R x n
    unfold openN
    rw [ih]
    unfold outN
    rw [List.filter_append]
    congr 1
    have e : openR { R with D := R.D ++ [⟨5, x, ⟨#[]⟩, ⟨#[]⟩⟩] } ((n : Int) + 1) = (openR R ((n : Int) + 1) && !(x == (n : Int) + 1)) := by
      unfold openR
      show (!shutD (R.D ++ [_]) _ && thereR R _) = _
      rw [shutD_snoc]
      cases shutD R.D ((n : Int) + 1) <;> cases thereR R ((n : Int) + 1) <;> simp
    rw [e]
    cases openR R ((n : Int) + 1) with
    | false => simp
    | true =>
      by_cases hx : x = (n : Int) + 1
      · subst hx; simp
      · have h1 : (x == (n : Int) + 1) = false := by simpa using hx
        have h2 : ((((n + 1 : Nat) : Int)) != x) = true := by simp; omega
        rw [h1]
        simp only [Bool.not_false, Bool.and_true, if_true]
        rw [List.filter_cons, h2]
        rfl
/-- closed -/
theorem Rel.shut (h : Rel M R) {x : Int} (hx : thereR R x = true) (ov : Value) : Rel (M.shut ov x) { R with D := R.D ++ [⟨5, x, ⟨#[]⟩, ⟨#[]⟩⟩] } := by
  obtain ⟨i, rfl, hi⟩ := there_nat hx
  refine ⟨h.len, h.made, ?_, fun j p hp u => ?_, h.kin, fun j p hp => ?_, fun d hd => ?_⟩
  · show outN M.opn _ = openN _ R.L.length
    rw [openN_out, h.opn]
  · rw [h.vot j p hp u]
    show _ = ofD (R.D ++ [_]) _ _
    rw [ofD_snoc, if_neg]
    rintro ⟨_, _, e⟩
    change (5 : Int) < 4 at e
    omega
  · rw [h.talk j p hp]
    show _ = talkD (R.D ++ [_]) _
    rw [talkD_snoc, if_neg]
    rintro ⟨_, e⟩
    change (5 : Int) = 4 at e
    omega
  · rcases List.mem_append.1 hd with hd | hd
    · exact h.ids d hd
    · simp at hd; subst hd; exact ⟨by show 1 ≤ (i : Int) + 1; omega, by show (i : Int) + 1 ≤ (R.L.length : Int); omega⟩
theorem ofD_none {D : List Dd} {x : Int} (h : ∀ d ∈ D, d.id ≠ x) (u : BA) : ofD D x u = 0 := by
  unfold ofD
  suffices hs : ∀ (D : List Dd) (v : Int), (∀ d ∈ D, d.id ≠ x) → D.foldl (fun v d => if d.id = x ∧ d.u = u ∧ d.k < 4 then d.k.tmod 3 else v) v = v from hs D 0 h
  intro D
  induction D with
  | nil => intro v _; rfl
  | cons d D ih =>
    intro v hd
    rw [List.foldl_cons, if_neg (fun e => hd d (by simp) e.1)]
    exact ih v (fun e he => hd e (by simp [he]))
/-- proposed -/
theorem Rel.with (h : Rel M R) (v7 v9 : Value) (au ch : BA) (hs : Hs) (mb : Nat) : Rel (M.with v7 v9 (Pr.new au ch hs mb)) { R with L := R.L ++ [⟨au, ch, hs⟩] } := by
  have hno : ∀ d ∈ R.D, d.id ≠ (M.props.length : Int) + 1 := fun d hd e => by have := (h.ids d hd).2; have := h.len; omega
  have hlen : (R.L ++ [(⟨au, ch, hs⟩ : Mk)]).length = M.props.length + 1 := by rw [List.length_append, h.len]; rfl
  have hcase : ∀ (i : Nat) (p : Pr), (M.props ++ [Pr.new au ch hs mb])[i]? = some p → (M.props[i]? = some p ∧ i < M.props.length) ∨ (i = M.props.length ∧ p = Pr.new au ch hs mb) := by
    intro i p hp
    rcases Nat.lt_trichotomy i M.props.length with hlt | heq | hgt
    · rw [List.getElem?_append_left hlt] at hp; exact .inl ⟨hp, hlt⟩
    · subst heq; rw [List.getElem?_append_right (Nat.le_refl _)] at hp; simp at hp; exact .inr ⟨rfl, hp.symm⟩
    · rw [List.getElem?_eq_none (by simp; omega)] at hp; cases hp
  refine ⟨by show (R.L ++ [_]).length = (M.props ++ [_]).length; rw [hlen]; simp, fun i p hp => ?_, ?_, fun i p hp u => ?_, fun p hp r hr => ?_, fun i p hp => ?_, fun d hd => ?_⟩
  · rcases hcase i p hp with ⟨h1, h2⟩ | ⟨rfl, rfl⟩
    · show (R.L ++ [_])[i]? = _
      rw [List.getElem?_append_left (by rw [h.len]; exact h2)]; exact h.made i p h1
    · show (R.L ++ [_])[M.props.length]? = _
      rw [← h.len, List.getElem?_append_right (Nat.le_refl _)]; simp [Pr.new]
  · show M.opn ++ [M.props.length + 1] = openN _ (R.L ++ [_]).length
    rw [hlen]
    have e1 : openN { R with L := R.L ++ [⟨au, ch, hs⟩] } M.props.length = openN R M.props.length := openN_congr _ (fun k h1 h2 => by
      unfold openR thereR
      have hd1 : decide ((1 : Int) ≤ (k : Int) ∧ (k : Int) ≤ (((R.L ++ [(⟨au, ch, hs⟩ : Mk)]).length : Nat) : Int)) = true := decide_eq_true (by rw [hlen]; omega)
      have hd2 : decide ((1 : Int) ≤ (k : Int) ∧ (k : Int) ≤ ((R.L.length : Nat) : Int)) = true := decide_eq_true (by rw [h.len]; omega)
      show (!shutD R.D _ && decide ((1 : Int) ≤ (k : Int) ∧ (k : Int) ≤ (((R.L ++ [(⟨au, ch, hs⟩ : Mk)]).length : Nat) : Int))) = _
      rw [hd1, hd2])
    have e2 : openR { R with L := R.L ++ [⟨au, ch, hs⟩] } ((M.props.length : Int) + 1) = true := by
      have hsh : shutD R.D ((M.props.length : Int) + 1) = false := by
        unfold shutD
        rw [List.any_eq_false]
        intro d hd
        have : (d.id == (M.props.length : Int) + 1) = false := by simpa using hno d hd
        simp [this]
      unfold openR thereR
      have hd1 : decide ((1 : Int) ≤ (M.props.length : Int) + 1 ∧ (M.props.length : Int) + 1 ≤ (((R.L ++ [(⟨au, ch, hs⟩ : Mk)]).length : Nat) : Int)) = true := decide_eq_true (by rw [hlen]; omega)
      show (!shutD R.D _ && decide ((1 : Int) ≤ (M.props.length : Int) + 1 ∧ (M.props.length : Int) + 1 ≤ (((R.L ++ [(⟨au, ch, hs⟩ : Mk)]).length : Nat) : Int))) = true
      rw [hsh, hd1]; rfl
    rw [h.opn, h.len]
    show _ = openN _ M.props.length ++ _
    rw [e1, if_pos e2]
  · rcases hcase i p hp with ⟨h1, h2⟩ | ⟨rfl, rfl⟩
    · exact h.vot i p h1 u
    · rw [ofD_none hno]; rfl
  · rcases List.mem_append.1 hp with hp | hp
    · exact h.kin p hp r hr
    · simp at hp; subst hp; simp [Pr.new] at hr
  · rcases hcase i p hp with ⟨h1, h2⟩ | ⟨rfl, rfl⟩
    · exact h.talk i p h1
    · show [] = talkD R.D _
      unfold talkD
      rw [List.filter_eq_nil_iff.2]
      · rfl
      · intro d hd
        have : (d.id == (M.props.length : Int) + 1) = false := by simpa using hno d hd
        simp [this]
  · have := h.ids d hd
    refine ⟨this.1, ?_⟩
    show d.id ≤ (((R.L ++ [(⟨au, ch, hs⟩ : Mk)]).length : Nat) : Int)
    rw [hlen]; have := h.len; omega
end
end Go.Proofs.Ytaecigpjcbjcbaa.Oct

/- Layer 20 (review): a proposal, told by both. -/
namespace Go.Proofs.Ytaecigpjcbjcbaa.Oct
open Go.RowKit
set_option linter.unusedSimpArgs false
set_option linter.unusedVariables false

theorem ofD_some {D : List Dd} {x s : Int} {u : BA} (hs : s ≠ 0) (h : ofD D x u = s) : ∃ d ∈ D, d.id = x ∧ d.u = u ∧ d.k < 4 ∧ d.k.tmod 3 = s := by
  unfold ofD at h
  suffices hq : ∀ (D : List Dd) (v : Int), D.foldl (fun v d => if d.id = x ∧ d.u = u ∧ d.k < 4 then d.k.tmod 3 else v) v = s → v ≠ s → ∃ d ∈ D, d.id = x ∧ d.u = u ∧ d.k < 4 ∧ d.k.tmod 3 = s from hq D 0 h (Ne.symm hs)
  intro D
  induction D with
  | nil => intro v h1 h2; exact absurd h1 h2
  | cons d D ih =>
    intro v h1 h2
    rw [List.foldl_cons] at h1
    by_cases hc : d.id = x ∧ d.u = u ∧ d.k < 4
    · rw [if_pos hc] at h1
      by_cases he : d.k.tmod 3 = s
      · exact ⟨d, by simp, hc.1, hc.2.1, hc.2.2, he⟩
      · obtain ⟨e, he1, he2⟩ := ih _ h1 he
        exact ⟨e, by simp [he1], he2⟩
    · rw [if_neg hc] at h1
      obtain ⟨e, he1, he2⟩ := ih _ h1 h2
      exact ⟨e, by simp [he1], he2⟩
theorem mem_votD (E D : List Dd) (x s : Int) (k : Hs) : k ∈ (votD E D x s).map bk ↔ ∃ d ∈ D, (d.id = x ∧ d.k < 3 ∧ ofD E x d.u = s) ∧ k = bk d.u := by
  unfold votD
  suffices hq : ∀ (D : List Dd) (l : List BA), k ∈ (D.foldl (fun l d => if d.id = x ∧ d.k < 3 ∧ ofD E x d.u = s then withB d.u l else l) l).map bk ↔ k ∈ l.map bk ∨ ∃ d ∈ D, (d.id = x ∧ d.k < 3 ∧ ofD E x d.u = s) ∧ k = bk d.u by
    rw [hq D []]; simp
  intro D
  induction D with
  | nil => intro l; simp
  | cons d D ih =>
    intro l
    rw [List.foldl_cons, ih]
    by_cases hc : d.id = x ∧ d.k < 3 ∧ ofD E x d.u = s
    · rw [if_pos hc, withB_bk, mem_with]
      constructor
      · rintro ((h | h) | ⟨e, h1, h2⟩)
        · exact .inr ⟨d, by simp, hc, h⟩
        · exact .inl h
        · exact .inr ⟨e, by simp [h1], h2⟩
      · rintro (h | ⟨e, h1, h2⟩)
        · exact .inl (.inr h)
        · rcases List.mem_cons.1 h1 with rfl | h1
          · exact .inl (.inl h2.2)
          · exact .inr ⟨e, h1, h2⟩
    · rw [if_neg hc]
      constructor
      · rintro (h | ⟨e, h1, h2⟩)
        · exact .inl h
        · exact .inr ⟨e, by simp [h1], h2⟩
      · rintro (h | ⟨e, h1, h2⟩)
        · exact .inl h
        · rcases List.mem_cons.1 h1 with rfl | h1
          · exact absurd h2.1 hc
          · exact .inr ⟨e, h1, h2⟩
theorem rise_votD (E D : List Dd) (x s : Int) : Rise ((votD E D x s).map bk) := by
  unfold votD
  suffices hq : ∀ (D : List Dd) (l : List BA), Rise (l.map bk) → Rise ((D.foldl (fun l d => if d.id = x ∧ d.k < 3 ∧ ofD E x d.u = s then withB d.u l else l) l).map bk) from hq D [] List.Pairwise.nil
  intro D
  induction D with
  | nil => intro l h; exact h
  | cons d D ih =>
    intro l h
    rw [List.foldl_cons]
    refine ih _ ?_
    split
    · rw [withB_bk]; exact rise_with _ h
    · exact h
theorem mem_whoV {l : List (Hs × Int)} (hn : (l.map (·.1)).Nodup) {so : Int} (hs : so ≠ 0) (k : Hs) : k ∈ whoV l so ↔ voteOf l k = so := by
  unfold whoV voteOf
  induction l with
  | nil => simp; exact fun e => hs e.symm
  | cons a l ih =>
    rw [List.map_cons, List.nodup_cons] at hn
    have ih := ih hn.2
    rw [List.filter_cons, List.find?_cons]
    by_cases hk : a.1 = k
    · have e1 : (a.1 == k) = true := by simpa using hk
      rw [e1]
      simp only [Option.map_some, Option.getD_some]
      have hnk : k ∉ (l.filter fun r => r.2 == so).map (·.1) := fun hm => by
        obtain ⟨r, hr, e⟩ := List.mem_map.1 hm
        exact hn.1 (List.mem_map.2 ⟨r, (List.mem_filter.1 hr).1, by rw [e, hk]⟩)
      by_cases h2 : a.2 = so
      · have : (a.2 == so) = true := by simpa using h2
        rw [this]; simp [h2, hk]
      · have : (a.2 == so) = false := by simpa using h2
        rw [this]
        simp only [Bool.false_eq_true, if_false]
        exact ⟨fun h => absurd h hnk, fun h => absurd h h2⟩
    · have e1 : (a.1 == k) = false := by simpa using hk
      rw [e1]
      cases h2 : (a.2 == so) with
      | true =>
        simp only [if_true, List.map_cons, List.mem_cons]
        rw [ih]
        exact ⟨fun h => h.elim (fun e => absurd e.symm hk) id, .inr⟩
      | false =>
        simp only [Bool.false_eq_true, if_false]
        exact ih
theorem Rel.names {M : Br} {R : Rb} (h : Rel M R) (hks : ∀ d ∈ R.D, 1 ≤ d.k ∧ d.k ≤ 5) {i : Nat} {p : Pr} (hp : M.props[i]? = some p) (hn : (p.votes.map (·.1)).Nodup) {s : Int} (hs : s = 1 ∨ s = 2) : sortK (whoV p.votes s) = (votD R.D R.D ((i : Int) + 1) s).map bk := by
  have hw : (whoV p.votes s).Nodup := by
    unfold whoV
    exact hn.sublist ((List.filter_sublist).map _)
  obtain ⟨r1, r2⟩ := rise_sort hw
  refine rise_eq r1 (rise_votD _ _ _ _) (fun k => ?_)
  rw [r2, mem_whoV hn (by omega), mem_votD]
  obtain ⟨u, rfl⟩ : ∃ u : BA, bk u = k := ⟨⟨k.toArray⟩, rfl⟩
  rw [h.vot i p hp u]
  constructor
  · intro hv
    obtain ⟨d, hd, h1, h2, h3, h4⟩ := ofD_some (by omega) hv
    refine ⟨d, hd, ⟨h1, ?_, by rw [h2]; exact hv⟩, by rw [h2]⟩
    have := hks d hd
    have : d.k.tmod 3 = d.k % 3 := Int.tmod_eq_emod_of_nonneg (by omega)
    omega
  · rintro ⟨d, hd, ⟨h1, h2, h3⟩, h4⟩
    rw [bk_inj h4]; exact h3
theorem Names.strs {B : Nat} {w : World} {s : Sl} {l : List BA} (h : Names B w s (l.map bk)) : Strs w s.a s.n l := by
  unfold Names at h
  have e : (l.map bk).map hv = strC l := by
    unfold strC
    rw [List.map_map]
    exact List.map_congr_left (fun x _ => rfl)
  rw [e] at h
  obtain ⟨s', e', h1, h2, _⟩ := (TS.own h).sl
  injection e' with e1 e2 e3
  rw [e1, e2]
  exact h1
theorem prs_of {w : World} {t : Sl} {l : List (BA × BA)} (h : SV w (.slice t.a t.n t.c) l.length 2 (talkC l)) : Prs w t.a t.n l := by
  obtain ⟨a, c, e, h1, h2, h3, h4, h5⟩ := h
  injection e with e1 e2 e3
  refine ⟨by omega, fun hp => ?_⟩
  rcases h5 with ⟨_, rfl⟩ | ⟨g, rfl, hg, hc⟩
  · omega
  · refine ⟨g, 0, e1, hg, fun i x hx j u hu => ?_⟩
    have := flatN (f := fun x : BA × BA => [Value.string x.1, .string x.2]) (k := 2) (fun _ _ => rfl) hx j u hu
    rw [show 0 + i * 2 + j = i * 2 + j by omega]
    exact hc _ u this
/-- the two proposals that are told are the same -/
theorem same_told {B b K : Nat} {w : World} {M : Br} {R : Rb} {lv dv : Value} {x : Int} {pp p' : Pp} {is : Bool} (hb : BAt w b M K) (hr : RBt w lv dv R) (h : Rel M R) (hT : ToldB B w M x pp is) (hR : RTold w R x p') :
    (is = thereR R x) ∧ Calls Try.prog 18 #[.agg pp.cells.toArray, .agg p'.cells.toArray] w fun e w' => e = .returned (.bool true) ∧ Below w.heap.size w w' := by
  unfold ToldB at hT
  unfold RTold at hR
  cases hm : M.at? x with
  | none =>
    rw [hm] at hT
    have hth : thereR R x = false := by rw [h.there, hm]; rfl
    rw [if_neg (by rw [hth]; simp)] at hR
    obtain ⟨rfl, rfl⟩ := hT
    subst hR
    refine ⟨hth.symm, ?_⟩
    exact same_same Pp.zero ⟨none, 0, 0⟩ ⟨none, 0, 0⟩ ⟨none, 0, 0⟩ [] [] [] w (by simp [Pp.zero]) ⟨rfl, fun h => absurd h (by decide)⟩ ⟨rfl, fun h => absurd h (by decide)⟩ ⟨rfl, fun h => absurd h (by decide)⟩ ⟨rfl, fun h => absurd h (by decide)⟩ ⟨rfl, fun h => absurd h (by decide)⟩ ⟨rfl, fun h => absurd h (by decide)⟩ (by simp)
  | some p =>
    rw [hm] at hT
    have hth : thereR R x = true := by rw [h.there, hm]; rfl
    rw [if_pos hth] at hR
    obtain ⟨i, hx, hp⟩ := Br.at_some hm
    subst hx
    obtain ⟨rfl, y, n, t, rfl, hpl, hy, hn, ht⟩ := hT
    obtain ⟨m, y', n', t', hm', hml, rfl, hy', hn', ht'⟩ := hR
    have hnod : (p.votes.map (·.1)).Nodup := by
      have := (hb.each p (List.mem_of_getElem? hp)).votes.nodup
      unfold votesKv at this
      rw [List.map_map] at this
      exact this
    have e1 := h.names hr.ks hp hnod (s := 1) (.inl rfl)
    have e2 := h.names hr.ks hp hnod (s := 2) (.inr rfl)
    have e3 := h.made i p hp
    rw [show ((i : Int) + 1 - 1).toNat = i by omega, e3] at hm'
    cases hm'
    rw [e1] at hy
    rw [e2] at hn
    have e4 := h.talk i p hp
    rw [e4] at ht
    obtain ⟨sy, e5, hy2, _⟩ := hy'.sl
    obtain ⟨sn, e6, hn2, _⟩ := hn'.sl
    injection e5 with f1 f2 f3
    injection e6 with f4 f5 f6
    rw [← f1, ← f2] at hy2
    rw [← f4, ← f5] at hn2
    refine ⟨hth.symm, ?_⟩
    have hl1 := votD_len R.D ((i : Int) + 1) 1 R.D
    have hl2 := votD_len R.D ((i : Int) + 1) 2 R.D
    have hl3 := talkD_len R.D ((i : Int) + 1)
    have hnd := hr.nd
    have hsm := same_same ⟨(i : Int) + 1, p.author, p.channel, p.patch, hasN M.opn ((i : Int) + 1), y, n, t⟩ y' n' t' _ _ _ w hpl hy.strs hn.strs (prs_of (SV.own ht (talk_one _))) hy2 hn2 (prs_of ht') ⟨by omega, by omega, by omega⟩
    rw [h.has hth] at hsm ⊢
    exact hsm
end Go.Proofs.Ytaecigpjcbjcbaa.Oct

/- Layer 20 (review): each call of the board answers as the document's. -/
namespace Go.Proofs.Ytaecigpjcbjcbaa.Oct
open Go.RowKit
set_option linter.unusedSimpArgs false
set_option linter.unusedVariables false

structure BM (w wr : World) (b K : Nat) (M : Br) (lv dv : Value) (R : Rb) : Prop where
  brd : BAt wr b M K
  rb : RBt wr lv dv R
  bel : Below w.heap.size w wr
  blo : ∀ j ∈ M.bl b, w.heap.size ≤ j
  la : ∀ g, lv.ownBlock = some g → g ∉ M.bl b
  da : ∀ g, dv.ownBlock = some g → g ∉ M.bl b
  nl : R.L.length ≤ K
  nd : R.D.length ≤ K
section
variable {w wr w1 w2 : World} {b K : Nat} {M M' : Br} {lv dv lv' dv' : Value} {R R' : Rb}
theorem BM.below (h : BM w wr b K M lv dv R) (hb : Below wr.heap.size wr w1) : BM w w1 b K M lv dv R := ⟨h.brd.below hb, h.rb.below hb, below_tr h.bel hb, h.blo, h.la, h.da, h.nl, h.nd⟩
theorem BM.call (h : BM w wr b K M lv dv R) (h1 : BAt w1 b M' (K + 1)) (h2 : BAfter wr b M M' w1) : BM w w1 b (K + 1) M' lv dv R := by
  refine ⟨h1, h.rb.same (fun g hg => (h2.other (h.rb.l.lt hg) (h.la g hg)).1) (fun g hg => (h2.other (h.rb.d.lt hg) (h.da g hg)).1), h.bel.trans (h2.below h.bel.size h.blo).1, (h2.below h.bel.size h.blo).2, fun g hg => (h2.other (h.rb.l.lt hg) (h.la g hg)).2.1, fun g hg => (h2.other (h.rb.d.lt hg) (h.da g hg)).2.1, Nat.le_succ_of_le h.nl, Nat.le_succ_of_le h.nd⟩
theorem new_apart {v v' : Value} {bl : List Nat} (hl : ∀ j ∈ bl, j < w1.heap.size) (h : ∀ g, v.ownBlock = some g → g ∉ bl) (hn : New w1 v v') : ∀ g, v'.ownBlock = some g → g ∉ bl := by
  intro g hg hm
  rcases hn with e | e
  · rw [e] at hg; exact h g hg hm
  · have := e g hg
    have := hl g hm
    omega
theorem BM.ref (h : BM w w1 b K M' lv dv R) (h1 : RBt w2 lv' dv' R') (hb : Below w1.heap.size w1 w2) (n1 : New w1 lv lv') (n2 : New w1 dv dv') (hl : R'.L.length ≤ K) (hd : R'.D.length ≤ K) : BM w w2 b K M' lv' dv' R' :=
  ⟨h.brd.below hb, h1, below_tr h.bel hb, h.blo, new_apart h.brd.lt h.la n1, new_apart h.brd.lt h.da n2, hl, hd⟩
end
section
variable {w : World} {b K : Nat} {M : Br} {R : Rb}
theorem turn_self {i : Nat} {p : Pr} (hp : M.props[i]? = some p) {u : Hs} (hv : voted p.votes u = false) : M.turn i p u 0 = M := by
  unfold Br.turn turnV
  rw [if_pos rfl, out_none hv]
  have : M.props.set i p = M.props := by
    apply List.ext_getElem?
    intro j
    rw [List.getElem?_set]
    by_cases h : i = j
    · subst h; rw [if_pos rfl, if_pos (List.getElem?_eq_some_iff.1 hp).1, hp]
    · rw [if_neg h]
  show { M with props := M.props.set i p } = M
  rw [this]
theorem voted_iff {l : List (Hs × Int)} (hk : ∀ r ∈ l, r.2 = 1 ∨ r.2 = 2) (u : Hs) : voted l u = false ↔ voteOf l u = 0 := by
  unfold voted voteOf
  cases hf : l.find? fun r => r.1 == u with
  | none =>
    rw [List.find?_eq_none] at hf
    simp
    intro a k h
    have := hf (a, k) h
    simpa using this
  | some r =>
    have h1 := List.find?_some hf
    have h2 := List.mem_of_find?_eq_some hf
    have h3 := hk r h2
    simp only [Option.map_some, Option.getD_some]
    constructor
    · intro h
      rw [List.any_eq_false] at h
      exact absurd h1 (h r h2)
    · intro h; omega
theorem rVote_no {x : Int} {u : BA} {y : Bool} (h : liveR R x ≠ 0) : rVote R x u y = (R, liveR R x) := if_pos h
theorem rVote_own {x : Int} {u : BA} {y : Bool} (h : liveR R x = 0) (ha : (R.L[(x - 1).toNat]?).map (·.au) = some u) : rVote R x u y = (R, 200) := by
  unfold rVote
  rw [if_neg (show ¬ (liveR R x ≠ 0) from fun e => e h), if_pos ha]
theorem rVote_yes {x : Int} {u : BA} {y : Bool} (h : liveR R x = 0) (ha : ¬ (R.L[(x - 1).toNat]?).map (·.au) = some u) : rVote R x u y = ({ R with D := R.D ++ [⟨if y then 1 else 2, x, u, ⟨#[]⟩⟩] }, 0) := by
  unfold rVote
  rw [if_neg (show ¬ (liveR R x ≠ 0) from fun e => e h), if_neg ha]
theorem vote_pair (hr : Rel M R) (x : Int) (u : BA) (yes : Bool) : (M.vote x u yes).2 = (rVote R x u yes).2 ∧ Rel (M.vote x u yes).1 (rVote R x u yes).1 := by
  have hlv := hr.live x
  cases hm : M.at? x with
  | none =>
    rw [if_pos hm] at hlv
    rw [rVote_no (by rw [hlv]; decide), hlv]
    simp only [Br.vote, hm]
    exact ⟨trivial, hr⟩
  | some p =>
    obtain ⟨i, rfl, hp⟩ := Br.at_some hm
    rw [if_neg (by rw [hm]; simp)] at hlv
    cases ho : hasN M.opn ((i : Int) + 1) with
    | false =>
      rw [if_pos ho] at hlv
      rw [rVote_no (by rw [hlv]; decide), hlv]
      simp only [Br.vote, hm, ho, if_true]
      exact ⟨trivial, hr⟩
    | true =>
      rw [if_neg (by rw [ho]; simp)] at hlv
      have e0 : ((i : Int) + 1 - 1).toNat = i := by omega
      by_cases hau : u = p.author
      · rw [rVote_own hlv (by rw [e0, hr.made i p hp, hau]; rfl)]
        simp only [Br.vote, hm, ho, hau, Bool.true_eq_false, if_false, if_true]
        exact ⟨trivial, hr⟩
      · rw [rVote_yes hlv (by rw [e0, hr.made i p hp]; intro e; simp at e; exact hau e.symm)]
        simp only [Br.vote, hm, ho, hau, Bool.true_eq_false, if_false, e0]
        refine ⟨trivial, ?_⟩
        cases yes
        · exact hr.turned hp u (.inr (.inr ⟨rfl, rfl⟩))
        · exact hr.turned hp u (.inr (.inl ⟨rfl, rfl⟩))
theorem unvote_pair (hr : Rel M R) (x : Int) (u : BA) : (M.unvote x u).2 = (rUnvote R x u).2 ∧ Rel (M.unvote x u).1 (rUnvote R x u).1 := by
  have hlv := hr.live x
  cases hm : M.at? x with
  | none =>
    rw [if_pos hm] at hlv
    have e : rUnvote R x u = (R, liveR R x) := if_pos (by rw [hlv]; decide)
    rw [e, hlv]
    simp only [Br.unvote, hm]
    exact ⟨trivial, hr⟩
  | some p =>
    obtain ⟨i, rfl, hp⟩ := Br.at_some hm
    rw [if_neg (by rw [hm]; simp)] at hlv
    cases ho : hasN M.opn ((i : Int) + 1) with
    | false =>
      rw [if_pos ho] at hlv
      have e : rUnvote R ((i : Int) + 1) u = (R, liveR R ((i : Int) + 1)) := if_pos (by rw [hlv]; decide)
      rw [e, hlv]
      simp only [Br.unvote, hm, ho, if_true]
      exact ⟨trivial, hr⟩
    | true =>
      rw [if_neg (by rw [ho]; simp)] at hlv
      have e0 : ((i : Int) + 1 - 1).toNat = i := by omega
      have hv := voted_iff (hr.kin p (List.mem_of_getElem? hp)) (bk u)
      rw [hr.vot i p hp u] at hv
      by_cases h0 : ofD R.D ((i : Int) + 1) u = 0
      · have e : rUnvote R ((i : Int) + 1) u = (R, 111) := by unfold rUnvote; rw [if_neg (show ¬ (liveR R ((i : Int) + 1) ≠ 0) from fun e => e hlv), if_pos h0]
        have hv0 := hv.2 h0
        rw [e]
        simp only [Br.unvote, hm, ho, Bool.true_eq_false, if_false, e0]
        rw [turn_self hp hv0]
        refine ⟨?_, hr⟩
        unfold turnE
        rw [if_pos ⟨rfl, hv0⟩]
      · have e : rUnvote R ((i : Int) + 1) u = ({ R with D := R.D ++ [⟨3, (i : Int) + 1, u, ⟨#[]⟩⟩] }, 0) := by unfold rUnvote; rw [if_neg (show ¬ (liveR R ((i : Int) + 1) ≠ 0) from fun e => e hlv), if_neg h0]
        have hv1 : ¬ voted p.votes (bk u) = false := fun hx => h0 (hv.1 hx)
        rw [e]
        simp only [Br.unvote, hm, ho, Bool.true_eq_false, if_false, e0]
        refine ⟨?_, hr.turned hp u (.inl ⟨rfl, rfl⟩)⟩
        unfold turnE
        rw [if_neg (fun e => hv1 e.2)]
def Pair (w : World) (b K : Nat) (M : Br) (q : Rb × Int) (e : Ending) (w' : World) : Prop := ∃ M', e = .returned (iv q.2) ∧ Hid (BAt w' b M' (K + 1) ∧ BAfter w b M M' w' ∧ Rel M' q.1)
theorem vote_b (h : BAt w b M K) (hr : Rel M R) (hK : K + 1 ≤ 1000) (x : Int) (u : BA) (hu : u.size ≤ 140737488355328) (yes : Bool) :
    Calls Try.prog 24 #[.pointer (some ⟨b, 0, none⟩), iv x, .string u, .bool yes] w (Pair w b K M (rVote R x u yes)) := by
  refine (vote_is h hK x u hu yes).mono ?_
  rintro e w' ⟨rfl, h1, h2⟩
  obtain ⟨e1, e2⟩ := vote_pair hr x u yes
  exact ⟨_, by rw [e1], h1, h2, e2⟩
theorem unvote_b (h : BAt w b M K) (hr : Rel M R) (hK : K + 1 ≤ 1000) (x : Int) (u : BA) (hu : u.size ≤ 140737488355328) :
    Calls Try.prog 25 #[.pointer (some ⟨b, 0, none⟩), iv x, .string u] w (Pair w b K M (rUnvote R x u)) := by
  refine (unvote_is h hK x u hu).mono ?_
  rintro e w' ⟨rfl, h1, h2⟩
  obtain ⟨e1, e2⟩ := unvote_pair hr x u
  exact ⟨_, by rw [e1], h1, h2, e2⟩
theorem close_b (h : BAt w b M K) (hr : Rel M R) (hK : K + 1 ≤ 1000) (x : Int) :
    Calls Try.prog 28 #[.pointer (some ⟨b, 0, none⟩), iv x] w (Pair w b K M (rClose R x)) := by
  refine (close_is h hK x).mono ?_
  rintro e w' ⟨M', h1, h2, ⟨hm, rfl, rfl⟩ | ⟨⟨p, hm⟩, ho, rfl, rfl⟩ | ⟨⟨p, hm⟩, ho, ⟨ov, rfl⟩, rfl⟩⟩
  all_goals have hlv := hr.live x
  · rw [if_pos hm] at hlv
    refine ⟨_, ?_, h1, h2, ?_⟩ <;> unfold rClose <;> rw [if_pos (by rw [hlv]; decide)]
    · rw [hlv]
    · exact hr
  · rw [if_neg (by rw [hm]; simp), if_pos ho] at hlv
    refine ⟨_, ?_, h1, h2, ?_⟩ <;> unfold rClose <;> rw [if_pos (by rw [hlv]; decide)]
    · rw [hlv]
    · exact hr
  · rw [if_neg (by rw [hm]; simp), if_neg (by rw [ho]; simp)] at hlv
    refine ⟨_, ?_, h1, h2, ?_⟩ <;> unfold rClose <;> rw [if_neg (by rw [hlv]; simp)]
    exact hr.shut (by rw [hr.there, hm]; rfl) ov
theorem say_b (h : BAt w b M K) (hr : Rel M R) (hK : K + 1 ≤ 1000) (x : Int) (u t : BA) (hu : u.size ≤ 140737488355328) (ht : t.size ≤ 140737488355328) :
    Calls Try.prog 30 #[.pointer (some ⟨b, 0, none⟩), iv x, .string u, .string t] w (Pair w b K M (rSay R x u t)) := by
  refine (say_is h hK x u t hu ht).mono ?_
  rintro e w' ⟨M', h1, h2, ⟨hm, rfl, rfl⟩ | ⟨p, i, hm, rfl, hp, ⟨ho, rfl, rfl⟩ | ⟨ho, ⟨v, rfl⟩, rfl⟩⟩⟩
  · have hth : thereR R x = false := by rw [hr.there, hm]; rfl
    refine ⟨_, ?_, h1, h2, ?_⟩ <;> unfold rSay <;> rw [if_pos hth]
    exact hr
  · have hth : thereR R ((i : Int) + 1) = true := by rw [hr.there, hm]; rfl
    rw [hr.talk i p hp] at ho
    refine ⟨_, ?_, h1, h2, ?_⟩ <;> unfold rSay <;> rw [if_neg (by rw [hth]; simp), if_pos ho]
    exact hr
  · have hth : thereR R ((i : Int) + 1) = true := by rw [hr.there, hm]; rfl
    rw [hr.talk i p hp] at ho
    refine ⟨_, ?_, h1, h2, ?_⟩ <;> unfold rSay <;> rw [if_neg (by rw [hth]; simp), if_neg ho]
    exact hr.said hp v u t
def Pair3 (w : World) (b K : Nat) (M : Br) (q : Rb × Int × Int) (e : Ending) (w' : World) : Prop := ∃ M', e = .returned (.tuple #[iv q.2.1, iv q.2.2]) ∧ Hid (BAt w' b M' (K + 1) ∧ BAfter w b M M' w' ∧ Rel M' q.1)
theorem Rel.dup (h : Rel M R) (ch : BA) (hs : Hs) : (openN R R.L.length).any (dupB R ch hs) = M.opn.any (M.ofN ch hs) := by
  rw [h.opn]
  have : ∀ k ∈ openN R R.L.length, dupB R ch hs k = M.ofN ch hs k := fun k hk => by
    have hk2 := openN_mem R _ k hk
    unfold dupB Br.ofN
    obtain ⟨p, hp⟩ : ∃ p, M.props[k - 1]? = some p := ⟨_, List.getElem?_eq_getElem (by rw [← h.len]; omega)⟩
    rw [hp, h.made _ p hp]
    unfold isOfB
    first
    | rfl
    | (simp [eq_comm])
    | (simp [Bool.and_comm, eq_comm])
  rw [Bool.eq_iff_iff, List.any_eq_true, List.any_eq_true]
  exact ⟨fun ⟨k, h1, h2⟩ => ⟨k, h1, by rw [← this k h1]; exact h2⟩, fun ⟨k, h1, h2⟩ => ⟨k, h1, by rw [this k h1]; exact h2⟩⟩
theorem propose_b (h : BAt w b M K) (hr : Rel M R) (hK : K + 1 ≤ 1000) (au ch : BA) (hs : Hs) (hl : hs.length = 32) :
    Calls Try.prog 23 #[.pointer (some ⟨b, 0, none⟩), .string au, .string ch, .agg (U hs).toArray] w (Pair3 w b K M (rPropose R au ch hs)) := by
  refine (propose_is h hK au ch hs hl).mono ?_
  rintro e w' ⟨M', h1, h2, h3⟩
  have hd := hr.dup ch hs
  have ho : (openN R R.L.length).length = M.opn.length := by rw [hr.opn]
  rcases h3 with ⟨h4, rfl, rfl⟩ | ⟨h4, h5, rfl, rfl⟩ | ⟨h4, h5, ⟨v7, v9, mb, rfl⟩, rfl⟩
  · refine ⟨_, ?_, h1, h2, ?_⟩ <;> unfold rPropose <;> rw [if_pos (by rw [hd]; exact h4)]
    exact hr
  · refine ⟨_, ?_, h1, h2, ?_⟩ <;> unfold rPropose <;> rw [if_neg (by rw [hd, h4]; simp), if_pos (by rw [ho]; exact h5)]
    exact hr
  · refine ⟨_, ?_, h1, h2, ?_⟩ <;> unfold rPropose <;> rw [if_neg (by rw [hd, h4]; simp), if_neg (by rw [ho]; omega)]
    · rw [hr.len]; simp
    · exact hr.with v7 v9 au ch hs mb
end
end Go.Proofs.Ytaecigpjcbjcbaa.Oct
