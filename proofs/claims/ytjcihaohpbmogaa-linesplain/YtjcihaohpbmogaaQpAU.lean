/-
  Layer 11 (lines): what is told of a graph that calls made, plain.
  Layer 11 (lines), plain: the pairs without an order, counted each from both sides.
  Layer 11 (lines): what Conflicts counts, plain.
  Layer 11 (lines): graphs with the same lines tell the same.
-/
import Derived.Test.YtjcihaohpbmogaaQpBM
import Derived.Test.YtjcihaohpbmogaaQpAE
import Derived.Test.YtjcihaohpbmogaaQpAQ
/- Layer 11 (lines): what is told of a graph that calls made, plain. -/
namespace Go.Proofs.Ytjcihaohpbmogaa.Oct
open Go.RowKit
set_option maxRecDepth 100000
set_option linter.unusedSimpArgs false
set_option linter.unusedVariables false
set_option linter.unusedSectionVars false

theorem rise_nodup {ps : List PL} {vs : List Vx} (hn : (keysP ps).Nodup) (h : riseP ps vs) : vs.Nodup := h.1.nodup_iff.2 hn
theorem rise_mem {ps : List PL} {vs : List Vx} (h : riseP ps vs) (v : Vx) : v ∈ vs ↔ v ∈ keysP ps := h.1.mem_iff
theorem rise_len {ps : List PL} {vs : List Vx} (h : riseP ps vs) : vs.length = ps.length := by rw [h.1.length_eq]; unfold keysP; simp
theorem flnm {vs fr : List Vx} {k : Nat} : k ∈ fln vs fr ↔ ∃ u ∈ fr, u ∈ vs ∧ vs.idxOf u = k := by
  unfold fln
  rw [List.mem_filterMap]
  constructor
  · rintro ⟨u, hu, e⟩
    by_cases h : u ∈ vs
    · rw [if_pos h] at e
      exact ⟨u, hu, h, Option.some.inj e⟩
    · rw [if_neg h] at e
      cases e
  · rintro ⟨u, hu, h, e⟩
    exact ⟨u, hu, by rw [if_pos h, e]⟩
/-- steps by number -/
def stpP (ps : List PL) (vs : List Vx) (a : Nat) : List Nat := (List.range vs.length).filter fun b => decide (a ∈ flvP ps vs b)
theorem getD_in {vs : List Vx} {n : Nat} (h : n < vs.length) : vs.getD n vTop ∈ vs := getD_mem h vTop
theorem flv_lt {ps : List PL} {vs : List Vx} (ht : vTop ∉ keysP ps) {a b : Nat} (h : a ∈ flvP ps vs b) : b < vs.length ∧ a < vs.length := by
  unfold flvP at h
  obtain ⟨u, hu, hv, e⟩ := flnm.1 h
  refine ⟨?_, by rw [← e]; exact List.idxOf_lt_length_of_mem hv⟩
  by_cases hb : b < vs.length
  · exact hb
  · rw [List.getD_eq_getElem?_getD, List.getElem?_eq_none (by omega)] at hu
    obtain ⟨q, hq, e, _⟩ := frsP_mem hu
    exact absurd (List.mem_map.2 ⟨q, hq, e⟩) ht
theorem stp_mem {ps : List PL} {vs : List Vx} (ht : vTop ∉ keysP ps) (a b : Nat) : b ∈ stpP ps vs a ↔ a ∈ flvP ps vs b := by
  unfold stpP
  rw [List.mem_filter, List.mem_range, decide_eq_true_eq]
  exact ⟨fun h => h.2, fun h => ⟨(flv_lt ht h).1, h⟩⟩
theorem reach_num {ps : List PL} {vs : List Vx} (hn : (keysP ps).Nodup) (hr : riseP ps vs) {x y : Vx} (h : Gr.Reach (frsP ps) x y) : x ∈ vs → y ∈ vs → Gr.Reach (flvP ps vs) (vs.idxOf x) (vs.idxOf y) := by
  have key : ∀ b c, c ∈ frsP ps b → b ∈ vs → c ∈ vs → vs.idxOf c ∈ flvP ps vs (vs.idxOf b) := fun b c hc hb hcv => by
    unfold flvP
    have e : vs.getD (vs.idxOf b) vTop = b := by
      rw [List.getD_eq_getElem?_getD, Gr.get_idx hb]
      rfl
    rw [e]
    exact flnm.2 ⟨c, hc, hcv, rfl⟩
  induction h with
  | one h => exact fun hx hy => .one (key _ _ h hx hy)
  | more _ h ih =>
    intro hx hy
    obtain ⟨q, hq, e, _⟩ := frsP_mem h
    have hb := (rise_mem hr _).2 (List.mem_map.2 ⟨q, hq, e⟩)
    exact .more (ih hx hb) (key _ _ h hb hy)
/-- what is told of a graph -/
structure ShP (ps : List PL) (S : List Sx) : Prop where
  len : S.length = ps.length
  mem : ∀ s ∈ S, s.v ∈ keysP ps
  ord : ∀ i j : Nat, ∀ s t, j < i → S[i]? = some s → S[j]? = some t → t.v ≠ s.v ∧ ¬ ahdP ps s.v t.v
theorem Iv.shown {k : Nat} {ps : List PL} (h : Iv k ps) {vs : List Vx} (hr : riseP ps vs) : ShP ps (shownP ps vs) := by
  obtain ⟨F, hF⟩ := h.acy
  have hnd := rise_nodup h.nd hr
  have hT := Gr.ordr_told (step := stpP ps vs) (vs := List.range vs.length) (fl := flvP ps vs) (fun n hn u => by
      rw [stp_mem h.top, List.mem_range]
      exact ⟨fun e => ⟨(flv_lt h.top e).2, e⟩, fun e => e.2⟩)
    (fun a ha u hu => .inl (by
      have : ∀ a b, Gr.Reach (stpP ps vs) a b → b ∈ List.range vs.length := fun a b hab => by
        cases hab with
        | one e => exact (List.mem_filter.1 e).1
        | more _ e => exact (List.mem_filter.1 e).1
      exact this a u hu))
    (fun n => F (vs.getD n vTop)) (fun a b hb => by
      have hb := (stp_mem h.top a b).1 hb
      have hlt := flv_lt h.top hb
      unfold flvP at hb
      obtain ⟨u, hu, hv, e⟩ := flnm.1 hb
      obtain ⟨q, hq, eq, hx⟩ := frsP_mem hu
      have : vs.getD a vTop = u := by
        rw [← e, List.getD_eq_getElem?_getD, Gr.get_idx hv]
        rfl
      show F (vs.getD a vTop) < F (vs.getD b vTop)
      rw [this, ← eq]
      exact hF q hq u hx ((rise_mem hr u).1 hv)) List.nodup_range
  obtain ⟨hT, hl, hm⟩ := hT
  rw [List.length_range] at hl
  unfold shownP
  refine ⟨by rw [List.length_map, hl, rise_len hr], fun s hs => ?_, fun i j s t hij hi hj => ?_⟩
  · obtain ⟨n, hn, rfl⟩ := List.mem_map.1 hs
    exact (rise_mem hr _).1 (getD_in (List.mem_range.1 ((hm n).1 hn)))
  · rw [List.getElem?_map] at hi hj
    obtain ⟨a, ha, rfl⟩ := Option.map_eq_some_iff.1 hi
    obtain ⟨b, hb, rfl⟩ := Option.map_eq_some_iff.1 hj
    have hai := List.getElem?_eq_some_iff.1 ha
    have hbj := List.getElem?_eq_some_iff.1 hb
    have han := List.mem_range.1 ((hm a).1 (List.mem_of_getElem? ha))
    have hbn := List.mem_range.1 ((hm b).1 (List.mem_of_getElem? hb))
    have hne : b ≠ a := by
      have := List.pairwise_iff_getElem.1 hT.nd j i hbj.1 hai.1 hij
      rw [hbj.2, hai.2] at this
      exact this
    have hv : vs.getD b vTop ≠ vs.getD a vTop := fun e => hne (by
      have h1 := idx_getD hnd hbn vTop
      have h2 := idx_getD hnd han vTop
      rw [← h1, ← h2, e])
    refine ⟨hv, fun hA => ?_⟩
    have ho := List.pairwise_iff_getElem.1 hT.ord j i hbj.1 hai.1 hij
    rw [hbj.2, hai.2] at ho
    have hka : vs.getD a vTop ∈ keysP ps := (rise_mem hr _).1 (getD_in han)
    have hkb : vs.getD b vTop ∈ keysP ps := (rise_mem hr _).1 (getD_in hbn)
    rcases hA.2.2.2 with e | e | e
    · exact h.top (e ▸ hka)
    · exact h.bot (e ▸ hkb)
    · have h3 := reach_num h.nd hr e.2.2 (getD_in hbn) (getD_in han)
      have h1 := idx_getD hnd hbn vTop
      have h2 := idx_getD hnd han vTop
      have h4 : Gr.Reach (flvP ps vs) b a := by
        show Gr.Reach (flvP ps vs) b a
        rw [← h1, ← h2]
        exact h3
      exact ho ((Gr.Reach.back (step := stpP ps vs) (from_ := flvP ps vs) (stp_mem h.top)).2 h4)
theorem ahd_top {ps : List PL} {v : Vx} (ht : vTop ∉ keysP ps) (h : v ∈ keysP ps) : ahdP ps vTop v := ⟨by unfold hasP; rw [isE_top]; rfl, by unfold hasP; simp [h], fun e => ht (e ▸ h), .inl rfl⟩
theorem ahd_bot {ps : List PL} {v : Vx} (hb : vBot ∉ keysP ps) (h : v ∈ keysP ps) : ahdP ps v vBot := ⟨by unfold hasP; simp [h], by unfold hasP; rw [isE_bot]; rfl, fun e => hb (e ▸ h), .inr (.inl rfl)⟩
theorem ahd_self {ps : List PL} {v : Vx} : ¬ ahdP ps v v := fun h => h.2.2.1 rfl
theorem ahd_ends {ps : List PL} : ¬ ahdP ps vBot vTop := fun h => by
  rcases h.2.2.2 with e | e | e
  · exact h.2.2.1 e
  · exact h.2.2.1 e.symm
  · exact e.1 rfl
end Go.Proofs.Ytjcihaohpbmogaa.Oct

/- Layer 11 (lines), plain: the pairs without an order, counted each from both sides. -/
namespace Go.Proofs.Ytjcihaohpbmogaa.Gr
set_option linter.unusedVariables false
variable {α : Type} [DecidableEq α]

/-- those of a list that one is not ahead of, but itself -/
def outs (R : α → α → Bool) (S : List α) (a : α) : Nat := (S.filter fun b => decide (b ≠ a) && !R a b).length
/-- each against the later ones -/
def pairs (R : α → α → Bool) : List α → Nat
  | [] => 0
  | x :: T => (T.filter fun b => !R x b).length + pairs R T
theorem outs_cons (R : α → α → Bool) (x a : α) (T : List α) (h1 : x ≠ a) (h2 : R a x = false) : outs R (x :: T) a = outs R T a + 1 := by
  unfold outs
  rw [List.filter_cons_of_pos (by simp [h1, h2]), List.length_cons]
theorem outs_self (R : α → α → Bool) (x : α) (T : List α) (hx : x ∉ T) : outs R (x :: T) x = (T.filter fun b => !R x b).length := by
  unfold outs
  rw [List.filter_cons_of_neg (by simp)]
  congr 1
  refine List.filter_congr fun b hb => ?_
  have : b ≠ x := fun e => hx (e ▸ hb)
  simp [this]
theorem sum_cons (R : α → α → Bool) (x : α) (T : List α) : ∀ (l : List α), (∀ a ∈ l, x ≠ a ∧ R a x = false) → (l.map (outs R (x :: T))).sum = (l.map (outs R T)).sum + l.length
  | [], _ => rfl
  | a :: l, h => by
    have h1 := h a (by simp)
    rw [List.map_cons, List.map_cons, List.sum_cons, List.sum_cons, outs_cons R x a T h1.1 h1.2, sum_cons R x T l (fun b hb => h b (by simp [hb])), List.length_cons]
    omega
/-- counted from both sides: the pairs without an order twice, the others once -/
theorem both_sides (R : α → α → Bool) : ∀ (S : List α), S.Nodup → S.Pairwise (fun a b => R b a = false) → 2 * (S.map (outs R S)).sum = 2 * pairs R S + S.length * (S.length - 1)
  | [], _, _ => rfl
  | x :: T, hn, hp => by
    rw [List.nodup_cons] at hn
    rw [List.pairwise_cons] at hp
    have ih := both_sides R T hn.2 hp.2
    rw [List.map_cons, List.sum_cons, outs_self R x T hn.1, sum_cons R x T T (fun a ha => ⟨fun e => hn.1 (e ▸ ha), hp.1 a ha⟩), List.length_cons]
    unfold pairs
    have e : (T.length + 1) * (T.length + 1 - 1) = T.length * (T.length - 1) + 2 * T.length := by
      rw [Nat.add_sub_cancel]
      cases T.length with
      | zero => rfl
      | succ m =>
        have e1 : (m + 1 + 1) * (m + 1) = (m + 1) * m + (m + 1) + (m + 1) := by rw [Nat.succ_mul (m + 1), Nat.mul_succ]
        rw [Nat.add_sub_cancel, e1]
        omega
    rw [e]
    omega
end Go.Proofs.Ytjcihaohpbmogaa.Gr

/- Layer 11 (lines): what Conflicts counts, plain. -/
namespace Go.Proofs.Ytjcihaohpbmogaa.Oct
open Go.RowKit
set_option maxRecDepth 100000
set_option linter.unusedSimpArgs false
set_option linter.unusedVariables false
set_option linter.unusedSectionVars false

/-- told one behind the other, each behind all that it comes from -/
inductive Odd (fl : Nat → List Nat) (N : Nat) : List Nat → Prop
  | nil : Odd fl N []
  | snoc {P : List Nat} {n : Nat} : Odd fl N P → n ∉ P → n < N → (∀ u ∈ fl n, u ∈ P) → Odd fl N (P ++ [n])
theorem run_odd {fl : Nat → List Nat} {N : Nat} : ∀ (k : Nat) (P : List Nat), Odd fl N P → Odd fl N (Gr.run fl (List.range N) k P)
  | 0, P, h => h
  | k + 1, P, h => by
    unfold Gr.run
    cases e : Gr.nxt fl (List.range N) P with
    | none => exact h
    | some n =>
      obtain ⟨h1, h2, h3⟩ := Gr.nxt_some e
      exact run_odd k _ (.snoc h h2 (List.mem_range.1 h1) (Gr.rdy_iff.1 h3))
theorem ordr_odd (fl : Nat → List Nat) (N : Nat) : Odd fl N (Gr.ordr fl (List.range N)) := run_odd _ _ .nil
theorem Odd.lt {fl : Nat → List Nat} {N : Nat} {P : List Nat} (h : Odd fl N P) : (∀ m ∈ P, m < N) ∧ P.Nodup := by
  induction h with
  | nil => exact ⟨by simp, by simp⟩
  | snoc h h1 h2 _ ih =>
    refine ⟨fun m hm => ?_, ?_⟩
    · rcases List.mem_append.1 hm with h | h
      · exact ih.1 m h
      · rw [List.mem_singleton.1 h]; exact h2
    · rw [List.nodup_append]
      exact ⟨ih.2, by simp, fun x hx y hy e => h1 (by rw [List.mem_singleton.1 hy] at e; exact e ▸ hx)⟩
theorem reach_cons {fl : Nat → List Nat} {n m : Nat} : Gr.Reach fl n m ↔ ∃ k ∈ fl n, m = k ∨ Gr.Reach fl k m := by
  constructor
  · intro h
    induction h with
    | one h => exact ⟨_, h, .inl rfl⟩
    | more _ h ih =>
      obtain ⟨k, hk, e⟩ := ih
      refine ⟨k, hk, .inr ?_⟩
      rcases e with rfl | e
      · exact .one h
      · exact .more e h
  · rintro ⟨k, hk, rfl | h⟩
    · exact .one hk
    · exact Gr.Reach.front hk h
theorem odd_reach {fl : Nat → List Nat} {N : Nat} {P : List Nat} (h : Odd fl N P) {n m : Nat} (hr : Gr.Reach fl n m) (hn : n ∈ P) : m ∈ P := by
  have key : ∀ {P : List Nat}, Odd fl N P → ∀ n ∈ P, ∀ u ∈ fl n, u ∈ P := by
    intro P h
    induction h with
    | nil => intro n hn; cases hn
    | snoc _ _ _ hu ih =>
      intro n hn u hfu
      rcases List.mem_append.1 hn with hn | hn
      · exact List.mem_append.2 (.inl (ih n hn u hfu))
      · rw [List.mem_singleton.1 hn] at hfu
        exact List.mem_append.2 (.inl (hu u hfu))
  induction hr with
  | one e => exact key h _ hn _ e
  | more _ e ih => exact key h _ ih _ e
theorem pairs_snoc {α : Type} [DecidableEq α] (R : α → α → Bool) (n : α) : ∀ S : List α, Gr.pairs R (S ++ [n]) = Gr.pairs R S + (S.filter fun m => !R m n).length
  | [] => rfl
  | x :: S => by
    show ((S ++ [n]).filter fun b => !R x b).length + Gr.pairs R (S ++ [n]) = (S.filter fun b => !R x b).length + Gr.pairs R S + ((x :: S).filter fun m => !R m n).length
    rw [pairs_snoc R n S, List.filter_append, List.length_append, List.filter_cons]
    cases h : R x n <;> simp [h] <;> omega
theorem pairs_le {α : Type} [DecidableEq α] (R : α → α → Bool) : ∀ S : List α, Gr.pairs R S ≤ S.length * S.length
  | [] => Nat.le_refl _
  | x :: S => by
    have ih := pairs_le R S
    have h1 := List.length_filter_le (fun b => !R x b) S
    show (S.filter fun b => !R x b).length + Gr.pairs R S ≤ (S.length + 1) * (S.length + 1)
    have : (S.length + 1) * (S.length + 1) = S.length * S.length + 2 * S.length + 1 := by rw [Nat.add_mul, Nat.mul_add]; omega
    omega
theorem same_len {α : Type} [DecidableEq α] {a b : List α} (ha : a.Nodup) (hb : b.Nodup) (h : ∀ x, x ∈ a ↔ x ∈ b) : a.length = b.length := Nat.le_antisymm (Gr.nodup_len a b ha fun x hx => (h x).1 hx) (Gr.nodup_len b a hb fun x hx => (h x).2 hx)
/-- where the counting stands -/
structure CI (fl : Nat → List Nat) (al : Nat → Bool) (R : Nat → Nat → Bool) (N : Nat) (P : List Nat) (c : Cf) : Prop where
  len : c.l.length = N * 8
  slen : c.s.length = 8
  okl : OkW c.l
  oks : OkW c.s
  row : ∀ n < N, ∀ m < 512, rowW c.l n m = (decide (n ∈ P) && R m n)
  set : ∀ m < 512, bt c.s (m / 64) (m % 64) = (decide (m ∈ P) && al m)
  before : c.before = ((P.filter al).length : Int)
  pairs : c.pairs = (Gr.pairs R (P.filter al) : Int)
theorem CI.start (fl : Nat → List Nat) (al : Nat → Bool) (R : Nat → Nat → Bool) (N : Nat) : CI fl al R N [] ⟨List.replicate (N * 8) 0, z8, 0, 0⟩ := by
  have hb : ∀ k i r, bt (List.replicate k 0) i r = false := fun k i r => by
    unfold bt
    rw [List.getD_eq_getElem?_getD]
    by_cases h : i < k
    · rw [List.getElem?_replicate, if_pos h]; simp
    · rw [List.getElem?_replicate, if_neg h]; simp
  have ho : ∀ k, OkW (List.replicate k 0) := fun k x hx => ⟨0, (List.mem_replicate.1 hx).2, by omega⟩
  exact ⟨by simp, rfl, ho _, ho 8, fun n _ m _ => by unfold rowW; rw [hb]; simp, fun m _ => by show bt (List.replicate 8 0) _ _ = _; rw [hb]; simp, rfl, rfl⟩
theorem CI.step {fl : Nat → List Nat} {al : Nat → Bool} {R : Nat → Nat → Bool} {N : Nat} (hN : N ≤ 512) (hR : ∀ m n, R m n = true ↔ Gr.Reach fl n m) {P : List Nat} {n : Nat} (hP : Odd fl N P) (hn : n ∉ P) (hlt : n < N) (hu : ∀ u ∈ fl n, u ∈ P) {c : Cf} (h : CI fl al R N P c) : CI fl al R N (P ++ [n]) (cfStep fl al c n) := by
  obtain ⟨hPl, hPn⟩ := hP.lt
  obtain ⟨ho, hrow⟩ := jn_row (n := n) (fl n) c.l h.okl (by rw [h.len]; omega) (fun k hk => ⟨Nat.lt_of_lt_of_le (hPl k (hu k hk)) hN, fun e => hn (e ▸ hu k hk)⟩)
  have hjl : (jn n (fl n) c.l).length = N * 8 := by rw [jn_len, h.len]
  have hnew : ∀ n' < N, ∀ m < 512, rowW (jn n (fl n) c.l) n' m = (decide (n' ∈ P ++ [n]) && R m n') := fun n' hn' m hm => by
    rw [hrow n' m hm]
    by_cases e : n' = n
    · subst e
      rw [if_pos rfl, h.row n' hn' m hm]
      have h1 : (fl n').any (fun k => decide (m = k) || rowW c.l k m) = R m n' := by
        rw [Bool.eq_iff_iff, List.any_eq_true, hR, reach_cons]
        refine exists_congr fun k => and_congr_right fun hk => ?_
        rw [Bool.or_eq_true, decide_eq_true_eq, h.row k (hPl k (hu k hk)) m hm, decide_eq_true (hu k hk), Bool.true_and, hR]
      rw [h1]
      simp [hn]
    · rw [if_neg e, h.row n' hn' m hm]
      simp [e]
  have hpl : P.length ≤ 512 := by
    have := Gr.nodup_len P (List.range N) hPn (fun x hx => List.mem_range.2 (hPl x hx))
    rw [List.length_range] at this
    omega
  cases ha : al n with
  | false =>
    rw [cf_neg fl al c n ha]
    have hf : (P ++ [n]).filter al = P.filter al := by rw [List.filter_append]; simp [ha]
    refine ⟨hjl, h.slen, ho, h.oks, hnew, fun m hm => ?_, by rw [hf]; exact h.before, by rw [hf]; exact h.pairs⟩
    show bt c.s _ _ = _
    rw [h.set m hm]
    by_cases e : m = n
    · subst e; simp [ha]
    · simp [e]
  | true =>
    rw [cf_pos fl al c n ha]
    obtain ⟨hps, hpb⟩ := putW_bt h.oks (o := 0) (n := n) (by rw [h.slen]; omega)
    have hf : (P ++ [n]).filter al = P.filter al ++ [n] := by rw [List.filter_append]; simp [ha]
    have hQl : (P.filter al).length ≤ 512 := Nat.le_trans (List.length_filter_le _ _) hpl
    have hcnt : bothW (((jn n (fl n) c.l).drop (n * 8)).take 8) c.s 8 = ((((P.filter al).filter fun m => R m n).length : Nat) : Int) := by
      rw [both_cnt (slice_ok ho n) h.oks 8 (Nat.le_refl 8)]
      congr 1
      refine same_len ((List.nodup_range).filter _) ((hPn.filter _).filter _) fun m => ?_
      rw [List.mem_filter, List.mem_filter, List.mem_filter, List.mem_range]
      constructor
      · rintro ⟨h1, h2⟩
        have h1 : m < 512 := h1
        rw [slice_bt _ _ _ _ (by omega), Bool.and_eq_true, h.set m h1] at h2
        have h3 := hnew n hlt m h1
        unfold rowW at h3
        rw [h3] at h2
        simp at h2
        exact ⟨⟨h2.2.1, h2.2.2⟩, h2.1⟩
      · rintro ⟨⟨h1, h2⟩, h3⟩
        have hm : m < 512 := Nat.lt_of_lt_of_le (hPl m h1) hN
        refine ⟨hm, ?_⟩
        rw [slice_bt _ _ _ _ (by omega), Bool.and_eq_true, h.set m hm]
        have h4 := hnew n hlt m hm
        unfold rowW at h4
        rw [h4]
        simp [h1, h2, h3]
    have hsplit : (P.filter al).length = ((P.filter al).filter fun m => R m n).length + ((P.filter al).filter fun m => !R m n).length := by
      have key : ∀ l : List Nat, l.length = (l.filter fun m => R m n).length + (l.filter fun m => !R m n).length := fun l => by
        induction l with
        | nil => rfl
        | cons x l ih =>
          rw [List.filter_cons, List.filter_cons]
          cases R x n <;> simp <;> omega
      exact key _
    have hpr := pairs_le R (P.filter al)
    have hsq : (P.filter al).length * (P.filter al).length ≤ 512 * 512 := Nat.mul_le_mul hQl hQl
    refine ⟨hjl, by show (putW 0 n c.s).length = 8; rw [putW_len, h.slen], ho, hps, hnew, fun m hm => ?_, ?_, ?_⟩
    · show bt (putW 0 n c.s) _ _ = _
      rw [hpb, h.set m hm]
      by_cases e : m = n
      · subst e
        simp [ha]
      · have e2 : ¬ (m / 64 = 0 + n / 64 ∧ m % 64 = n % 64) := by omega
        have e3 : (decide (m / 64 = 0 + n / 64) && decide (m % 64 = n % 64)) = false := by
          rw [← Bool.decide_and]
          exact decide_eq_false e2
        rw [e3]
        simp [e]
    · show wrap64 (c.before + 1) = _
      rw [h.before, hf, List.length_append, List.length_singleton, Int.natCast_add]
      unfold wrap64
      omega
    · show wrap64 (c.pairs + wrap64 (c.before - bothW _ c.s 8)) = _
      rw [hcnt, h.before, h.pairs, hf, pairs_snoc]
      have e1 : (((P.filter al).length : Nat) : Int) - ((((P.filter al).filter fun m => R m n).length : Nat) : Int) = ((((P.filter al).filter fun m => !R m n).length : Nat) : Int) := by omega
      rw [e1, wrap64_nat (by omega), ← Int.natCast_add, wrap64_nat (by omega)]
/-- Conflicts counts the pairs of living lines of which the one that is told first is not ahead of the other -/
theorem conf_pairs {fl : Nat → List Nat} {al : Nat → Bool} {R : Nat → Nat → Bool} {N : Nat} (hN : N ≤ 512) (hR : ∀ m n, R m n = true ↔ Gr.Reach fl n m) {T : List Nat} (hT : Odd fl N T) : (confR fl al N T).pairs = (Gr.pairs R (T.filter al) : Int) := by
  have key : CI fl al R N T (T.foldl (cfStep fl al) ⟨List.replicate (N * 8) 0, z8, 0, 0⟩) := by
    induction hT with
    | nil => exact CI.start fl al R N
    | snoc hP h1 h2 h3 ih =>
      rw [List.foldl_append]
      exact ih.step hN hR hP h1 h2 h3
  exact key.pairs
theorem reach_bool (fl : Nat → List Nat) : ∃ R : Nat → Nat → Bool, ∀ m n, R m n = true ↔ Gr.Reach fl n m := by
  refine Classical.skolem (p := fun (m : Nat) (f : Nat → Bool) => ∀ n, f n = true ↔ Gr.Reach fl n m) |>.1 fun m => ?_
  refine Classical.skolem (p := fun (n : Nat) (b : Bool) => b = true ↔ Gr.Reach fl n m) |>.1 fun n => ?_
  by_cases h : Gr.Reach fl n m
  · exact ⟨true, ⟨fun _ => h, fun _ => rfl⟩⟩
  · exact ⟨false, ⟨fun e => (by cases e), fun e => absurd e h⟩⟩
end Go.Proofs.Ytjcihaohpbmogaa.Oct

/- Layer 11 (lines): graphs with the same lines tell the same. -/
namespace Go.Proofs.Ytjcihaohpbmogaa.Oct
open Go.RowKit
set_option maxRecDepth 100000
set_option linter.unusedSimpArgs false
set_option linter.unusedVariables false
set_option linter.unusedSectionVars false

/-- the same lines, each with the same text, kills, and steps to it -/
structure Sim (ps ps' : List PL) : Prop where
  nd : (keysP ps).Nodup
  keys : (keysP ps).Perm (keysP ps')
  same : ∀ q ∈ ps, ∃ q' ∈ ps', q'.v = q.v ∧ q'.t = q.t ∧ q'.kills = q.kills ∧ ∀ u, u ∈ q'.fr ↔ u ∈ q.fr
variable {ps ps' : List PL}
theorem Sim.nd' (h : Sim ps ps') : (keysP ps').Nodup := h.keys.nodup_iff.1 h.nd
theorem Sim.get (h : Sim ps ps') (v : Vx) : (getP ps v = none ∧ getP ps' v = none) ∨ ∃ q q', getP ps v = some q ∧ getP ps' v = some q' ∧ q'.t = q.t ∧ q'.kills = q.kills ∧ ∀ u, u ∈ q'.fr ↔ u ∈ q.fr := by
  cases e : getP ps v with
  | none =>
    refine .inl ⟨rfl, ?_⟩
    cases e' : getP ps' v with
    | none => rfl
    | some q' =>
      obtain ⟨hm, hv⟩ := getP_some e'
      have : v ∈ keysP ps := h.keys.mem_iff.2 (hv ▸ List.mem_map.2 ⟨q', hm, rfl⟩)
      exact absurd this (getP_none e)
  | some q =>
    obtain ⟨hm, hv⟩ := getP_some e
    obtain ⟨q', hq', e1, e2, e3, e4⟩ := h.same q hm
    have hg := getP_of h.nd' hq'
    rw [e1, hv] at hg
    exact .inr ⟨q, q', rfl, hg, e2, e3, e4⟩
theorem Sim.rise (h : Sim ps ps') {vs : List Vx} (hr : riseP ps vs) : riseP ps' vs := ⟨hr.1.trans h.keys, hr.2⟩
theorem Sim.frs (h : Sim ps ps') (v u : Vx) : u ∈ frsP ps v ↔ u ∈ frsP ps' v := by
  unfold frsP
  rcases h.get v with ⟨e1, e2⟩ | ⟨q, q', e1, e2, _, _, e3⟩
  · rw [e1, e2]
  · rw [e1, e2]
    exact (e3 u).symm
theorem Sim.flv (h : Sim ps ps') (vs : List Vx) (n k : Nat) : k ∈ flvP ps vs n ↔ k ∈ flvP ps' vs n := by
  unfold flvP
  rw [flnm, flnm]
  exact exists_congr fun u => and_congr_left fun _ => h.frs _ u
theorem Sim.sx (h : Sim ps ps') (vs : List Vx) : sxP ps vs = sxP ps' vs := by
  funext n
  unfold sxP
  rcases h.get (vs.getD n vTop) with ⟨e1, e2⟩ | ⟨q, q', e1, e2, e3, e4, _⟩
  · rw [e1, e2]
  · rw [e1, e2]
    simp [e3, e4]
theorem Sim.alive (h : Sim ps ps') (vs : List Vx) : aliveP ps vs = aliveP ps' vs := by
  funext n
  unfold aliveP
  rcases h.get (vs.getD n vTop) with ⟨e1, e2⟩ | ⟨q, q', e1, e2, e3, e4, _⟩
  · rw [e1, e2]
  · rw [e1, e2]
    simp [e4]
theorem Sim.ordr (h : Sim ps ps') (vs : List Vx) : Gr.ordr (flvP ps vs) (List.range vs.length) = Gr.ordr (flvP ps' vs) (List.range vs.length) := Gr.ordr_same fun n _ u => h.flv vs n u
theorem Sim.shown (h : Sim ps ps') (vs : List Vx) : shownP ps vs = shownP ps' vs := by
  unfold shownP
  rw [h.ordr vs, h.sx vs]
theorem Sim.conf (h : Sim ps ps') (vs : List Vx) (hN : vs.length ≤ 512) : confP ps vs = confP ps' vs := by
  unfold confP
  rw [h.ordr vs, h.alive vs]
  obtain ⟨R, hR⟩ := reach_bool (flvP ps vs)
  have hR' : ∀ m n, R m n = true ↔ Gr.Reach (flvP ps' vs) n m := fun m n => (hR m n).trans ⟨fun k => k.sub fun a b => (h.flv vs a b).1, fun k => k.sub fun a b => (h.flv vs a b).2⟩
  have hT := ordr_odd (flvP ps' vs) vs.length
  have hT2 : Odd (flvP ps vs) vs.length (Gr.ordr (flvP ps' vs) (List.range vs.length)) := by
    rw [← h.ordr vs]
    exact ordr_odd _ _
  rw [conf_pairs hN hR hT2, conf_pairs hN hR' hT]
theorem Sim.perm (hn : (keysP ps).Nodup) (h : ps.Perm ps') : Sim ps ps' := ⟨hn, h.map _, fun q hq => ⟨q, h.mem_iff.1 hq, rfl, rfl, rfl, fun _ => Iff.rfl⟩⟩
theorem Iv.perm {k : Nat} (h : Iv k ps) (hp : ps.Perm ps') : Iv k ps' := by
  have hk : (keysP ps).Perm (keysP ps') := hp.map _
  have hm : ∀ q, q ∈ ps' → q ∈ ps := fun q hq => hp.mem_iff.2 hq
  have hkm : ∀ v, v ∈ keysP ps ↔ v ∈ keysP ps' := fun v => hk.mem_iff
  obtain ⟨F, hF⟩ := h.acy
  exact ⟨hk.nodup_iff.1 h.nd, fun v hv => h.ends v ((hkm v).2 hv), fun q hq u hu => (h.tied q (hm q hq) u hu).imp id (hkm u).1, fun q hq => h.ne q (hm q hq), fun q hq => h.ln q (hm q hq), ⟨F, fun q hq u hu hx => hF q (hm q hq) u hu ((hkm u).2 hx)⟩, fun q hq u hu => by
    obtain ⟨y, hy, e⟩ := h.tail q (hm q hq) u hu
    exact ⟨y, hp.mem_iff.1 hy, e⟩, fun q hq => (h.dn q (hm q hq)).imp id (hkm _).1⟩
/-- a line behind an addition -/
def gA (up dn : Vx) (ids : List Vx) (q : PL) : PL := if q.v = dn then { q with fr := q.fr ++ [abv up ids ids.length] } else q
theorem gA_v (up dn : Vx) (ids : List Vx) (q : PL) : (gA up dn ids q).v = q.v ∧ (gA up dn ids q).t = q.t ∧ (gA up dn ids q).kills = q.kills := by unfold gA; split <;> exact ⟨rfl, rfl, rfl⟩
theorem gA_fr (up dn : Vx) (ids : List Vx) (q : PL) (u : Vx) : u ∈ (gA up dn ids q).fr ↔ u ∈ q.fr ∨ (q.v = dn ∧ u = abv up ids ids.length) := by
  unfold gA
  by_cases h : q.v = dn
  · rw [if_pos h]; simp [h]
  · rw [if_neg h]; simp [h]
theorem addP_gA (ps : List PL) (up dn : Vx) (ids : List Vx) (ts : List BA) : addP ps up dn ids ts = (ps ++ (List.range ids.length).map (newP up dn ids ts)).map (gA up dn ids) := rfl
theorem newP_v {up dn : Vx} {ids : List Vx} {ts : List BA} {i : Nat} (hi : i < ids.length) : (newP up dn ids ts i).v ∈ ids := getD_mem hi _
/-- two additions, in either order -/
theorem either {ua da ub db : Vx} {ia ib : List Vx} {ta tb : List BA} {na nb ma mb : Nat} {k : Nat} (hI : Iv k ps) (hk : 1 ≤ k) (hp : ps.Perm ps') (ha : AddOk ps ua da ia na) (hab : AddOk (addP ps ua da ia ta) ub db ib nb) (hb : AddOk ps' ub db ib mb) (hba : AddOk (addP ps' ub db ib tb) ua da ia ma) : Sim (addP (addP ps ua da ia ta) ub db ib tb) (addP (addP ps' ub db ib tb) ua da ia ta) := by
  have hI2 := (hI.add (ts := ta) hk ha).add (ts := tb) (by omega) hab
  have hkk : (keysP ps).Perm (keysP ps') := hp.map _
  have hdba : db ∉ ia := fun hm => by
    rcases hasP_iff.1 hb.ahd.2.1 with e | e
    · rw [ha.ends _ hm] at e; cases e
    · exact ha.new _ hm (hkk.mem_iff.2 e)
  have hdab : da ∉ ib := fun hm => by
    rcases hasP_iff.1 ha.ahd.2.1 with e | e
    · rw [hb.ends _ hm] at e; cases e
    · exact hb.new _ hm (hkk.mem_iff.1 e)
  have hda := ha.not_dn
  have hdb := hb.not_dn
  refine ⟨hI2.nd, ?_, ?_⟩
  · rw [add_keys, add_keys, add_keys, add_keys, List.append_assoc, List.append_assoc]
    exact hkk.append (List.perm_append_comm)
  · intro q hq
    rw [addP_gA, addP_gA] at hq ⊢
    obtain ⟨q1, h1, rfl⟩ := List.mem_map.1 hq
    rcases List.mem_append.1 h1 with h1 | h1
    · obtain ⟨q0, h0, rfl⟩ := List.mem_map.1 h1
      rcases List.mem_append.1 h0 with h0 | h0
      · refine ⟨gA ua da ia (gA ub db ib q0), List.mem_map.2 ⟨_, List.mem_append.2 (.inl (List.mem_map.2 ⟨q0, List.mem_append.2 (.inl (hp.mem_iff.1 h0)), rfl⟩)), rfl⟩, ?_, ?_, ?_, fun u => ?_⟩
        · rw [(gA_v _ _ _ _).1, (gA_v _ _ _ _).1, (gA_v _ _ _ _).1, (gA_v _ _ _ _).1]
        · rw [(gA_v _ _ _ _).2.1, (gA_v _ _ _ _).2.1, (gA_v _ _ _ _).2.1, (gA_v _ _ _ _).2.1]
        · rw [(gA_v _ _ _ _).2.2, (gA_v _ _ _ _).2.2, (gA_v _ _ _ _).2.2, (gA_v _ _ _ _).2.2]
        · rw [gA_fr, gA_fr, gA_fr, gA_fr, (gA_v _ _ _ _).1, (gA_v _ _ _ _).1, or_assoc, or_assoc]
          exact or_congr Iff.rfl or_comm
      · obtain ⟨i, hi, rfl⟩ := List.mem_map.1 h0
        have hv := newP_v (up := ua) (dn := da) (ts := ta) (List.mem_range.1 hi)
        have e1 : gA ua da ia (newP ua da ia ta i) = newP ua da ia ta i := by
          unfold gA
          rw [if_neg (fun (e : (newP ua da ia ta i).v = da) => hda (e ▸ hv))]
        have e2 : gA ub db ib (newP ua da ia ta i) = newP ua da ia ta i := by
          unfold gA
          rw [if_neg (fun (e : (newP ua da ia ta i).v = db) => hdba (e ▸ hv))]
        refine ⟨newP ua da ia ta i, List.mem_map.2 ⟨newP ua da ia ta i, List.mem_append.2 (.inr h0), e1⟩, ?_, ?_, ?_, fun u => ?_⟩
        all_goals rw [e1, e2]
    · obtain ⟨i, hi, rfl⟩ := List.mem_map.1 h1
      have hv := newP_v (up := ub) (dn := db) (ts := tb) (List.mem_range.1 hi)
      have e1 : gA ub db ib (newP ub db ib tb i) = newP ub db ib tb i := by
        unfold gA
        rw [if_neg (fun (e : (newP ub db ib tb i).v = db) => hdb (e ▸ hv))]
      have e2 : gA ua da ia (newP ub db ib tb i) = newP ub db ib tb i := by
        unfold gA
        rw [if_neg (fun (e : (newP ub db ib tb i).v = da) => hdab (e ▸ hv))]
      refine ⟨newP ub db ib tb i, List.mem_map.2 ⟨newP ub db ib tb i, List.mem_append.2 (.inl (List.mem_map.2 ⟨newP ub db ib tb i, List.mem_append.2 (.inr h1), e1⟩)), e2⟩, ?_, ?_, ?_, fun u => ?_⟩
      all_goals rw [e1]
end Go.Proofs.Ytjcihaohpbmogaa.Oct
