/-
  Layer 24 (reply): the program reads back what is printed: plain facts.
-/
import Derived.Test.YtkpepfeiimphpaaDoorBdy
namespace Go.Proofs.YtkpepfeiimphpaaDoor.Oct
open Go.RowKit
set_option linter.unusedSimpArgs false
set_option linter.unusedVariables false

theorem cut_app {x : List UInt8} {c : UInt8} {t : List UInt8} (h : ∀ d ∈ x, d ≠ c) (l : List UInt8) : Lib.cut (x ++ ((c :: t) ++ l)) (c :: t) = (x, l, true) := by
  have hi : Lib.index (x ++ ((c :: t) ++ l)) (c :: t) = (x.length : Int) := by
    refine Lib.index_first (by simp) ?_ ?_
    · unfold Lib.occAt
      rw [List.drop_left, List.isPrefixOf_iff_prefix]
      exact ⟨l, rfl⟩
    · intro j hj
      unfold Lib.occAt
      rw [List.drop_append_of_le_length (by omega), List.drop_eq_getElem_cons hj]
      have := h _ (List.getElem_mem hj)
      simp only [List.cons_append, List.isPrefixOf]
      rw [show (c == x[j]) = false from beq_eq_false_iff_ne.2 (fun e => this e.symm)]
      rfl
  unfold Lib.cut
  rw [hi, if_pos (by omega)]
  simp only [Int.toNat_natCast]
  rw [List.take_left, ← List.drop_drop, List.drop_left, List.drop_left]
theorem ln_app {x : List UInt8} (h : x.all ncr = true) (l : List UInt8) : lnF (x ++ (crL ++ l)) = (x, l, true) := by
  unfold lnF
  exact cut_app (c := 13) (t := [10]) (fun d hd => by have := (List.all_eq_true.1 h) d hd; unfold ncr at this; simpa using this) l
theorem parse_snoc (c : UInt8) (hc : 48 ≤ c.toNat ∧ c.toNat ≤ 57) : ∀ (l : List UInt8) (acc u : Nat), Lib.parseUint10 acc l = .ok u → u ≤ 1000000 → Lib.parseUint10 acc (l ++ [c]) = .ok (u * 10 + (c.toNat - 48))
  | [], acc, u, h, hu => by
    simp only [Lib.parseUint10] at h
    injection h with h
    subst h
    simp only [List.nil_append, Lib.parseUint10]
    rw [if_pos hc, if_neg (by omega), if_neg (by omega)]
  | d :: r, acc, u, h, hu => by
    simp only [Lib.parseUint10] at h
    simp only [List.cons_append, Lib.parseUint10]
    split at h
    · rename_i h1
      rw [if_pos h1]
      split at h
      · cases h
      · rename_i h2
        rw [if_neg h2]
        split at h
        · cases h
        · rename_i h3
          rw [if_neg h3]
          exact parse_snoc c hc r _ u h hu
    · cases h
theorem parse_dec : ∀ (m n : Nat), n ≤ m → n ≤ 1000000 → Lib.parseUint10 0 (Lib.decDigits n) = .ok n
  | m, n, hm, hn => by
    have h1 : ∀ k : Nat, k < 10 → (UInt8.ofNat (48 + k)).toNat = 48 + k := fun k hk => (dig_lit hk).2
    by_cases h : n < 10
    · rw [dec_small h]
      simp only [Lib.parseUint10]
      rw [h1 n h, if_pos (by omega), if_neg (by omega), if_neg (by omega)]
      congr 1
      omega
    · match m with
      | 0 => omega
      | m + 1 =>
        have ih := parse_dec m (n / 10) (by omega) (by omega)
        rw [dec_big h, dec_small (u := n % 10) (by omega)]
        have h2 := h1 (n % 10) (by omega)
        rw [parse_snoc (UInt8.ofNat (48 + n % 10)) (by omega) _ _ _ ih (by omega), h2]
        congr 1
        omega
theorem atoi_dec {n : Nat} (hn : n ≤ 65536) : Lib.atoiAll (Lib.decDigits n) = .ok (n : Int) := by
  have hp := parse_dec n n (Nat.le_refl _) (by omega)
  have hd := (dec_dig n n (Nat.le_refl _) hn).1
  cases hl : Lib.decDigits n with
  | nil =>
    exfalso
    have := congrArg List.length hl
    rw [Lib.decDigits_length] at this
    have := Lib.nDigits_pos n
    simp at *
    omega
  | cons c r =>
    have hc : digB c = true := by
      rw [hl] at hd
      exact (List.all_eq_true.1 hd) c (by simp)
    unfold digB at hc
    simp only [Bool.and_eq_true, decide_eq_true_eq] at hc
    unfold Lib.atoiAll
    dsimp only
    rw [if_neg (by omega)]
    unfold Lib.parseMag
    rw [if_neg (by simp), ← hl, hp]
    dsimp only
    rw [if_neg (by omega), if_neg (by omega), if_neg (by omega)]
theorem reason_ncr (n : Int) : (reasonS n).data.toList.all ncr = true := by
  unfold reasonS
  cases h : tabR.find? fun r => r.1 == n with
  | none => decide
  | some r =>
    have hm := List.mem_of_find?_eq_some h
    have : ∀ r ∈ tabR, r.2.data.toList.all ncr = true := by decide
    exact this r hm
theorem dig_ncr {c : UInt8} (h : digB c = true) : ncr c = true ∧ c ≠ 32 := by
  unfold ncr
  rw [bne_iff_ne]
  refine ⟨?_, ?_⟩ <;> (rintro rfl; exact absurd h (by decide))
def TyOk (l ty l2 : List UInt8) : Prop := (aftB l ctL = false ∧ ty = [] ∧ l2 = l) ∨ (aftB l ctL = true ∧ lnF (aftL l ctL) = (ty, l2, true))
theorem st_app {st : Nat} (h : st ≤ 999) (l : List UInt8) : StOk (vL ++ (Lib.decDigits st ++ ([32] ++ ((reasonS (st : Int)).data.toList ++ (crL ++ l))))) (st : Int) l := by
  obtain ⟨e1, e2⟩ := aft_app vL (Lib.decDigits st ++ ([32] ++ ((reasonS (st : Int)).data.toList ++ (crL ++ l))))
  have hd := (dec_dig st st (Nat.le_refl _) (by omega)).1
  have e3 : lnF (Lib.decDigits st ++ ([32] ++ ((reasonS (st : Int)).data.toList ++ (crL ++ l)))) = (Lib.decDigits st ++ ([32] ++ (reasonS (st : Int)).data.toList), l, true) := by
    rw [← ln_app (x := Lib.decDigits st ++ ([32] ++ (reasonS (st : Int)).data.toList)) ?_ l]
    · simp only [List.append_assoc]
    · rw [List.all_append, List.all_append, reason_ncr]
      simp only [Bool.and_true]
      rw [Bool.and_eq_true]
      exact ⟨List.all_eq_true.2 fun c hc => (dig_ncr ((List.all_eq_true.1 hd) c hc)).1, by decide⟩
  unfold StOk
  rw [e1, e2, e3]
  refine ⟨rfl, rfl, ?_, by omega, rfl⟩
  dsimp only
  rw [cut_app (c := 32) (t := []) (fun c hc => (dig_ncr ((List.all_eq_true.1 hd) c hc)).2)]
  exact atoi_dec (by omega)
theorem ty_app {ty : List UInt8} (h : ty.all okc = true) (l : List UInt8) (hl : aftB l ctL = false) : TyOk ((if ty = [] then [] else ctL ++ (ty ++ crL)) ++ l) ty l := by
  by_cases h0 : ty = []
  · subst h0
    rw [if_pos rfl, List.nil_append]
    exact .inl ⟨hl, rfl, rfl⟩
  · rw [if_neg h0]
    obtain ⟨e1, e2⟩ := aft_app ctL (ty ++ (crL ++ l))
    have e3 : (ctL ++ (ty ++ crL)) ++ l = ctL ++ (ty ++ (crL ++ l)) := by simp only [List.append_assoc]
    rw [e3]
    exact .inr ⟨e2, by rw [e1]; exact ln_app (List.all_eq_true.2 fun c hc => okc_ncr ((List.all_eq_true.1 h) c hc)) l⟩
theorem bd_app {n : Nat} (hn : n ≤ 65536) (cl : Bool) (bo l : List UInt8) (hb : bo.length = n) : BdOk (clL ++ (Lib.decDigits n ++ (crL ++ ((if cl then ccL else []) ++ (crL ++ (bo ++ l)))))) cl bo l := by
  obtain ⟨e1, e2⟩ := aft_app clL (Lib.decDigits n ++ (crL ++ ((if cl then ccL else []) ++ (crL ++ (bo ++ l)))))
  have hd := (dec_dig n n (Nat.le_refl _) hn).1
  have e3 := ln_app (x := Lib.decDigits n) (List.all_eq_true.2 fun c hc => (dig_ncr ((List.all_eq_true.1 hd) c hc)).1) ((if cl then ccL else []) ++ (crL ++ (bo ++ l)))
  have e4 := rp4_app cl (bo ++ l)
  unfold rp4 at e4
  injection e4 with e4 e5
  refine ⟨n, (if cl then ccL else []) ++ (crL ++ (bo ++ l)), e2, ?_⟩
  rw [e1, e3]
  refine ⟨rfl, atoi_dec hn, rfl, ?_⟩
  rw [e5]
  refine ⟨e4, ?_, by simp [hb], by rw [← hb]; simp, by rw [← hb]; simp⟩
  cases cl
  · rfl
  · rw [if_pos rfl, (aft_app ccL _).1, (aft_app crL _).2]
/-- a text that begins with a printed reply is read step by step as that reply -/
theorem chain {l : List UInt8} {st : Int} {ty bo : BA} {cl : Bool} (h0 : (prL st ty bo cl).2 = 0) (h1 : aftB l (prL st ty bo cl).1 = true) : ∃ l1 l2 l3, StOk l st l1 ∧ TyOk l1 ty.data.toList l2 ∧ BdOk l2 cl bo.data.toList l3 ∧ (prL st ty bo cl).1 ++ l3 = l := by
  unfold prL at h0 h1 ⊢
  by_cases c1 : st < 100 ∨ 999 < st ∨ typB ty.data.toList = false
  · rw [if_pos c1] at h0; exact absurd h0 (by decide)
  rw [if_neg c1] at h0 h1 ⊢
  by_cases c2 : 65536 < bo.size
  · rw [if_pos c2] at h0; exact absurd h0 (by decide)
  rw [if_neg c2] at h0 h1 ⊢
  have hT : ty.data.toList.all okc = true := by
    cases h : typB ty.data.toList with
    | false => exact absurd (.inr (.inr h)) c1
    | true => unfold typB at h; simp only [Bool.and_eq_true] at h; exact h.2
  unfold aftB at h1
  rw [List.isPrefixOf_iff_prefix] at h1
  obtain ⟨r, rfl⟩ := h1
  dsimp only
  obtain ⟨X, hX⟩ : ∃ X, X = clL ++ (Lib.decDigits bo.size ++ (crL ++ ((if cl then ccL else []) ++ (crL ++ (bo.data.toList ++ r))))) := ⟨_, rfl⟩
  have eH : headL st.toNat ty.data.toList bo.size cl ++ bo.data.toList ++ r = vL ++ (Lib.decDigits st.toNat ++ ([32] ++ ((reasonS (st.toNat : Int)).data.toList ++ (crL ++ ((if ty.data.toList = [] then [] else ctL ++ (ty.data.toList ++ crL)) ++ X))))) := by
    rw [hX]
    unfold headL
    simp only [List.append_assoc]
  have a1 := st_app (st := st.toNat) (by omega) ((if ty.data.toList = [] then [] else ctL ++ (ty.data.toList ++ crL)) ++ X)
  have a2 := ty_app hT X (by rw [hX]; rfl)
  have a3 := bd_app (n := bo.size) (by omega) cl bo.data.toList r rfl
  rw [← hX] at a3
  refine ⟨_, _, r, ?_, a2, a3, rfl⟩
  rw [eH]
  rw [show ((st.toNat : Nat) : Int) = st by omega] at a1 ⊢
  exact a1
theorem StOk.one {l : List UInt8} {v v' : Int} {r r' : List UInt8} (h : StOk l v r) (k : StOk l v' r') : v = v' ∧ r = r' := by
  refine ⟨?_, h.2.2.2.2.symm.trans k.2.2.2.2⟩
  have := h.2.2.1.symm.trans k.2.2.1
  injection this
theorem TyOk.one {l t r t' r' : List UInt8} (h : TyOk l t r) (k : TyOk l t' r') : t = t' ∧ r = r' := by
  rcases h with ⟨a, rfl, rfl⟩ | ⟨a, b⟩ <;> rcases k with ⟨c, rfl, rfl⟩ | ⟨c, d⟩
  · exact ⟨rfl, rfl⟩
  · rw [a] at c; cases c
  · rw [a] at c; cases c
  · rw [b] at d
    injection d with d1 d2
    injection d2 with d2 _
    exact ⟨d1, d2⟩
theorem BdOk.one {l : List UInt8} {c c' : Bool} {b r b' r' : List UInt8} (h : BdOk l c b r) (k : BdOk l c' b' r') : c = c' ∧ b = b' ∧ r = r' := by
  obtain ⟨v, q, h1, h2, h3, h4, h5, h6, h7, h8, h9⟩ := h
  obtain ⟨v', q', k1, k2, k3, k4, k5, k6, k7, k8, k9⟩ := k
  obtain rfl : q = q' := h4.symm.trans k4
  have e : (v : Int) = (v' : Int) := by have := h3.symm.trans k3; injection this
  obtain rfl : v = v' := by omega
  exact ⟨h5.symm.trans k5, h8.trans k8.symm, h9.trans k9.symm⟩
#print axioms chain
end Go.Proofs.YtkpepfeiimphpaaDoor.Oct
