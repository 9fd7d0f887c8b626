/-
  Layer 10 (patch): two patches that may be have the same bytes just if they are the same.
-/
import Derived.Test.YtgdecjacbkicmaaGreatDoorQkVew
/- Layer 10 (patch): two patches that may be have the same bytes just if they are the same. -/
namespace Go.Proofs.YtgdecjacbkicmaaGreatDoor.Oct
open Go.RowKit
set_option maxRecDepth 100000
set_option linter.unusedSimpArgs false
set_option linter.unusedVariables false

theorem enc_inj {a b : Nat} {r s : List UInt8} (ha : a < 2 ^ 64) (hb : b < 2 ^ 64) (h : enc a ++ r = enc b ++ s) : a = b ∧ r = s := by
  have e1 := dec_enc a ha r
  have e2 := dec_enc b hb s
  rw [h, e2] at e1
  have e : a = b := (Prod.mk.inj e1).1.symm
  subst e
  exact ⟨rfl, List.append_cancel_left h⟩
theorem encT_inj {s t : BA} {r u : List UInt8} (hs : s.size ≤ 1000000) (ht : t.size ≤ 1000000) (h : encT s ++ r = encT t ++ u) : s = t ∧ r = u := by
  unfold encT at h
  rw [List.append_assoc, List.append_assoc] at h
  obtain ⟨e, h2⟩ := enc_inj (by omega) (by omega) h
  have e1 : s.data.toList.length = t.data.toList.length := e
  obtain ⟨h3, h4⟩ := List.append_inj h2 e1
  exact ⟨ba_ext h3, h4⟩
def okV (D : List Hs) (v : Vx) : Prop := eqVx v vTop = true ∨ eqVx v vBot = true ∨ lineOf D v = true
theorem encV_inj {D : List Hs} {x y : Vx} {r s : List UInt8} (hD : D.length ≤ 100000) (hx : okV D x) (hy : okV D y) (h : encV D x ++ r = encV D y ++ s) : x = y ∧ r = s := by
  have line : ∀ {v : Vx}, lineOf D v = true → ∃ k n : Nat, placeOf v.h D = (k : Int) ∧ k < D.length ∧ D[k]? = some v.h ∧ v.n = (n : Int) ∧ n < 64 := by
    intro v hv
    unfold lineOf at hv
    simp only [Bool.and_eq_true, decide_eq_true_eq] at hv
    obtain ⟨h1, h2, h3⟩ := hv
    obtain ⟨k, hk, hk2, hk3⟩ := place_nat h3
    exact ⟨k, v.n.toNat, hk, hk2, hk3, by omega, by omega⟩
  have form : ∀ {v : Vx}, okV D v → (v = vTop ∧ encV D v = [0]) ∨ (v = vBot ∧ encV D v = [1]) ∨ (lineOf D v = true ∧ encV D v = 2 :: (enc (placeOf v.h D).toNat ++ enc v.n.toNat)) := by
    intro v hv
    unfold encV
    by_cases h1 : eqVx v vTop = true
    · rw [if_pos h1]; exact .inl ⟨(eqVx_iff _ _).1 h1, rfl⟩
    · rw [if_neg h1]
      by_cases h2 : eqVx v vBot = true
      · rw [if_pos h2]; exact .inr (.inl ⟨(eqVx_iff _ _).1 h2, rfl⟩)
      · rw [if_neg h2]
        rcases hv with h | h | h
        · exact absurd h h1
        · exact absurd h h2
        · exact .inr (.inr ⟨h, rfl⟩)
  rcases form hx with ⟨a1, a2⟩ | ⟨a1, a2⟩ | ⟨a1, a2⟩ <;> rcases form hy with ⟨b1, b2⟩ | ⟨b1, b2⟩ | ⟨b1, b2⟩ <;> rw [a2, b2] at h
  · exact ⟨a1.trans b1.symm, List.append_cancel_left h⟩
  · exact absurd (List.cons.inj h).1 (by decide)
  · exact absurd (List.cons.inj h).1 (by decide)
  · exact absurd (List.cons.inj h).1 (by decide)
  · exact ⟨a1.trans b1.symm, List.append_cancel_left h⟩
  · exact absurd (List.cons.inj h).1 (by decide)
  · exact absurd (List.cons.inj h).1 (by decide)
  · exact absurd (List.cons.inj h).1 (by decide)
  · obtain ⟨k, n, k1, k2, k3, k4, k5⟩ := line a1
    obtain ⟨k', n', l1, l2, l3, l4, l5⟩ := line b1
    rw [k1, k4, l1, l4] at h
    simp only [Int.toNat_natCast, List.cons_append] at h
    have h2 := (List.cons.inj h).2
    rw [List.append_assoc, List.append_assoc] at h2
    obtain ⟨e1, h3⟩ := enc_inj (by omega) (by omega) h2
    obtain ⟨e2, h4⟩ := enc_inj (by omega) (by omega) h3
    subst e1
    subst e2
    refine ⟨?_, h4⟩
    rw [k3] at l3
    cases x; cases y
    simp only at k4 l4 l3
    rw [k4, l4, Option.some.inj l3]
theorem flat_inj {α : Type} (f g : α → List UInt8) (R : α → α → Prop) : ∀ (l m : List α) (r s : List UInt8), l.length = m.length → (∀ x ∈ l, ∀ y ∈ m, ∀ r s, f x ++ r = g y ++ s → R x y ∧ r = s) → l.flatMap f ++ r = m.flatMap g ++ s → (∀ (i : Nat) (x y : α), l[i]? = some x → m[i]? = some y → R x y) ∧ r = s
  | [], [], r, s, _, _, h => ⟨fun i x y hx => by simp at hx, by simpa using h⟩
  | [], _ :: _, _, _, h, _, _ => by simp at h
  | _ :: _, [], _, _, h, _, _ => by simp at h
  | x :: l, y :: m, r, s, hl, hf, h => by
    rw [List.flatMap_cons, List.flatMap_cons, List.append_assoc, List.append_assoc] at h
    obtain ⟨e, h2⟩ := hf x (by simp) y (by simp) _ _ h
    obtain ⟨e2, h3⟩ := flat_inj f g R l m r s (by simpa using hl) (fun a ha b hb => hf a (by simp [ha]) b (by simp [hb])) h2
    refine ⟨fun i a b ha hb => ?_, h3⟩
    cases i with
    | zero =>
      simp only [List.getElem?_cons_zero, Option.some.injEq] at ha hb
      subst ha; subst hb
      exact e
    | succ i =>
      simp only [List.getElem?_cons_succ] at ha hb
      exact e2 i a b ha hb
theorem eq_of_at {α : Type} {l m : List α} (hl : l.length = m.length) (h : ∀ (i : Nat) (x y : α), l[i]? = some x → m[i]? = some y → x = y) : l = m := by
  apply List.ext_getElem hl
  intro i h1 h2
  exact h i _ _ (List.getElem?_eq_getElem h1) (List.getElem?_eq_getElem h2)
theorem encO_inj {D : List Hs} {a b : OpV} {r s : List UInt8} (hD : D.length ≤ 100000) (ha : opB D a = true) (hb : opB D b = true) (la : a.ts.length = a.ln) (lb : b.ts.length = b.ln) (ma : a.ln ≤ 64) (mb : b.ln ≤ 64) (h : encO D a ++ r = encO D b ++ s) : sameO a b = true ∧ r = s := by
  obtain ⟨pa, fa⟩ := op_of ha
  obtain ⟨pb, fb⟩ := op_of hb
  have za := path_len pa
  have zb := path_len pb
  have fin : a.kind = b.kind → a.path = b.path → a.up = b.up → a.dn = b.dn → a.ts = b.ts → sameO a b = true := by
    intro h1 h2 h3 h4 h5
    unfold sameO
    rw [h1, h2, h3, h4, h5]
    simp [(eqVx_iff _ _).2 rfl]
  unfold encO at h
  rw [List.cons_append, List.cons_append] at h
  obtain ⟨h0, h1⟩ := List.cons.inj h
  simp only [List.append_assoc] at h1
  obtain ⟨e1, h2⟩ := encT_inj (s := a.path) (t := b.path) (by omega) (by omega) h1
  rcases fa with ⟨ka, na, ba, ua, da⟩ | ⟨ka, na, da, ua⟩ <;> rcases fb with ⟨kb, nb, bb, ub, db⟩ | ⟨kb, nb, db, ub⟩
  · obtain ⟨e2, h3⟩ := encV_inj hD ua ub h2
    rw [if_pos ka, if_pos kb] at h3
    simp only [List.append_assoc] at h3
    obtain ⟨e3, h4⟩ := encV_inj hD da db h3
    obtain ⟨e4, h5⟩ := enc_inj (by omega) (by omega) h4
    have hts : ∀ x ∈ a.ts, ∀ y ∈ b.ts, ∀ r s, encT x ++ r = encT y ++ s → x = y ∧ r = s := fun x hx y hy r s h => encT_inj (s := x) (t := y) (r := r) (u := s) (by have := (not_bad (ba x hx)).1; omega) (by have := (not_bad (bb y hy)).1; omega) h
    obtain ⟨e5, h6⟩ := flat_inj encT encT (· = ·) a.ts b.ts r s (by omega) hts h5
    exact ⟨fin (ka.trans kb.symm) e1 e2 e3 (eq_of_at (by omega) e5), h6⟩
  · rw [ka, kb] at h0
    exact absurd h0 (by decide)
  · rw [ka, kb] at h0
    exact absurd h0 (by decide)
  · obtain ⟨e2, h3⟩ := encV_inj hD (.inr (.inr ua)) (.inr (.inr ub)) h2
    rw [if_neg (by omega), if_neg (by omega)] at h3
    have ea : a.ts = [] := List.length_eq_zero_iff.1 (by omega)
    have eb : b.ts = [] := List.length_eq_zero_iff.1 (by omega)
    exact ⟨fin (ka.trans kb.symm) e1 e2 (da.trans db.symm) (ea.trans eb.symm), h3⟩
theorem sameO_enc {D : List Hs} {a b : OpV} (la : a.ts.length = a.ln) (lb : b.ts.length = b.ln) (h : sameO a b = true) : encO D a = encO D b := by
  unfold sameO at h
  simp only [Bool.and_eq_true, decide_eq_true_eq] at h
  obtain ⟨h1, h2, h3, h4, h5⟩ := h
  unfold encO
  rw [h1, h2, (eqVx_iff _ _).1 h3, (eqVx_iff _ _).1 h4, h5, show a.ln = b.ln by rw [← la, ← lb, h5]]
theorem sameL_enc {D : List Hs} : ∀ {l m : List OpV}, (∀ o ∈ l, o.ts.length = o.ln) → (∀ o ∈ m, o.ts.length = o.ln) → sameL l m = true → l.length = m.length ∧ l.flatMap (encO D) = m.flatMap (encO D)
  | [], [], _, _, _ => ⟨rfl, rfl⟩
  | [], _ :: _, _, _, h => by simp [sameL] at h
  | _ :: _, [], _, _, h => by simp [sameL] at h
  | a :: l, b :: m, ha, hb, h => by
    simp only [sameL, Bool.and_eq_true] at h
    obtain ⟨h1, h2⟩ := sameL_enc (D := D) (fun o ho => ha o (by simp [ho])) (fun o ho => hb o (by simp [ho])) h.2
    exact ⟨by simp [h1], by rw [List.flatMap_cons, List.flatMap_cons, h2, sameO_enc (ha a (by simp)) (hb b (by simp)) h.1]⟩
theorem sameL_of : ∀ {l m : List OpV}, l.length = m.length → (∀ (i : Nat) (x y : OpV), l[i]? = some x → m[i]? = some y → sameO x y = true) → sameL l m = true
  | [], [], _, _ => rfl
  | [], _ :: _, h, _ => by simp at h
  | _ :: _, [], h, _ => by simp at h
  | a :: l, b :: m, hl, h => by
    simp only [sameL, Bool.and_eq_true]
    exact ⟨h 0 a b rfl rfl, sameL_of (by simpa using hl) (fun i x y hx hy => h (i + 1) x y (by simpa using hx) (by simpa using hy))⟩
/-- P10.5, P10.6 -/
theorem unlike {w w' : World} {p q : PV} (hp : PR w p) (hq : PR w' q) (cp : chk p = 0) (cq : chk q = 0) : ptB p = ptB q ↔ sameP p q = true := by
  obtain ⟨hh, hdd, hoo⟩ := chk_of cp
  obtain ⟨s1, s2, s3, s4, _⟩ := head_of hh
  obtain ⟨s5, _⟩ := deps_of hdd
  obtain ⟨s6, s7, s8, s9⟩ := ops_of hoo
  obtain ⟨hh', hdd', hoo'⟩ := chk_of cq
  obtain ⟨t1, t2, t3, t4, _⟩ := head_of hh'
  obtain ⟨t5, _⟩ := deps_of hdd'
  obtain ⟨t6, t7, t8, t9⟩ := ops_of hoo'
  have dl := hp.deps.1
  have ol := hp.ops.1
  have dl' := hq.deps.1
  have ol' := hq.ops.1
  constructor
  · intro h
    unfold ptB at h
    have h := (List.cons.inj h).2
    obtain ⟨e1, h⟩ := encT_inj (by omega) (by omega) h
    obtain ⟨e2, h⟩ := enc_inj (by omega) (by omega) h
    obtain ⟨e3, h⟩ := encT_inj (by omega) (by omega) h
    obtain ⟨e4, h⟩ := enc_inj (by omega) (by omega) h
    obtain ⟨e5, h⟩ := flat_inj id id (· = ·) p.D q.D _ _ (by omega) (fun x hx y hy r s h => by
      have l1 := hp.deps.2.1 x hx
      have l2 := hq.deps.2.1 y hy
      exact List.append_inj h (by show x.length = y.length; omega)) h
    have e5 : p.D = q.D := eq_of_at (by omega) e5
    obtain ⟨e6, h⟩ := enc_inj (by omega) (by omega) h
    rw [← e5] at h
    rw [← List.append_nil (p.O.flatMap _), ← List.append_nil (q.O.flatMap _)] at h
    obtain ⟨e7, _⟩ := flat_inj (encO p.D) (encO p.D) (fun a b => sameO a b = true) p.O q.O [] [] (by omega) (fun x hx y hy r s h => encO_inj (a := x) (b := y) (by omega) (s9 x hx) (by rw [e5]; exact t9 y hy) (hp.ops.2.1 x hx).1.2.2.1 (hq.ops.2.1 y hy).1.2.2.1 (by have := many_mem hx; omega) (by have := many_mem hy; omega) h) h
    have e8 := sameL_of (by omega) e7
    unfold sameP
    rw [e1, e3, e5, e8, show p.tm = q.tm by omega]
    simp
  · intro h
    unfold sameP at h
    simp only [Bool.and_eq_true, decide_eq_true_eq] at h
    obtain ⟨h1, h2, h3, h4, h5⟩ := h
    obtain ⟨h6, h7⟩ := sameL_enc (D := p.D) (fun o ho => (hp.ops.2.1 o ho).1.2.2.1) (fun o ho => (hq.ops.2.1 o ho).1.2.2.1) h5
    unfold ptB
    rw [h1, h2, h3, h7, h4, show p.dn = q.dn by rw [← dl, ← dl', h4], show p.on = q.on by omega]
end Go.Proofs.YtgdecjacbkicmaaGreatDoor.Oct
