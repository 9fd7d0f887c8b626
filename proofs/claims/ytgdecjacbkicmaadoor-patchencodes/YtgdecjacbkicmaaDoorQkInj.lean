/-
  Layer 10 (patch): two patches that may be have the same bytes just if they are the same.
-/
import Derived.Test.YtgdecjacbkicmaaDoorQkVew
/- Layer 10 (patch): two patches that may be have the same bytes just if they are the same. -/
namespace Go.Proofs.YtgdecjacbkicmaaDoor.Oct
open Go.RowKit
set_option maxRecDepth 100000
set_option linter.unusedSimpArgs false
set_option linter.unusedVariables false

theorem enc_inj {a b : Nat} {r s : List UInt8} (ha : a < 2 ^ 64) (hb : b < 2 ^ 64) (h : enc a ++ r = enc b ++ s) : a = b ∧ r = s := by
  have e1 := dec_enc a ha r
  have e2 := dec_enc b hb s
  rw [h, e2] at e1
  have e : a = b := (Prod.mk.inj e1).1.symm
  subst e
  exact ⟨rfl, List.append_cancel_left h⟩
theorem encT_inj {s t : BA} {r u : List UInt8} (hs : s.size ≤ 1000000) (ht : t.size ≤ 1000000) (h : encT s ++ r = encT t ++ u) : s = t ∧ r = u := by
  unfold encT at h
  rw [List.append_assoc, List.append_assoc] at h
  obtain ⟨e, h2⟩ := enc_inj (by omega) (by omega) h
  have e1 : s.data.toList.length = t.data.toList.length := e
  obtain ⟨h3, h4⟩ := List.append_inj h2 e1
  exact ⟨ba_ext h3, h4⟩
def okV (D : List Hs) (v : Vx) : Prop := eqVx v vTop = true ∨ eqVx v vBot = true ∨ lineOf D v = true
theorem encV_inj {D : List Hs} {x y : Vx} {r s : List UInt8} (hD : D.length ≤ 100000) (hx : okV D x) (hy : okV D y) (h : encV D x ++ r = encV D y ++ s) : x = y ∧ r = s := by
  have line : ∀ {v : Vx}, lineOf D v = true → ∃ k n : Nat, placeOf v.h D = (k : Int) ∧ k < D.length ∧ D[k]? = some v.h ∧ v.n = (n : Int) ∧ n < 64 := by
    intro v hv
    unfold lineOf at hv
    simp only [Bool.and_eq_true, decide_eq_true_eq] at hv
    obtain ⟨h1, h2, h3⟩ := hv
    obtain ⟨k, hk, hk2, hk3⟩ := place_nat h3
    exact ⟨k, v.n.toNat, hk, hk2, hk3, by omega, by omega⟩
  have form : ∀ {v : Vx}, okV D v → (v = vTop ∧ encV D v = [0]) ∨ (v = vBot ∧ encV D v = [1]) ∨ (lineOf D v = true ∧ encV D v = 2 :: (enc (placeOf v.h D).toNat ++ enc v.n.toNat)) := by
    intro v hv
    unfold encV
    by_cases h1 : eqVx v vTop = true
    · rw [if_pos h1]; exact .inl ⟨(eqVx_iff _ _).1 h1, rfl⟩
    · rw [if_neg h1]
      by_cases h2 : eqVx v vBot = true
      · rw [if_pos h2]; exact .inr (.inl ⟨(eqVx_iff _ _).1 h2, rfl⟩)
      · rw [if_neg h2]
        rcases hv with h | h | h
        · exact absurd h h1
        · exact absurd h h2
        · exact .inr (.inr ⟨h, rfl⟩)
  rcases form hx with ⟨a1, a2⟩ | ⟨a1, a2⟩ | ⟨a1, a2⟩ <;> rcases form hy with ⟨b1, b2⟩ | ⟨b1, b2⟩ | ⟨b1, b2⟩ <;> rw [a2, b2] at h
  · exact ⟨a1.trans b1.symm, List.append_cancel_left h⟩
  · exact absurd (List.cons.inj h).1 (by decide)
  · exact absurd (List.cons.inj h).1 (by decide)
  · exact absurd (List.cons.inj h).1 (by decide)
  · exact ⟨a1.trans b1.symm, List.append_cancel_left h⟩
  · exact absurd (List.cons.inj h).1 (by decide)
  · exact absurd (List.cons.inj h).1 (by decide)
  · exact absurd (List.cons.inj h).1 (by decide)
  · obtain ⟨k, n, k1, k2, k3, k4, k5⟩ := line a1
    obtain ⟨k', n', l1, l2, l3, l4, l5⟩ := line b1
    rw [k1, k4, l1, l4] at h
    simp only [Int.toNat_natCast, List.cons_append] at h
    have h2 := (List.cons.inj h).2
    rw [List.append_assoc, List.append_assoc] at h2
    obtain ⟨e1, h3⟩ := enc_inj (by omega) (by omega) h2
    obtain ⟨e2, h4⟩ := enc_inj (by omega) (by omega) h3
    subst e1
    subst e2
    refine ⟨?_, h4⟩
    rw [k3] at l3
    cases x; cases y
    simp only at k4 l4 l3
    rw [k4, l4, Option.some.inj l3]
theorem flat_inj {α : Type} (f g : α → List UInt8) (R : α → α → Prop) : ∀ (l m : List α) (r s : List UInt8), l.length = m.length → (∀ x ∈ l, ∀ y ∈ m, ∀ r s, f x ++ r = g y ++ s → R x y ∧ r = s) → l.flatMap f ++ r = m.flatMap g ++ s → (∀ (i : Nat) (x y : α), l[i]? = some x → m[i]? = some y → R x y) ∧ r = s
  | [], [], r, s, _, _, h => ⟨fun i x y hx => by simp at hx, by simpa using h⟩
  | [], _ :: _, _, _, h, _, _ => by simp at h
  | _ :: _, [], _, _, h, _, _ => by simp at h
  | x :: l, y :: m, r, s, hl, hf, h => by
    rw [List.flatMap_cons, List.flatMap_cons, List.append_assoc, List.append_assoc] at h
    obtain ⟨e, h2⟩ := hf x (by simp) y (by simp) _ _ h
    obtain ⟨e2, h3⟩ := flat_inj f g R l m r s (by simpa using hl) (fun a ha b hb => hf a (by simp [ha]) b (by simp [hb])) h2
    refine ⟨fun i a b ha hb => ?_, h3⟩
    cases i with
    | zero =>
      simp only [List.getElem?_cons_zero, Option.some.injEq] at ha hb
      subst ha; subst hb
      exact e
    | succ i =>
      simp only [List.getElem?_cons_succ] at ha hb
      exact e2 i a b ha hb
theorem eq_of_at {α : Type} {l m : List α} (hl : l.length = m.length) (h : ∀ (i : Nat) (x y : α), l[i]? = some x → m[i]? = some y → x = y) : l = m := by
  apply List.ext_getElem hl
  intro i h1 h2
  exact h i _ _ (List.getElem?_eq_getElem h1) (List.getElem?_eq_getElem h2)
end Go.Proofs.YtgdecjacbkicmaaDoor.Oct
