/-
  Layer 18 (quota): hits and windows, plainly.
-/
import Derived.Test.YtbkkdjafcmnliaaNever
import Derived.Test.YtbkkdjafcmnliaaViewN
import Derived.Test.YtbkkdjafcmnliaaRow
namespace Go.Proofs.Ytbkkdjafcmnliaa.Oct
open Go.RowKit

/-- how many of these times lie in t's window -/
def cnt (n t : Int) (xs : List Int) : Nat := (xs.filter fun x => decide (0 ≤ t) && x / n == t / n).length
theorem cnt_snoc (n t x : Int) (xs : List Int) : cnt n t (xs ++ [x]) = cnt n t xs + if (decide (0 ≤ t) && x / n == t / n) = true then 1 else 0 := by
  unfold cnt
  rw [List.filter_append, List.length_append]
  congr 1
  rw [List.filter_cons]
  split <;> simp
theorem cnt_le (n t : Int) (xs : List Int) : cnt n t xs ≤ xs.length := List.length_filter_le _ _
theorem cnt_neg {n t : Int} (xs : List Int) (h : t < 0) : cnt n t xs = 0 := by
  unfold cnt
  rw [List.filter_eq_nil_iff.2]
  · rfl
  · intro x _
    simp
    omega
/-- the times that were counted, and what the meter knows of them -/
def Hts (M : Mt) (xs : List Int) : Prop := (∀ x ∈ xs, (0 ≤ x ∧ x ≤ 9223372036854775807) ∧ x / M.n ≤ M.l) ∧ (M.h = ((xs.filter fun x => x / M.n == M.l).length : Nat))
theorem Hts.fresh (b r n : Int) : Hts (Mt.fresh b r n) [] := ⟨by simp, rfl⟩
theorem Hts.of {M : Mt} {xs : List Int} (h : Hts M xs) {t : Int} (h0 : 0 ≤ t) (h1 : M.l ≤ t / M.n) : M.hitsOf t = (cnt M.n t xs : Nat) := by
  unfold Mt.hitsOf cnt
  rw [if_neg (by omega)]
  by_cases he : t / M.n = M.l
  · rw [if_pos he, h.2, he]
    simp [h0]
  · rw [if_neg he, List.filter_eq_nil_iff.2]
    · rfl
    · intro x hx
      have := (h.1 x hx).2
      simp [h0]
      omega
theorem Hts.hit {M : Mt} {xs : List Int} (h : Hts M xs) {t : Int} (h0 : 0 ≤ t) (hm : t ≤ 9223372036854775807) (h1 : M.l ≤ t / M.n) : Hts { M with l := t / M.n, h := M.hitsOf t + 1 } (xs ++ [t]) := by
  refine ⟨fun x hx => ?_, ?_⟩
  · rcases List.mem_append.1 hx with hx | hx
    · have := h.1 x hx
      exact ⟨this.1, by show x / M.n ≤ t / M.n; omega⟩
    · simp at hx
      subst hx
      exact ⟨⟨h0, hm⟩, Int.le_refl _⟩
  · show M.hitsOf t + 1 = _
    rw [h.of h0 h1, List.filter_append]
    unfold cnt
    simp [h0]
theorem hit_cases {M : Mt} (t : Int) : (M.hit t = (2, M)) ∨ (0 ≤ t ∧ M.l ≤ t / M.n ∧ M.r ≤ M.hitsOf t ∧ M.hit t = (181, M)) ∨ (0 ≤ t ∧ M.l ≤ t / M.n ∧ M.hitsOf t < M.r ∧ M.hit t = (0, { M with l := t / M.n, h := M.hitsOf t + 1 })) := by
  unfold Mt.hit
  split
  · exact .inl rfl
  · split
    · exact .inl rfl
    · split
      · exact .inr (.inl ⟨by omega, by omega, by assumption, rfl⟩)
      · exact .inr (.inr ⟨by omega, by omega, by omega, rfl⟩)
theorem quo_is {t n : Int} (h0 : 0 ≤ t) (h1 : t ≤ 9223372036854775807) (hn : 1 ≤ n) : wrap64 (t.tdiv n) = t / n := by
  rw [Int.tdiv_eq_ediv_of_nonneg h0]
  have e := wrap_i64_ediv t n (by omega) h1 hn
  rw [IntKind.wrap_i64] at e
  unfold wrap64; omega
theorem st_hit2 {w0 W : World} {p : Nat} {M : Mt} (h : St w0 W p M) (t : Int) (ht : t ≤ 9223372036854775807) : Calls Try.prog 11 #[.pointer (some ⟨p, 0, none⟩), iv t] W fun e w' => e = .returned (iv (M.hit t).1) ∧ St w0 w' p (M.hit t).2 ∧ W.grownBy w' (some p) :=
  (hit_is h.at_ h.good t ht).mono fun _ _ ⟨h1, h2, h3⟩ => ⟨h1, h.grown h2 (good_hit h.good t ht) h3, h3⟩
#print axioms Hts.hit
end Go.Proofs.Ytbkkdjafcmnliaa.Oct
