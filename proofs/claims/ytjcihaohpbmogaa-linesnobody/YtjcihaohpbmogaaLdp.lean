/-
  Layer 11 (lines), plain: the search from a line back to those that lead to it.
-/
import Derived.Test.YtjcihaohpbmogaaUnd
namespace Go.Proofs.Ytjcihaohpbmogaa.Gr
set_option linter.unusedVariables false
set_option linter.unusedSectionVars false
variable {α : Type} [DecidableEq α]
/-- between two rounds of the search -/
structure LO (fr : α → List α) (top a b : α) (work met : List α) : Prop where
  len : work.length ≤ met.length
  sub : ∀ x ∈ work, x ∈ met
  st : b ∈ met
  tm : top ∉ met
  rch : ∀ x ∈ met, x = b ∨ Reach fr b x
  nd : met.Nodup
  cl : ∀ x ∈ met, x ∉ work → ∀ y ∈ fr x, y ≠ a ∧ (y = top ∨ y ∈ met)
/-- within a round: some of what leads to a line was looked at -/
structure LI (fr : α → List α) (top a b f : α) (dn work met : List α) : Prop where
  len : work.length + 1 ≤ met.length
  sub : ∀ x ∈ work, x ∈ met
  st : b ∈ met
  tm : top ∉ met
  fm : f ∈ met
  rch : ∀ x ∈ met, x = b ∨ Reach fr b x
  nd : met.Nodup
  cl : ∀ x ∈ met, x ∉ work → x ≠ f → ∀ y ∈ fr x, y ≠ a ∧ (y = top ∨ y ∈ met)
  cu : ∀ y ∈ dn, y ≠ a ∧ (y = top ∨ y ∈ met)
variable {fr : α → List α} {top a b f y : α} {dn work met : List α}
theorem LO.start (fr : α → List α) (top a b : α) (hb : b ≠ top) : LO fr top a b [b] [b] := ⟨by simp, by simp, by simp, by simpa using fun e => hb e.symm, by simp, by simp, fun x hx hn => absurd hx hn⟩
theorem LO.pop (h : LO fr top a b (work ++ [f]) met) : LI fr top a b f [] work met :=
  ⟨by have := h.len; simp at this; omega, fun x hx => h.sub x (by simp [hx]), h.st, h.tm, h.sub f (by simp), h.rch, h.nd, fun x hx hn hf => h.cl x hx (by simp [hn, hf]), by simp⟩
theorem LI.old (h : LI fr top a b f dn work met) (hya : y ≠ a) (hy : y ∈ met ∨ y = top) : LI fr top a b f (dn ++ [y]) work met :=
  ⟨h.len, h.sub, h.st, h.tm, h.fm, h.rch, h.nd, h.cl, fun x hx => by
    rcases List.mem_append.1 hx with hx | hx
    · exact h.cu x hx
    · rw [List.mem_singleton.1 hx]; exact ⟨hya, hy.symm⟩⟩
theorem LI.push (h : LI fr top a b f dn work met) (hya : y ≠ a) (hyt : y ≠ top) (hy : y ∉ met) (hf : y ∈ fr f) : LI fr top a b f (dn ++ [y]) (work ++ [y]) (met ++ [y]) := by
  have hr : Reach fr b y := by
    rcases h.rch f h.fm with e | e
    · rw [← e]; exact .one hf
    · exact .more e hf
  refine ⟨by have := h.len; simp; omega, fun x hx => ?_, by simp [h.st], by simpa [h.tm] using fun e => hyt e.symm, by simp [h.fm], fun x hx => ?_, ?_, fun x hx hn hxf z hz => ?_, fun x hx => ?_⟩
  · rcases List.mem_append.1 hx with hx | hx
    · simp [h.sub x hx]
    · simp [List.mem_singleton.1 hx]
  · rcases List.mem_append.1 hx with hx | hx
    · exact h.rch x hx
    · rw [List.mem_singleton.1 hx]; exact .inr hr
  · rw [List.nodup_append]
    exact ⟨h.nd, by simp, fun x hx z hz e => by rw [List.mem_singleton.1 hz] at e; subst e; exact hy hx⟩
  · simp only [List.mem_append, List.mem_singleton, not_or] at hx hn
    rcases hx with hx | hx
    · obtain ⟨h1, h2⟩ := h.cl x hx hn.1 hxf z hz
      exact ⟨h1, h2.imp id (fun e => by simp [e])⟩
    · exact absurd hx hn.2
  · rcases List.mem_append.1 hx with hx | hx
    · obtain ⟨h1, h2⟩ := h.cu x hx
      exact ⟨h1, h2.imp id (fun e => by simp [e])⟩
    · rw [List.mem_singleton.1 hx]; exact ⟨hya, .inr (by simp)⟩
theorem LI.done (h : LI fr top a b f (fr f) work met) : LO fr top a b work met :=
  ⟨by have := h.len; omega, h.sub, h.st, h.tm, h.rch, h.nd, fun x hx hn => by
    by_cases e : x = f
    · rw [e]; exact h.cu
    · exact h.cl x hx hn e⟩
theorem LO.finish (ht : fr top = []) (h : LO fr top a b [] met) : ¬ Reach fr b a := by
  have key : ∀ x, Reach fr b x → x ≠ a ∧ (x = top ∨ x ∈ met) := fun x k => by
    induction k with
    | one h1 => exact h.cl b h.st (by simp) _ h1
    | more _ h1 ih =>
      rcases ih.2 with e | e
      · rw [e, ht] at h1; cases h1
      · exact h.cl _ e (by simp) _ h1
  exact fun k => (key a k).1 rfl
theorem LI.found (h : LI fr top a b f dn work met) (hf : a ∈ fr f) : Reach fr b a := by
  rcases h.rch f h.fm with e | e
  · rw [← e]; exact .one hf
  · exact .more e hf
theorem met_keys {ks : List α} (hn : met.Nodup) (hb : b ∈ ks) (ht : ∀ x ∈ ks, ∀ y ∈ fr x, y = top ∨ y ∈ ks) (hr : ∀ x ∈ met, x = b ∨ Reach fr b x) (htop : fr top = []) (hm : top ∉ met) : ∀ x ∈ met, x ∈ ks := by
  have key : ∀ x, Reach fr b x → x = top ∨ x ∈ ks := fun x k => by
    induction k with
    | one h1 => exact ht b hb _ h1
    | more _ h1 ih =>
      rcases ih with e | e
      · rw [e, htop] at h1; cases h1
      · exact ht _ e _ h1
  intro x hx
  rcases hr x hx with e | e
  · rw [e]; exact hb
  · rcases key x e with e | e
    · rw [e] at hx; exact absurd hx hm
    · exact e
#print axioms LO.finish
#print axioms met_keys
end Go.Proofs.Ytjcihaohpbmogaa.Gr
