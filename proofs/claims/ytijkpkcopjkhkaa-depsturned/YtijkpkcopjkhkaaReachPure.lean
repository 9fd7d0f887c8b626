/-
  Layer 12 (deps): what steps lead to; plain facts.
-/
import Derived.Test.YtijkpkcopjkhkaaRising
namespace Go.Proofs.Ytijkpkcopjkhkaa.Oct

/-- what one step or more lead to -/
inductive Reach (s : Hs → List Hs) (h : Hs) : Hs → Prop
  | one {x : Hs} : x ∈ s h → Reach s h x
  | step {x y : Hs} : Reach s h x → y ∈ s x → Reach s h y
/-- between two rounds of the search -/
structure PO (s : Hs → List Hs) (h : Hs) (work met : List Hs) : Prop where
  len : work.length ≤ met.length + 1
  mm : ∀ x ∈ met, Reach s h x
  wm : ∀ x ∈ work, x = h ∨ x ∈ met
  cl : ∀ x, (x = h ∨ x ∈ met) → x ∉ work → ∀ y ∈ s x, y ∈ met
/-- within a round: some of a hash's steps were gone -/
structure PI (s : Hs → List Hs) (h f : Hs) (done work met : List Hs) : Prop where
  len : work.length ≤ met.length
  ff : f = h ∨ f ∈ met
  mm : ∀ x ∈ met, Reach s h x
  wm : ∀ x ∈ work, x = h ∨ x ∈ met
  cl : ∀ x, (x = h ∨ x ∈ met) → x ∉ work → x ≠ f → ∀ y ∈ s x, y ∈ met
  cu : ∀ y ∈ done, y ∈ met
theorem PO.start (s : Hs → List Hs) (h : Hs) : PO s h [h] [] := ⟨by simp, by simp, by simp, fun x hx hn => by
  rcases hx with rfl | hx
  · simp at hn
  · simp at hx⟩
theorem PO.pop {s : Hs → List Hs} {h f : Hs} {work met : List Hs} (hp : PO s h (work ++ [f]) met) : PI s h f [] work met := by
  refine ⟨?_, hp.wm f (by simp), hp.mm, fun x hx => hp.wm x (by simp [hx]), fun x hx hn hf => hp.cl x hx (by simp [hn, hf]), by simp⟩
  have := hp.len
  simp at this; omega
theorem PI.push {s : Hs → List Hs} {h f y : Hs} {done work met : List Hs} (hp : PI s h f done work met) (hy : y ∈ s f) : PI s h f (done ++ [y]) (work ++ [y]) (met ++ [y]) := by
  have hr : Reach s h y := by
    rcases hp.ff with h1 | h1
    · rw [← h1] at *
      exact .one hy
    · exact .step (hp.mm f h1) hy
  refine ⟨by have := hp.len; simp; omega, hp.ff.imp id (fun h => by simp [h]), ?_, ?_, ?_, ?_⟩
  · intro x hx
    rcases List.mem_append.1 hx with h1 | h1
    · exact hp.mm x h1
    · simp at h1; subst h1; exact hr
  · intro x hx
    rcases List.mem_append.1 hx with h1 | h1
    · exact (hp.wm x h1).imp id (fun h => by simp [h])
    · simp at h1; subst h1; simp
  · intro x hx hn hf z hz
    have hxy : x ≠ y := by rintro rfl; exact hn (by simp)
    have : x = h ∨ x ∈ met := by
      rcases hx with h1 | h1
      · exact .inl h1
      · rcases List.mem_append.1 h1 with h2 | h2
        · exact .inr h2
        · simp at h2; exact absurd h2 hxy
    have := hp.cl x this (fun hc => hn (by simp [hc])) hf z hz
    simp [this]
  · intro x hx
    rcases List.mem_append.1 hx with h1 | h1
    · simp [hp.cu x h1]
    · simp at h1; subst h1; simp
theorem PI.skip {s : Hs → List Hs} {h f y : Hs} {done work met : List Hs} (hp : PI s h f done work met) (hy : y ∈ met) : PI s h f (done ++ [y]) work met :=
  ⟨hp.len, hp.ff, hp.mm, hp.wm, hp.cl, fun x hx => by
    rcases List.mem_append.1 hx with h1 | h1
    · exact hp.cu x h1
    · simp at h1; subst h1; exact hy⟩
theorem PI.done {s : Hs → List Hs} {h f : Hs} {work met : List Hs} (hp : PI s h f (s f) work met) : PO s h work met := by
  refine ⟨by have := hp.len; omega, hp.mm, hp.wm, fun x hx hn y hy => ?_⟩
  by_cases hf : x = f
  · subst hf; exact hp.cu y hy
  · exact hp.cl x hx hn hf y hy
theorem PO.finish {s : Hs → List Hs} {h : Hs} {met : List Hs} (hp : PO s h [] met) (x : Hs) : x ∈ met ↔ Reach s h x := by
  refine ⟨hp.mm x, fun hr => ?_⟩
  induction hr with
  | one hx => exact hp.cl h (.inl rfl) (by simp) _ hx
  | step _ hy ih => exact hp.cl _ (.inr ih) (by simp) _ hy

/-- all that steps lead to -/
def allS (ms : List (Hs × List Hs)) : List Hs := ms.flatMap (·.2)
theorem getS_all {ms : List (Hs × List Hs)} {h y : Hs} (hy : y ∈ getS ms h) : y ∈ allS ms := by
  unfold getS at hy
  cases hf : ms.find? (·.1 == h) with
  | none => rw [hf] at hy; simp at hy
  | some m =>
    rw [hf] at hy
    exact List.mem_flatMap.2 ⟨m, List.mem_of_find?_eq_some hf, by simpa using hy⟩
theorem reach_all {ms : List (Hs × List Hs)} {h x : Hs} (hr : Reach (getS ms) h x) : x ∈ allS ms := by
  cases hr with
  | one h1 => exact getS_all h1
  | step _ h1 => exact getS_all h1
theorem nodup_le : ∀ (a b : List Hs), a.Nodup → (∀ x ∈ a, x ∈ b) → a.length ≤ b.length
  | [], _, _, _ => Nat.zero_le _
  | x :: a, b, hn, h => by
    have hn' := List.nodup_cons.1 hn
    have hx := h x (by simp)
    have ih := nodup_le a (b.erase x) hn'.2 (fun y hy => (List.mem_erase_of_ne (by rintro rfl; exact hn'.1 hy)).2 (h y (by simp [hy])))
    rw [List.length_erase_of_mem hx] at ih
    have := List.length_pos_of_mem hx
    simp; omega
theorem met_len {ms : List (Hs × List Hs)} {h : Hs} {met : List Hs} (hn : met.Nodup) (hm : ∀ x ∈ met, Reach (getS ms) h x) : met.length ≤ (allS ms).length :=
  nodup_le _ _ hn (fun x hx => reach_all (hm x hx))
#print axioms met_len
#print axioms PO.finish
end Go.Proofs.Ytijkpkcopjkhkaa.Oct
