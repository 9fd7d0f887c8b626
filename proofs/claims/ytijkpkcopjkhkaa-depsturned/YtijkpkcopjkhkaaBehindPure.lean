/-
  Layer 12 (deps): in the order each stands behind all that it needs; where it stops short something goes round. Plain facts.
-/
import Derived.Test.YtijkpkcopjkhkaaStepPure
namespace Go.Proofs.Ytijkpkcopjkhkaa.Oct

theorem mem_take_at {hs : List Hs} {i : Nat} {d : Hs} (h : d ∈ hs.take i) : ∃ k, k < i ∧ hs[k]? = some d := by
  obtain ⟨k, hk⟩ := List.getElem?_of_mem h
  have hlt := (List.getElem?_eq_some_iff.1 hk).1
  rw [List.length_take] at hlt
  rw [List.getElem?_take_of_lt (by omega)] at hk
  exact ⟨k, by omega, hk⟩
theorem order_behind {l : List It} {hs : List Hs} (ho : OrderS l hs) {i : Nat} {h d : Hs} (hi : hs[i]? = some h) (hr : Reach (getS (downS l)) h d) : ∃ k, k < i ∧ hs[k]? = some d := by
  induction hr with
  | one h1 =>
    obtain ⟨it, m1, m2, m3⟩ := (mem_down l _ _).1 h1
    exact mem_take_at ((ho.1 i h hi).1.2.2 it m1 m2 _ m3)
  | step _ h1 ih =>
    obtain ⟨k, hk, hkx⟩ := ih
    obtain ⟨it, m1, m2, m3⟩ := (mem_down l _ _).1 h1
    obtain ⟨k', hk', hkd⟩ := mem_take_at ((ho.1 k _ hkx).1.2.2 it m1 m2 _ m3)
    exact ⟨k', by omega, hkd⟩
theorem order_noround {l : List It} {hs : List Hs} (ho : OrderS l hs) {h : Hs} (hh : h ∈ hs) : ¬ Reach (getS (downS l)) h h := by
  intro hr
  obtain ⟨i, hi⟩ := List.getElem?_of_mem hh
  obtain ⟨k, hk, hkh⟩ := order_behind ho hi hr
  refine (ho.1 i h hi).1.2.1 ?_
  rw [List.mem_iff_getElem?]
  exact ⟨k, by rw [List.getElem?_take_of_lt hk]; exact hkh⟩
theorem order_mem {l : List It} {hs : List Hs} (ho : OrderS l hs) {h : Hs} (hh : h ∈ hs) : h ∈ l.map (·.name) := by
  obtain ⟨i, hi⟩ := List.getElem?_of_mem hh
  exact (ho.1 i h hi).1.1
theorem order_nodup {l : List It} {hs : List Hs} (ho : OrderS l hs) : hs.Nodup := by
  rw [List.nodup_iff_pairwise_ne, List.pairwise_iff_getElem]
  intro i j hi hj hij e
  have h1 := (ho.1 j hs[j] (List.getElem?_eq_getElem hj)).1.2.1
  exact h1 (by rw [← e]; exact List.mem_take_iff_getElem.2 ⟨i, by omega, rfl⟩)
/-- a set in which each has a step within goes round somewhere -/
theorem goes_round (s : Hs → List Hs) (U : List Hs) (hs : ∀ u ∈ U, ∃ v ∈ U, v ∈ s u) (hne : ∃ u, u ∈ U) : ∃ u ∈ U, Reach s u u := by
  classical
  have key : ∀ (n : Nat) (u : Hs), u ∈ U → (U.filter (fun v => decide (Reach s u v))).length ≤ n → ∃ u ∈ U, Reach s u u := by
    intro n
    induction n with
    | zero =>
      intro u hu hl
      obtain ⟨v, hv, hvs⟩ := hs u hu
      have : v ∈ U.filter (fun v => decide (Reach s u v)) := List.mem_filter.2 ⟨hv, by simpa using Reach.one hvs⟩
      have hp := List.length_pos_of_mem this
      omega
    | succ n ih =>
      intro u hu hl
      obtain ⟨v, hv, hvs⟩ := hs u hu
      by_cases hvv : Reach s v v
      · exact ⟨v, hv, hvv⟩
      · refine ih v hv ?_
        have hsub : ∀ x ∈ U, decide (Reach s v x) = true → decide (Reach s u x) = true := by
          intro x _ hx
          have hx' : Reach s v x := by simpa using hx
          simpa using (Reach.one hvs).trans hx'
        have hlt : (U.filter (fun x => decide (Reach s v x))).length < (U.filter (fun x => decide (Reach s u x))).length := by
          rw [← List.countP_eq_length_filter, ← List.countP_eq_length_filter]
          have gen : ∀ (L : List Hs), (∀ x ∈ L, decide (Reach s v x) = true → decide (Reach s u x) = true) → v ∈ L → L.countP (fun x => decide (Reach s v x)) < L.countP (fun x => decide (Reach s u x)) := by
            intro L
            induction L with
            | nil => intro _ h; cases h
            | cons x t iht =>
              intro hL hm
              have hle : t.countP (fun x => decide (Reach s v x)) ≤ t.countP (fun x => decide (Reach s u x)) := List.countP_mono_left (fun y hy => hL y (by simp [hy]))
              by_cases hxv : x = v
              · subst hxv
                rw [List.countP_cons_of_neg (by simpa using hvv), List.countP_cons_of_pos (by simpa using Reach.one hvs)]
                omega
              · have hm' : v ∈ t := by
                  rcases List.mem_cons.1 hm with e | e
                  · exact absurd e.symm hxv
                  · exact e
                have := iht (fun y hy => hL y (by simp [hy])) hm'
                by_cases hx1 : Reach s v x
                · have hx2 : Reach s u x := by simpa using hL x (by simp) (by simpa using hx1)
                  rw [List.countP_cons_of_pos (by simpa using hx1), List.countP_cons_of_pos (by simpa using hx2)]
                  omega
                · rw [List.countP_cons_of_neg (by simpa using hx1), List.countP_cons]
                  omega
          exact gen U hsub hv
        omega
  obtain ⟨u, hu⟩ := hne
  exact key _ u hu (Nat.le_refl _)
/-- where the order stops short, something goes round -/
theorem short_round {l : List It} {ks : List Hs} (ho : OrderS l ks) (hnd : (l.map (·.name)).Nodup) (hcl : ∀ x, ¬ missing l x) (hlt : ks.length < l.length) : ∃ x ∈ l, Reach (getS (downS l)) x.name x.name := by
  classical
  have hout : ∃ h, h ∈ l.map (·.name) ∧ h ∉ ks := by
    by_cases h : ∃ h, h ∈ l.map (·.name) ∧ h ∉ ks
    · exact h
    · exfalso
      have := nodup_le (l.map (·.name)) ks hnd (fun x hx => by
        by_cases hk : x ∈ ks
        · exact hk
        · exact absurd ⟨x, hx, hk⟩ h)
      simp at this
      omega
  obtain ⟨u, hu, hr⟩ := goes_round (getS (downS l)) ((l.map (·.name)).filter (fun h => decide (h ∉ ks))) (fun u hu => by
    obtain ⟨h1, h2⟩ := List.mem_filter.1 hu
    have h2' : u ∉ ks := by simpa using h2
    have hn := ho.2 u
    have : ∃ x ∈ l, x.name = u ∧ ∃ d ∈ x.deps, d ∉ ks := by
      by_cases h : ∃ x ∈ l, x.name = u ∧ ∃ d ∈ x.deps, d ∉ ks
      · exact h
      · refine absurd ⟨h1, h2', fun x hx e d hd => ?_⟩ hn
        by_cases hk : d ∈ ks
        · exact hk
        · exact absurd ⟨x, hx, e, d, hd, hk⟩ h
    obtain ⟨x, hx, e, d, hd, hk⟩ := this
    have hdn : d ∈ l.map (·.name) := by
      by_cases h : d ∈ l.map (·.name)
      · exact h
      · exact absurd ⟨⟨x, hx, hd⟩, h⟩ (hcl d)
    exact ⟨d, List.mem_filter.2 ⟨hdn, by simpa using hk⟩, (mem_down l u d).2 ⟨x, hx, e, hd⟩⟩) (by
    obtain ⟨h, h1, h2⟩ := hout
    exact ⟨h, List.mem_filter.2 ⟨h1, by simpa using h2⟩⟩)
  obtain ⟨h1, _⟩ := List.mem_filter.1 hu
  obtain ⟨x, hx, rfl⟩ := List.mem_map.1 h1
  exact ⟨x, hx, hr⟩
#print axioms short_round
end Go.Proofs.Ytijkpkcopjkhkaa.Oct
