/-
  Layer 15 (people): plain facts: what calls leave.
-/
import Derived.Test.YtfickhhfhdhcbaaTel
namespace Go.Proofs.Ytfickhhfhdhcbaa.Oct
open Go.RowKit
set_option linter.unusedSimpArgs false
set_option linter.unusedVariables false

def ShO (o : Og) : Prop := o.name.length ≤ 140737488355328 ∧ ∀ t ∈ o.teams, t.name.length ≤ 140737488355328
theorem OneIs.sh {M M' : Pm} {x : Hs} {f : Og → Og → Prop} (h : OneIs M x f M') (hs : Sh M) (hf : ∀ o o', f o o' → ShO o → ShO o') : Sh M' := by
  obtain ⟨A, o, B, o', h1, h2, h3, rfl⟩ := h
  refine ⟨hs.1, fun y hy => ?_⟩
  have hy' : y ∈ A ++ o' :: B := hy
  have hall : ∀ y ∈ A ++ o :: B, ShO y := fun y hy => hs.2 y (by rw [h2]; exact hy)
  rcases List.mem_append.1 hy' with e | e
  · exact hall y (List.mem_append.2 (.inl e))
  · rcases List.mem_cons.1 e with rfl | e
    · exact hf o _ h3 (hall o (by simp))
    · exact hall y (List.mem_append.2 (.inr (List.mem_cons_of_mem _ e)))
theorem TeamIs.sh {t : Hs} {f : Tm → Tm → Prop} {o o' : Og} (h : TeamIs t f o o') (hf : ∀ a a', f a a' → a'.name = a.name) (hs : ShO o) : ShO o' := by
  obtain ⟨S, tm, T, tm', h1, h2, h3, rfl⟩ := h
  refine ⟨hs.1, fun y hy => ?_⟩
  have hy' : y ∈ S ++ tm' :: T := hy
  have hall : ∀ y ∈ S ++ tm :: T, y.name.length ≤ 140737488355328 := fun y hy => hs.2 y (by rw [h2]; exact hy)
  rcases List.mem_append.1 hy' with e | e
  · exact hall y (List.mem_append.2 (.inl e))
  · rcases List.mem_cons.1 e with rfl | e
    · rw [hf tm _ h3]; exact hall tm (by simp)
    · exact hall y (List.mem_append.2 (.inr (List.mem_cons_of_mem _ e)))
theorem Did.sh {M M' : Pm} {a : Av} (h : Did M a M') (hs : Sh M) (ha : a.ok) : Sh M' := by
  rcases h with ⟨_, rfl⟩ | ⟨_, h⟩
  · exact hs
  · unfold DidK at h
    split at h
    · subst h
      refine ⟨fun u hu => ?_, hs.2⟩
      have hu' : u ∈ addK M.users a.u := hu
      unfold addK at hu'
      split at hu'
      · exact hs.1 u hu'
      · rcases List.mem_append.1 hu' with e | e
        · exact hs.1 u e
        · simp at e; rw [e]; exact ha.2.2
    split at h
    · obtain ⟨b, rfl⟩ := h
      refine ⟨hs.1, fun o ho => ?_⟩
      have ho' : o ∈ M.orgs ++ [newOg a.x a.u b] := ho
      rcases List.mem_append.1 ho' with e | e
      · exact hs.2 o e
      · simp at e; subst e; exact ⟨ha.1, fun t ht => by simp [newOg] at ht⟩
    split at h
    · exact h.sh hs fun o o' e k => by rw [e]; exact k
    split at h
    · refine h.sh hs fun o o' e k => ?_
      rw [e]
      refine ⟨k.1, fun t ht => ?_⟩
      obtain ⟨t', ht', rfl⟩ := List.mem_map.1 ht
      exact k.2 t' ht'
    split at h
    · refine h.sh hs fun o o' e k => ?_
      obtain ⟨nb, e⟩ := e
      rw [e]
      refine ⟨k.1, fun t ht => ?_⟩
      have ht' : t ∈ o.teams ++ [Tm.mk a.t nb []] := ht
      rcases List.mem_append.1 ht' with e' | e'
      · exact k.2 t e'
      · simp at e'; rw [e']; exact ha.2.1
    split at h
    · exact h.sh hs fun o o' e k => e.sh (fun b b' e' => by rw [e']) k
    · exact h.sh hs fun o o' e k => e.sh (fun b b' e' => by rw [e']; rfl) k
theorem Sh.zero (b : Nat) : Sh (Pm0 b) := ⟨fun u hu => by simp [Pm0] at hu, fun o ho => by simp [Pm0] at ho⟩
theorem orgs_mem {M : Pm} {x : Hs} (hx : x ∈ orgsL M) : ∃ o, M.org x = some o := by
  unfold orgsL at hx
  rw [sortK_mem] at hx
  obtain ⟨o, ho, rfl⟩ := List.mem_map.1 hx
  cases h : M.org o.name with
  | some o' => exact ⟨o', rfl⟩
  | none =>
    unfold Pm.org at h
    rw [List.find?_eq_none] at h
    exact absurd (by simp) (h o ho)
theorem org_in {M : Pm} {x : Hs} {o : Og} (h : M.org x = some o) : o ∈ M.orgs ∧ o.name = x := ⟨List.mem_of_find?_eq_some h, by simpa using List.find?_some h⟩
theorem Sh.org {M : Pm} (hs : Sh M) {x : Hs} (hx : x ∈ orgsL M) : x.length ≤ 140737488355328 := by
  obtain ⟨o, ho⟩ := orgs_mem hx
  obtain ⟨h1, h2⟩ := org_in ho
  rw [← h2]
  exact (hs.2 o h1).1
theorem Sh.mem {w : World} {p : Nat} {M : Pm} (h : PAt w p M) (hs : Sh M) {x u : Hs} (hu : u ∈ membersL M x) : u.length ≤ 140737488355328 := by
  unfold membersL at hu
  split at hu
  · cases hu
  · rename_i o ho
    rw [sortK_mem] at hu
    obtain ⟨r, hr, rfl⟩ := List.mem_map.1 hu
    exact hs.1 _ ((h.ok o (org_in ho).1).roles r hr).1
/-- an organisation has an owner -/
theorem owner_fact {w : World} {p : Nat} {M : Pm} (h : PAt w p M) {x : Hs} (hx : x ∈ orgsL M) : ∃ (k : Nat) (u : Hs), (membersL M x)[k]? = some u ∧ subR M x u = 2 := by
  obtain ⟨o, ho⟩ := orgs_mem hx
  obtain ⟨h1, h2⟩ := org_in ho
  obtain ⟨r, hr, hr2⟩ := (h.ok o h1).owner
  have hu : r.1 ∈ membersL M x := by
    unfold membersL
    rw [ho]
    exact sortK_mem.2 (List.mem_map.2 ⟨r, hr, rfl⟩)
  obtain ⟨k, hk⟩ := List.mem_iff_getElem?.1 hu
  refine ⟨k, r.1, hk, ?_⟩
  unfold subR
  rw [ho]
  show roleOf o.roles r.1 = 2
  rw [roleOf_mem (h.rnodup h1) hr, hr2]
theorem str_at {w : World} {a : Option Addr} {n : Nat} {l : List Hs} (h : StrAt w a n l) {i : Nat} (hi : i < n) : ∃ g x, a = some ⟨g, 0, none⟩ ∧ l[i]? = some x ∧ w.cell? ⟨g, i, none⟩ = some (hv x) := by
  obtain ⟨g, e, _, hc⟩ := h.2 (by omega)
  obtain ⟨x, hx⟩ : ∃ x, l[i]? = some x := ⟨_, List.getElem?_eq_getElem (by rw [h.1]; exact hi)⟩
  exact ⟨g, x, e, hx, hc i x hx⟩
#print axioms owner_fact
end Go.Proofs.Ytfickhhfhdhcbaa.Oct
