/-
  Layer 15 (people): Join; Leave of the last owner.
-/
import Derived.Test.YtfickhhfhdhcbaaAddOrg
namespace Go.Proofs.Ytfickhhfhdhcbaa.Oct
open Go.RowKit

/-- a role put -/
def rput (l : List (Hs × Int)) (u : Hs) (r : Int) : List (Hs × Int) := if inRoles l u then l.map (fun y => if y.1 = u then (u, r) else y) else l ++ [(u, r)]
theorem rput_kv (l : List (Hs × Int)) (u : Hs) (r : Int) : kput (rolesKv l) u (.int .i64 r) = rolesKv (rput l u r) := by
  unfold kput rput
  rw [khas_roles]
  cases inRoles l u with
  | false => simp [rolesKv]
  | true =>
    simp only [if_true]
    unfold rolesKv
    rw [List.map_map, List.map_map]
    refine List.map_congr_left fun y _ => ?_
    simp only [Function.comp]
    split <;> rfl
theorem rput_keys (l : List (Hs × Int)) (u : Hs) (r : Int) : ∀ k ∈ l.map (·.1), k ∈ (rput l u r).map (·.1) := by
  intro k hk
  obtain ⟨y, hy, rfl⟩ := List.mem_map.1 hk
  unfold rput
  split
  · refine List.mem_map.2 ⟨_, List.mem_map.2 ⟨y, hy, rfl⟩, ?_⟩
    split
    · rename_i e; exact e.symm
    · rfl
  · exact List.mem_map.2 ⟨y, List.mem_append.2 (.inl hy), rfl⟩
theorem rput_mem {l : List (Hs × Int)} {u : Hs} {r : Int} {y : Hs × Int} (h : y ∈ rput l u r) : y = (u, r) ∨ y ∈ l := by
  unfold rput at h
  split at h
  · obtain ⟨z, hz, rfl⟩ := List.mem_map.1 h
    split
    · exact .inl rfl
    · exact .inr hz
  · rcases List.mem_append.1 h with h | h
    · exact .inr h
    · exact .inl (by simpa using h)
theorem rput_new (l : List (Hs × Int)) (u : Hs) (r : Int) : (u, r) ∈ rput l u r := by
  unfold rput
  split
  · rename_i h
    have : u ∈ l.map (·.1) := by simpa [inRoles] using h
    obtain ⟨y, hy, e⟩ := List.mem_map.1 this
    exact List.mem_map.2 ⟨y, hy, by rw [if_pos e]⟩
  · simp
theorem rput_other {l : List (Hs × Int)} {u : Hs} {r : Int} {y : Hs × Int} (h : y ∈ l) (hn : y.1 ≠ u) : y ∈ rput l u r := by
  unfold rput
  split
  · exact List.mem_map.2 ⟨y, h, by rw [if_neg hn]⟩
  · exact List.mem_append.2 (.inl h)
theorem roleOf_mem {l : List (Hs × Int)} (hnd : (l.map (·.1)).Nodup) {y : Hs × Int} (h : y ∈ l) : roleOf l y.1 = y.2 := by
  induction l with
  | nil => cases h
  | cons a l ih =>
    rw [List.map_cons, List.nodup_cons] at hnd
    unfold roleOf
    rcases List.mem_cons.1 h with rfl | h
    · simp
    · have hne : (a.1 == y.1) = false := by
        have : a.1 ≠ y.1 := fun e => hnd.1 (List.mem_map.2 ⟨y, h, e.symm⟩)
        simpa using this
      rw [List.find?_cons, hne]
      exact ih hnd.2 h
theorem one_key {l : List (Hs × Int)} (hnd : (l.map (·.1)).Nodup) (u : Hs) (hall : ∀ r ∈ l, r.2 = 2 → r.1 = u) : owners l ≤ 1 := by
  induction l with
  | nil => simp [owners]
  | cons a l ih =>
    rw [List.map_cons, List.nodup_cons] at hnd
    unfold owners
    rw [List.countP_cons]
    by_cases ha : a.2 = 2
    · have hz : l.countP (fun r => r.2 == 2) = 0 := by
        rw [List.countP_eq_zero]
        intro r hr e
        have e2 : r.2 = 2 := by simpa using e
        have h1 := hall r (List.mem_cons_of_mem _ hr) e2
        have h2 := hall a (by simp) ha
        exact hnd.1 (List.mem_map.2 ⟨r, hr, h1.trans h2.symm⟩)
      rw [hz]
      split <;> omega
    · have := ih hnd.2 (fun r hr => hall r (List.mem_cons_of_mem _ hr))
      unfold owners at this
      have ha2 : (a.2 == 2) = false := by simpa using ha
      rw [ha2]
      simpa using this
theorem owners_pos {l : List (Hs × Int)} (h : ∃ r ∈ l, r.2 = 2) : 1 ≤ owners l := by
  obtain ⟨r, hr, e⟩ := h
  exact List.countP_pos_iff.2 ⟨r, hr, by simpa using e⟩
theorem owner_left {l : List (Hs × Int)} (hnd : (l.map (·.1)).Nodup) (ho : ∃ r ∈ l, r.2 = 2) {u : Hs} (hl : lastOwner l u = false) : ∃ r ∈ l, r.2 = 2 ∧ r.1 ≠ u := by
  refine Classical.byContradiction fun hc => ?_
  have hall : ∀ r ∈ l, r.2 = 2 → r.1 = u := fun r hr e => Classical.byContradiction fun hn => hc ⟨r, hr, e, hn⟩
  have h1 := one_key hnd u hall
  have h2 := owners_pos ho
  obtain ⟨r, hr, e⟩ := ho
  have h3 := roleOf_mem hnd hr
  rw [hall r hr e, e] at h3
  have h4 : owners l = 1 := by omega
  simp [lastOwner, h3, h4] at hl
def Pm.joinE (M : Pm) (x u : Hs) (r : Int) : Int := match M.org x with
  | none => 111
  | some o => if ¬ u ∈ M.users then 111 else if r ≠ 1 ∧ r ≠ 2 then 2 else if r = 1 ∧ lastOwner o.roles u = true then 151 else 0
/-- what is left of M where one organisation is another one -/
def OneIs (M : Pm) (x : Hs) (f : Og → Og → Prop) (M' : Pm) : Prop := ∃ A o B o', M.org x = some o ∧ M.orgs = A ++ o :: B ∧ f o o' ∧ M' = { M with orgs := A ++ o' :: B }
theorem rolesKv_keys (l : List (Hs × Int)) : (rolesKv l).map (·.1) = l.map (·.1) := by unfold rolesKv; rw [List.map_map]; rfl
theorem nodup_le : ∀ {l m : List Hs}, l.Nodup → (∀ k ∈ l, k ∈ m) → l.length ≤ m.length
  | [], _, _, _ => Nat.zero_le _
  | a :: l, m, hn, hs => by
    rw [List.nodup_cons] at hn
    have h1 := nodup_le (l := l) (m := m.erase a) hn.2 (fun k hk => (List.mem_erase_of_ne (show k ≠ a from fun e => hn.1 (by rw [← e]; exact hk))).2 (hs k (List.mem_cons_of_mem _ hk)))
    have h2 := List.length_erase_of_mem (hs a (by simp))
    have h3 := List.length_pos_of_mem (hs a (by simp))
    rw [List.length_cons]
    omega
theorem PAt.few {w : World} {p : Nat} {M : Pm} (h : PAt w p M) {o : Og} (ho : o ∈ M.orgs) : o.roles.length ≤ 64 := by
  have h1 := (h.oroles ho).nodup
  rw [rolesKv_keys] at h1
  have h3 := nodup_le h1 (m := M.users) (fun k hk => by
    obtain ⟨r, hr, rfl⟩ := List.mem_map.1 hk
    exact ((h.ok o ho).roles r hr).1)
  rw [List.length_map] at h3
  exact Nat.le_trans h3 h.users
end Go.Proofs.Ytfickhhfhdhcbaa.Oct
