/-
  Layer 17 (acl): what 'Covers' tells, in words of pieces.
-/
import Derived.Test.YtngkajeghmogmaaCovers
namespace Go.Proofs.Ytngkajeghmogmaa.Oct
open Go.RowKit

theorem isPath_nil : isPath [] = false := by decide +kernel
theorem isPath_ne {l : List UInt8} (h : isPath l = true) : l ≠ [] := by
  rintro rfl; rw [isPath_nil] at h; cases h
theorem split_head (l : List UInt8) (t : Nat) : split (headOf l (t + 1)) = (split l).take (t + 1) :=
  split_join (take_ne (split_ne l)) (fun p hp => split_clean l p (List.mem_of_mem_take hp))
theorem split_inj {a b : List UInt8} (h : split a = split b) : a = b := by rw [← join_split a, h, join_split]
theorem list_inj {a b : ByteArray} (h : a.data.toList = b.data.toList) : a = b := by rw [← mkS_list a, h, mkS_list]
theorem cov_iff (p s : ByteArray) : cov p s = true ↔ isPath s.data.toList = true ∧ (p.data.toList = [] ∨ split p.data.toList <+: split s.data.toList) := by
  unfold cov
  rw [List.any_eq_true]
  constructor
  · rintro ⟨h, hm, hf⟩
    unfold hdl at hm
    split at hm
    · rename_i hp
      refine ⟨hp, ?_⟩
      obtain ⟨t, ht, rfl⟩ := List.mem_map.1 hm
      simp only [fits, Bool.or_eq_true, beq_iff_eq, mkS_data] at hf
      rcases hf with hf | hf
      · exact .inl hf
      · refine .inr ?_
        rw [hf, split_head]
        exact List.take_prefix _ _
    · simp at hm
  · rintro ⟨hp, h⟩
    have hlen : 0 < (split s.data.toList).length := by
      cases hs : split s.data.toList with
      | nil => exact absurd hs (split_ne _)
      | cons q r => simp
    rcases h with h | h
    · refine ⟨mkS (headOf s.data.toList (0 + 1)), ?_, by simp [fits, h]⟩
      unfold hdl
      rw [if_pos hp]
      exact List.mem_map.2 ⟨0, by simpa using hlen, rfl⟩
    · obtain ⟨k, hk⟩ : ∃ k, (split p.data.toList).length = k + 1 := by
        cases hs : split p.data.toList with
        | nil => exact absurd hs (split_ne _)
        | cons q r => exact ⟨r.length, by simp⟩
      have he : split p.data.toList = (split s.data.toList).take (k + 1) := by
        rw [← hk]; exact (List.prefix_iff_eq_take.1 h)
      have hpe : p.data.toList = headOf s.data.toList (k + 1) := by rw [headOf, ← he, join_split]
      refine ⟨mkS (headOf s.data.toList (k + 1)), ?_, by simp only [fits, mkS_data, ← hpe]; simp⟩
      unfold hdl
      rw [if_pos hp]
      refine List.mem_map.2 ⟨k, ?_, rfl⟩
      have := h.length_le
      simp; omega
theorem cov_path {p s : ByteArray} (h : cov p s = true) : isPath s.data.toList = true := ((cov_iff p s).1 h).1
theorem cov_trans {a b c : ByteArray} (h1 : cov a b = true) (h2 : cov b c = true) : cov a c = true := by
  obtain ⟨p1, k1⟩ := (cov_iff _ _).1 h1
  obtain ⟨p2, k2⟩ := (cov_iff _ _).1 h2
  refine (cov_iff _ _).2 ⟨p2, ?_⟩
  rcases k1 with k1 | k1
  · exact .inl k1
  · rcases k2 with k2 | k2
    · exact absurd k2 (isPath_ne p1)
    · exact .inr (k1.trans k2)
theorem cov_anti {a b : ByteArray} (h1 : cov a b = true) (h2 : cov b a = true) : a = b := by
  obtain ⟨p1, k1⟩ := (cov_iff _ _).1 h1
  obtain ⟨p2, k2⟩ := (cov_iff _ _).1 h2
  rcases k1 with k1 | k1
  · exact absurd k1 (isPath_ne p2)
  · rcases k2 with k2 | k2
    · exact absurd k2 (isPath_ne p1)
    · exact list_inj (split_inj (List.IsPrefix.eq_of_length k1 (Nat.le_antisymm k1.length_le k2.length_le)))
theorem cov_self (a : ByteArray) : cov a a = isPath a.data.toList := by
  cases h : isPath a.data.toList with
  | true => exact (cov_iff _ _).2 ⟨h, .inr (List.prefix_refl _)⟩
  | false =>
    cases hc : cov a a with
    | false => rfl
    | true => rw [cov_path hc] at h; cases h
theorem cov_empty (c : ByteArray) : cov ⟨#[]⟩ c = isPath c.data.toList := by
  cases h : isPath c.data.toList with
  | true => exact (cov_iff _ _).2 ⟨h, .inl rfl⟩
  | false =>
    cases hc : cov ⟨#[]⟩ c with
    | false => rfl
    | true => rw [cov_path hc] at h; cases h
#print axioms cov_anti
end Go.Proofs.Ytngkajeghmogmaa.Oct
