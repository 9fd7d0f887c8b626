/-
  Layer 7 (tree): Depth of a map of any keys, and Clone.
-/
import Derived.Test.YtnagknlfboadkaaMapDel
namespace Go.Proofs.Ytnagknlfboadkaa.Oct
open Go.RowKit

theorem dn_len : ∀ {ps : List Pr} {ls : List (List Pr)}, ls.length = ps.length → (dn ps ls).length = (ls.map (fun l => l.length + 1)).sum
  | [], [], _ => rfl
  | [], _ :: _, h => by simp at h
  | _ :: _, [], h => by simp at h
  | p :: ps, l :: ls, h => by
    have ih := dn_len (ps := ps) (ls := ls) (by simpa using h)
    unfold dn at ih ⊢
    rw [List.zipWith_cons_cons, List.flatten_cons, List.length_append, ih]
    simp
theorem inter_len {ps : List Pr} {ls : List (List Pr)} (h : ls.length = ps.length + 1) : (inter ls ps).length + 1 = (ls.map (fun l => l.length + 1)).sum := by
  cases ls with
  | nil => simp at h
  | cons l ls =>
    show (l ++ dn ps ls).length + 1 = _
    rw [List.length_append, dn_len (by simpa using h)]
    simp; omega
theorem sum_ge {c : Nat} : ∀ {l : List Nat}, (∀ x ∈ l, c ≤ x) → l.length * c ≤ l.sum
  | [], _ => by simp
  | x :: l, h => by
    have ih := sum_ge (l := l) fun y hy => h y (List.mem_cons_of_mem _ hy)
    have := h x List.mem_cons_self
    simp only [List.length_cons, List.sum_cons, Nat.add_mul, Nat.one_mul]; omega
theorem sum_le {c : Nat} : ∀ {l : List Nat}, (∀ x ∈ l, x ≤ c) → l.sum ≤ l.length * c
  | [], _ => by simp
  | x :: l, h => by
    have ih := sum_le (l := l) fun y hy => h y (List.mem_cons_of_mem _ hy)
    have := h x List.mem_cons_self
    simp only [List.length_cons, List.sum_cons, Nat.add_mul, Nat.one_mul]; omega
/-- how many pairs a tree has, by its root's -/
theorem filled : ∀ (d : Nat) (t : T d), WF d t → ((prs d t).length + 1) * 4 ^ d ≤ (tl d t).length + 1 ∧ (tl d t).length + 1 ≤ ((prs d t).length + 1) * 8 ^ d
  | 0, t, _ => by show (_ + 1) * 1 ≤ _ ∧ _ ≤ (_ + 1) * 1; rw [Nat.mul_one]; exact ⟨Nat.le_refl _, Nat.le_refl _⟩
  | d + 1, t, h => by
    show (t.1.length + 1) * 4 ^ (d + 1) ≤ (inter (t.2.map (tl d)) t.1).length + 1 ∧ (inter (t.2.map (tl d)) t.1).length + 1 ≤ (t.1.length + 1) * 8 ^ (d + 1)
    rw [inter_len (by rw [List.length_map]; exact h.1), List.map_map, ← h.1]
    have hk : ∀ k ∈ t.2, 4 ^ (d + 1) ≤ (tl d k).length + 1 ∧ (tl d k).length + 1 ≤ 8 ^ (d + 1) := by
      intro k hk
      obtain ⟨h1, h2, h3⟩ := h.2 k hk
      have ih := filled d k h1
      have e1 : 4 * 4 ^ d ≤ ((prs d k).length + 1) * 4 ^ d := Nat.mul_le_mul_right _ (by omega)
      have e2 : ((prs d k).length + 1) * 8 ^ d ≤ 8 * 8 ^ d := Nat.mul_le_mul_right _ (by omega)
      rw [Nat.pow_succ, Nat.pow_succ, Nat.mul_comm _ 4, Nat.mul_comm _ 8]
      omega
    have g1 := sum_ge (c := 4 ^ (d + 1)) (l := t.2.map ((fun l => l.length + 1) ∘ tl d)) fun x hx => by
      obtain ⟨k, hk', rfl⟩ := List.mem_map.1 hx
      exact (hk k hk').1
    have g2 := sum_le (c := 8 ^ (d + 1)) (l := t.2.map ((fun l => l.length + 1) ∘ tl d)) fun x hx => by
      obtain ⟨k, hk', rfl⟩ := List.mem_map.1 hx
      exact (hk k hk').2
    rw [List.length_map] at g1 g2
    exact ⟨g1, g2⟩
/-- a depth is right for so many keys -/
def DepthOk (D n : Nat) : Prop := (D = 0 ∧ n = 0) ∨ (1 ≤ D ∧ 1 ≤ n ∧ 2 * 4 ^ (D - 1) ≤ n + 1 ∧ n + 1 ≤ 8 ^ D)
theorem pow_gt {d : Nat} (h : 10 < d) : 1000000 < 4 ^ d := Nat.lt_of_lt_of_le (by decide : 1000000 < 4 ^ 10) (Nat.pow_le_pow_right (by omega) (by omega))
theorem tdepth (w : World) (m : Nat) (L : List Pr) (h : Tr w m L) (hb : L.length ≤ 1000000) : Calls Try.prog 20 #[.pointer (some ⟨m, 0, none⟩)] w fun e w' => ∃ D : Nat, e = .returned (.int .i64 (D : Int)) ∧ Hid (DepthOk D L.length) ∧ w = w' := by
  rcases h with ⟨h1, rfl⟩ | ⟨d, t, nd, h1, h2, h3, h4, rfl⟩
  · have c2 := h1.cell (i := 2) rfl
    have c0 := h1.cell (i := 0) rfl
    clear h1
    have HZ : Hid (Calls Try.prog 35 #[.pointer none] w fun e w' => e = .returned (.int .i64 0) ∧ w = w') := by
      show Calls _ _ _ _ _
      go_enter Try.func35, Try.ntmps35
      go_wp2
      go_ret
      exact ⟨rfl, rfl⟩
    go_enter Try.func20, Try.ntmps20
    go_wp2_with (first | (go_at_call 22; refine (made_is w m true c2).mono ?_; rintro e w2 ⟨rfl, rfl⟩) | (go_at_call 35; refine HZ.out.mono ?_; rintro e w3 ⟨rfl, rfl⟩))
    go_ret
    exact ⟨0, rfl, .inl ⟨rfl, rfl⟩, rfl⟩
  · have hf := filled d t h3.wf
    have hlow : 2 * 4 ^ d ≤ ((prs d t).length + 1) * 4 ^ d := Nat.mul_le_mul_right _ (by omega)
    have hup : ((prs d t).length + 1) * 8 ^ d ≤ 8 * 8 ^ d := Nat.mul_le_mul_right _ (by have := h3.most; omega)
    have hpos : 1 ≤ 4 ^ d := Nat.one_le_pow _ _ (by omega)
    have hd : d ≤ 1000 := by
      refine Nat.le_of_not_lt fun hc => ?_
      have := pow_gt (d := d) (by omega)
      omega
    have HO : Hid (DepthOk (d + 1) (tl d t).length) := .inr ⟨by omega, by omega, by show 2 * 4 ^ d ≤ _; omega, by rw [Nat.pow_succ, Nat.mul_comm]; omega⟩
    have HC : Hid (Calls Try.prog 35 #[.pointer (some ⟨nd, 0, none⟩)] w fun e w' => e = .returned (.int .i64 ((d + 1 : Nat) : Int)) ∧ w = w') := depth_all d hd w t nd h2 h3.wf
    have c2 := h1.cell (i := 2) rfl
    have c0 := h1.cell (i := 0) rfl
    clear h1 h2 h3 h4 hf hlow hup hpos hd hb
    generalize d + 1 = D at *
    go_enter Try.func20, Try.ntmps20
    go_wp2_with (first | (go_at_call 22; refine (made_is w m true c2).mono ?_; rintro e w2 ⟨rfl, rfl⟩) | (go_at_call 35; refine HC.out.mono ?_; rintro e w3 ⟨rfl, rfl⟩))
    go_ret
    exact ⟨D, rfl, HO, rfl⟩
#print axioms tdepth
theorem Tr.root {w : World} {m : Nat} {L : List Pr} (h : Tr w m L) : ∃ p, Mp w m (.pointer p) L.length ∧ Root w p L := by
  rcases h with ⟨h1, rfl⟩ | ⟨d, t, nd, h1, h2, h3⟩
  · exact ⟨none, h1, .inl ⟨rfl, rfl⟩⟩
  · exact ⟨_, h1, .inr ⟨d, t, nd, rfl, h2, h3⟩⟩
theorem Root.below {w w' : World} {v : Option Addr} {L : List Pr} (h : Root w v L) (hb : Below w.heap.size w w') : Root w' v L := by
  rcases h with h | ⟨d, t, nd, h1, h2, h3⟩
  · exact .inl h
  · exact .inr ⟨d, t, nd, h1, h2.below hb (Nat.le_refl _), h3⟩
/-- a clone is a map of its own, of the same root -/
theorem tclone (w : World) (m : Nat) (L : List Pr) (h : Tr w m L) : Calls Try.prog 11 #[.pointer (some ⟨m, 0, none⟩)] w fun e w' => ∃ c : Nat, e = .returned (.pointer (some ⟨c, 0, none⟩)) ∧ Hid (c = w.heap.size ∧ Tr w' c L ∧ Tr w' m L) ∧ Hid (Below w.heap.size w w') := by
  have HT : Hid (Tr w m L) := h
  obtain ⟨p, h1, h2⟩ := h.root
  have HR : Hid (Root w p L) := h2
  have c2 := h1.cell (i := 2) rfl
  have c0 := h1.cell (i := 0) rfl
  have c1 := h1.cell (i := 1) rfl
  clear h1 h2 h
  go_enter Try.func11, Try.ntmps11
  go_wp2_with (first | (go_at_call 22; refine (made_is w m true c2).mono ?_; rintro e w2 ⟨rfl, rfl⟩))
  go_ret
  have e1 := Blk.new w #[.pointer p, .int .i64 (L.length : Int), .bool true] 48
  have hB : Below w.heap.size w _ := (Below.refl _ w).alloc (Nat.le_refl _) (Obj.cells #[.pointer p, .int .i64 (L.length : Int), .bool true] 48)
  exact ⟨_, rfl, ⟨rfl, (HR.out.below hB).tr e1, HT.out.below hB⟩, hB⟩
#print axioms tclone
end Go.Proofs.Ytnagknlfboadkaa.Oct
