/-
  Rows: 'append' with the bound a letter, and where the new row lies.
-/
import Derived.Test.YtngkajeghmogmaaRow
namespace Go.Proofs.Ytngkajeghmogmaa.Oct
open Go.RowKit

theorem run_append_ss {P : Program} (w : World) (t ty e : TypeId) (i : TypeInfo) (z : Value) (sz B : Nat) (ht : P.underlying t = some (.slice e)) (hi : P.info? e = some i) (hz : i.zero = some z) (hs : i.size = sz) (M : Nat) (hM : M ≤ 8796093022208) (hbb : ∀ m, m ≤ M → (m + m / 4 + 192) * i.bytes ≤ 281474976710656) (hzs : z.cells.size = sz) (hsz : 0 < sz)
    (v : Value) (n : Nat) (cs : List Value) (h : Bs e sz B w v n cs) (o : Option Addr) (q c : Nat) (qs : List Value) (ho : Rd w e sz o q qs) (hB : B ≤ w.heap.size) (hn : n + q ≤ M) :
    ∃ v' w', (Builtin.append_ #[t, t] ty #[v, .slice o q c]).run P w = .ok v' w' ∧ Bs e sz B w' v' (n + q) (cs ++ qs) ∧ Below B w w' ∧ (q = 0 ∨ w'.ownsRow B e sz v' (n + q) (cs ++ qs)) := by
  have hone : ∀ u ∈ cs ++ qs, u.oneCell' = true := by
    have h1 : ∀ u ∈ cs, u.oneCell' = true := by
      rcases h with ⟨_, _, h, _⟩ | ⟨h, _⟩
      · exact h.2.1
      · exact h
    intro u hu
    rcases List.mem_append.1 hu with hu | hu
    · exact h1 u hu
    · exact ho.2.1 u hu
  by_cases hq : q = 0
  · subst hq
    have hqs : qs = [] := List.eq_nil_of_length_eq_zero (by rw [ho.1]; omega)
    subst hqs
    obtain ⟨a, cap, rfl, hnc, _⟩ := h.read
    exact ⟨_, w, run_append_zero w t ty e i ht hi a o n cap c hnc, by simpa using h, Below.refl _ _, .inl rfl⟩
  · obtain ⟨g2, off2, rfl, _, hq2⟩ := ho.2.2 (by omega)
    have hnews : ∀ j u, qs[j]? = some u → w.cell? ((⟨g2, off2, none⟩ : Addr).add j) = some u := fun j u hu => by rw [Addr.add_lit]; exact hq2 j u hu
    rcases h with ⟨a, rfl, h, hnone⟩ | ⟨_, h⟩
    · cases a with
      | none =>
        have h0 : n = 0 := by
          rcases hnone with ⟨_, h⟩ | ⟨_, _, h⟩
          · exact h
          · cases h
        subst h0
        have hcs : cs = [] := List.eq_nil_of_length_eq_zero (by rw [h.1]; omega)
        subst hcs
        have hr := run_append_nil (P := P) w t ty e i z ht hi hz ⟨g2, off2, none⟩ q c qs (by rw [hs]; exact ho.1) hnews (by omega) (by omega) (Nat.le_trans (Nat.mul_le_mul_right _ (by omega)) (hbb q (by omega)))
        have hw := own_of_grown (w := w) (B := B) (e := e) (n := 0) (m := q) (old := 0) (xs := []) hzs (by simp) ho.1 hB (by unfold maxLen; omega)
        simp only [Nat.zero_add, List.nil_append, Array.empty_append] at hw ⊢
        exact ⟨_, _, hr, .inr ⟨by simpa using hone, hw⟩, (Below.refl B w).drew.alloc hB _, .inr hw⟩
      | some a =>
        have hol : ∀ j u, cs[j]? = some u → w.cell? (a.add j) = some u := fun j u hu => by
          have hlt : 0 < n := by
            have := (List.getElem?_eq_some_iff.1 hu).1
            rw [h.1] at this
            exact Nat.pos_of_ne_zero (fun e => by subst e; omega)
          obtain ⟨g, off, e, _, h2⟩ := h.2.2 hlt
          cases e
          rw [Addr.add_lit]; exact h2 j u hu
        have hr := run_append_grow (P := P) w t ty e i z ht hi hz a n n cs (by rw [hs]; exact h.1) hol ⟨g2, off2, none⟩ q c qs (by rw [hs]; exact ho.1) hnews (by omega) (by omega) (growslice_fits_wide (by omega) (hbb _ hn))
        exact ⟨_, _, hr, .inr ⟨hone, own_of_grown hzs h.1 ho.1 hB (by unfold maxLen; omega)⟩, (Below.refl B w).drew.alloc hB _, .inr (own_of_grown hzs h.1 ho.1 hB (by unfold maxLen; omega))⟩
    · obtain ⟨v', w', hr, h2, h3, _⟩ := run_append_own_wide (P := P) w B t ty e i z sz i.bytes ht hi hz hs rfl hzs hsz v n cs h ⟨g2, off2, none⟩ q c qs ho.1 hnews ho.2.1 (by unfold maxLen; omega) (hbb _ hn) hB
      refine ⟨v', w', hr, .inr ⟨hone, h2⟩, ⟨h3.os, h3.tape, h3.output, h3.size, fun k hk => h3.block k (by omega) fun e => ?_⟩, .inr h2⟩
      have := (h.lt k e.symm).1
      omega
#print axioms run_append_ss
theorem wpList_append_ss {P : Program} {ops : Array Oper} {rest : List Oper} {o : Oper} {a : Act} {Q : Exit → Act → World → Prop} (hgd : o.guard = none) (s x : Operand) (t : TypeId)
    (hop : o.op = .call { callee := .builtin .append, args := #[s, x], argTypes := #[t, t] }) (w : World) (e : TypeId) (i : TypeInfo) (z : Value) (sz B : Nat) (ht : P.underlying t = some (.slice e)) (hi : P.info? e = some i) (hz : i.zero = some z) (hs : i.size = sz) (M : Nat) (hM : M ≤ 8796093022208) (hbb : ∀ m, m ≤ M → (m + m / 4 + 192) * i.bytes ≤ 281474976710656) (hzs : z.cells.size = sz) (hsz : 0 < sz)
    (v : Value) (n : Nat) (cs : List Value) (h : Bs e sz B w v n cs) (ao : Option Addr) (q c : Nat) (qs : List Value) (hsv : a.eval s = v) (hx : a.eval x = .slice ao q c) (ho : Rd w e sz ao q qs) (hB : B ≤ w.heap.size) (hn : n + q ≤ M)
    (hk : ∀ a' c' w', Hid (Rd w' e sz a' (n + q) (cs ++ qs)) → Hid (0 < q → ∃ g off, a' = some ⟨g, off, none⟩ ∧ B ≤ g) → Hid (Below B w w') → wpList P ops Q rest (a.put o.dst (.slice a' (n + q) c')) w') : wpList P ops Q (o :: rest) a w := by
  refine wpList_plain hgd fun K hK => ?_
  obtain ⟨v', w', hr, h2, h3, h4⟩ := run_append_ss (P := P) w t o.type e i z sz B ht hi hz hs M hM hbb hzs hsz v n cs h ao q c qs ho hB hn
  unfold Oper.wp execOp
  simp only [hop, resolve, invoke, builtin, Sem.run_bind, Sem.run_pure, Result.andThen_ok, List.map_toArray, List.map_cons, List.map_nil, hsv, hx, hr]
  obtain ⟨a', c', rfl, _, hrd, _⟩ := h2.read
  refine hK _ _ (hk a' c' w' hrd (fun hp => ?_) h3)
  rcases h4 with h4 | h4
  · omega
  · rcases h4.2 with ⟨hq, _⟩ | ⟨g, cap, cur, hv, hBg, _⟩
    · simp only [Value.slice.injEq] at hq
      omega
    · cases hv
      exact ⟨g, 0, rfl, hBg⟩
#print axioms wpList_append_ss
end Go.Proofs.Ytngkajeghmogmaa.Oct
