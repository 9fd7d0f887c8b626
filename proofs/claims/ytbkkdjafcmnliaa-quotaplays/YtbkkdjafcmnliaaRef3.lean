/-
  Layer 18 (quota): the reference's Last and Hit.
-/
import Derived.Test.YtbkkdjafcmnliaaRef2
namespace Go.Proofs.Ytbkkdjafcmnliaa.Oct
open Go.RowKit

/-- what a meter knows of the times that were counted -/
def Hx (M : Mt) (xs : List Int) : Prop := Hts M xs ∧ (xs = [] → M.l = 0) ∧ ∀ x, xs.getLast? = some x → x / M.n = M.l
theorem Hx.nil {M : Mt} (hl : M.l = 0) (hh : M.h = 0) : Hx M [] := ⟨⟨by simp, by rw [hh]; rfl⟩, fun _ => hl, by simp⟩
theorem Hx.hit {M : Mt} {xs : List Int} (h : Hx M xs) {t : Int} (h0 : 0 ≤ t) (hm : t ≤ 9223372036854775807) (h1 : M.l ≤ t / M.n) : Hx { M with l := t / M.n, h := M.hitsOf t + 1 } (xs ++ [t]) :=
  ⟨h.1.hit h0 hm h1, fun e => by simp at e, fun x hx => by simp at hx; rw [hx]⟩
theorem Hx.used {M : Mt} {xs : List Int} (h : Hx M xs) (b u : Int) : Hx { M with b := b, u := u } xs := h
/-- the last time -/
theorem snoc_of {xs : List Int} {k : Nat} (h : xs.length = k + 1) : ∃ ys x, xs = ys ++ [x] ∧ ys.length = k := by
  have hne : xs ≠ [] := fun e => by subst e; simp at h
  exact ⟨xs.dropLast, xs.getLast hne, (List.dropLast_concat_getLast hne).symm, by simp [h]⟩

section
variable {M : Mt}
set_option maxRecDepth 100000 in
set_option maxHeartbeats 400000 in
theorem rlast_is {xs : List Int} {a : Option Addr} {m cap : Nat} {w : World} (hr : Rd w 3 1 a m (xs.map iv)) (hm : m ≤ 100000) (hn : 1 ≤ M.n) (hx : Hx M xs) (t : Int) (ht : t ≤ 9223372036854775807) :
    Calls Try.prog 21 #[rv M a m cap, iv t] w fun e w' => e = .returned (iv (M.hitsOf t)) ∧ Below w.heap.size w w' := by
  obtain ⟨B, R, n, U, L, H⟩ := M
  dsimp only at hn
  have hml : xs.length = m := by have := hr.1; simpa using this
  have HB : Hid (∀ o k, Below w.heap.size w ((w.alloc o).drewN k)) := fun o k => (below_al w o).trans ⟨rfl, rfl, rfl, Nat.le_refl _, fun _ _ => rfl⟩
  cases m with
  | zero =>
    have e : xs = [] := List.length_eq_zero_iff.1 hml
    subst e
    have e2 : Mt.hitsOf ⟨B, R, n, U, L, H⟩ t = 0 := by
      unfold Mt.hitsOf
      have := hx.1.2
      simp at this
      rw [this]
      split <;> simp
    rw [e2]
    clear hr hm hn hx ht hml e2
    go_enter Try.func21, Try.ntmps21
    go_wp2_with fail
    go_quiet (fail)
    go_wp2
    go_ret
    exact ⟨rfl, HB.out _ _⟩
  | succ k =>
    obtain ⟨ys, x, rfl, hys⟩ := snoc_of hml
    have hx0 := (hx.1.1 x (by simp)).1
    have hxl : x / n = L := hx.2.2 x (by simp)
    obtain ⟨xg, xo, rfl, hrt, hxr⟩ := hr.2.2 (by omega)
    have cx : ∀ o, (w.alloc o).cell? ⟨xg, xo + k, none⟩ = some (iv x) := fun o => ((below_al w o).cell (p := ⟨xg, xo + k, none⟩) hrt.lt).trans (hxr k _ (by simp [← hys]))
    obtain ⟨g0, hg0⟩ : ∃ g0, g0 = w.heap.size := ⟨_, rfl⟩
    obtain ⟨m, hmk⟩ : ∃ m, k + 1 = m := ⟨_, rfl⟩
    rw [hmk] at hr hm hml ⊢
    have q2 : ((m : Int) == 0) = false := by simp; omega
    have q3 : IntKind.i64.wrap ((m : Int) - 1) = (k : Int) := by rw [wrapi (by omega) (by omega)]; omega
    have q4 : (k : Int) < (m : Int) := by omega
    have HMK : Hid (k + 1 = m) := hmk
    clear hmk
    obtain ⟨W1, hW1⟩ : ∃ W1, W1 = w.alloc (.cells #[iv B, iv R, iv n, iv U, .slice (some ⟨xg, xo, none⟩) m cap] 31) := ⟨_, rfl⟩
    have cx1 : W1.cell? ⟨xg, xo + k, none⟩ = some (iv x) := by rw [hW1]; exact cx _
    have cn : W1.cell? ⟨g0, 2, none⟩ = some (iv n) := by rw [hW1, hg0]; exact (Blk.new w #[iv B, iv R, iv n, iv U, .slice (some ⟨xg, xo, none⟩) m cap] 31).cell rfl
    have cs : W1.cell? ⟨g0, 4, none⟩ = some (.slice (some ⟨xg, xo, none⟩) m cap) := by rw [hW1, hg0]; exact (Blk.new w #[iv B, iv R, iv n, iv U, .slice (some ⟨xg, xo, none⟩) m cap] 31).cell rfl
    have c01 : W1.cell? ⟨g0, 0, none⟩ = some (iv B) := by rw [hW1, hg0]; exact (Blk.new w #[iv B, iv R, iv n, iv U, .slice (some ⟨xg, xo, none⟩) m cap] 31).cell rfl
    have c11 : W1.cell? ⟨g0, 1, none⟩ = some (iv R) := by rw [hW1, hg0]; exact (Blk.new w #[iv B, iv R, iv n, iv U, .slice (some ⟨xg, xo, none⟩) m cap] 31).cell rfl
    have c31 : W1.cell? ⟨g0, 3, none⟩ = some (iv U) := by rw [hW1, hg0]; exact (Blk.new w #[iv B, iv R, iv n, iv U, .slice (some ⟨xg, xo, none⟩) m cap] 31).cell rfl
    have HB1 : Hid (∀ k, Below w.heap.size w (W1.drewN k)) := fun k => by rw [hW1]; exact HB.out _ k
    clear cx
    by_cases h0 : t < 0
    · have e2 : Mt.hitsOf ⟨B, R, n, U, L, H⟩ t = 0 := by unfold Mt.hitsOf; rw [if_pos h0]
      rw [e2]
      clear hr hm hn hx ht hml e2 hx0 hxl hrt hxr
      go_enter Try.func21, Try.ntmps21
      go_wp2_with fail
      rw [← hW1, ← hg0]
      clear hW1 hg0
      go_quiet (fail)
      go_wp2
      go_ret
      exact ⟨rfl, HB1.out _⟩
    · have hq1 := quo_is hx0.1 hx0.2 hn
      have hq2 := quo_is (by omega : 0 ≤ t) ht hn
      have HT : Hid (t ≤ 9223372036854775807) := ht
      have HXS : Hid (∀ y ∈ ys ++ [x], 0 ≤ y ∧ y ≤ 9223372036854775807) := fun y hy => (hx.1.1 y hy).1
      have q5 : (n == 0) = false := by simp; omega
      have q8 : decide (t < 0) = false := by simp; omega
      have HRD : Hid (∀ k2, Rd (W1.drewN k2) 3 1 (some ⟨xg, xo, none⟩) m ((ys ++ [x]).map iv)) := fun k2 => hr.below (HB1.out k2) (Nat.le_refl _)
      by_cases he : x / n = t / n
      · have e2 : Mt.hitsOf ⟨B, R, n, U, L, H⟩ t = (cnt n t (ys ++ [x]) : Nat) := hx.1.of (by omega) (by show L ≤ t / n; rw [← he, hxl]; exact Int.le_refl _)
        have q6 : (wrap64 (x.tdiv n) == wrap64 (t.tdiv n)) = true := by rw [hq1, hq2, he]; simp
        have q7 : (wrap64 (x.tdiv n) != wrap64 (t.tdiv n)) = false := by rw [hq1, hq2, he]; simp
        rw [e2]
        have HC : Hid (∀ k2, Calls Try.prog 26 #[rv ⟨B, R, n, U, L, H⟩ (some ⟨xg, xo, none⟩) m cap, iv t] (W1.drewN k2) fun e w' => e = .returned (iv (cnt n t (ys ++ [x]) : Nat)) ∧ Below w.heap.size w w') := fun k2 =>
          (rof_is (HRD.out k2) hm hn HXS.out t HT.out).mono fun _ _ ⟨h1, h2⟩ => ⟨h1, (HB1.out k2).trans (h2.mono (HB1.out k2).size)⟩
        generalize cnt n t (ys ++ [x]) = c at HC ⊢
        clear hr hm hx ht hml e2 hx0 hxl hrt hxr hq1 hq2 he
        go_enter Try.func21, Try.ntmps21
        go_wp2_with fail
        rw [← hW1, ← hg0]
        clear hW1 hg0
        go_quiet (fail)
        go_wp2_with (go_at_call 26; refine (HC.out _).mono ?_; rintro e w3 ⟨rfl, hb3⟩)
        go_ret
        exact ⟨rfl, hb3⟩
      · have e2 : Mt.hitsOf ⟨B, R, n, U, L, H⟩ t = 0 := by
          unfold Mt.hitsOf
          rw [if_neg h0, if_neg (fun e => he (by dsimp only at e; rw [hxl, e]))]
        have q6 : (wrap64 (x.tdiv n) == wrap64 (t.tdiv n)) = false := by rw [hq1, hq2]; simpa using he
        have q7 : (wrap64 (x.tdiv n) != wrap64 (t.tdiv n)) = true := by rw [hq1, hq2]; simpa using he
        rw [e2]
        clear hr hm hx ht hml e2 hx0 hxl hrt hxr hq1 hq2 he
        go_enter Try.func21, Try.ntmps21
        go_wp2_with fail
        rw [← hW1, ← hg0]
        clear hW1 hg0
        go_quiet (fail)
        go_wp2
        go_ret
        exact ⟨rfl, HB1.out _⟩
end
#print axioms rlast_is
end Go.Proofs.Ytbkkdjafcmnliaa.Oct
