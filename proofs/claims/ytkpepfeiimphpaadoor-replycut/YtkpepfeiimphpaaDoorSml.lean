/-
  Layer 24 (reply): Decimal, Reason of the document, HasPrefix, HasSuffix, isType, typed.
-/
import Derived.Test.YtkpepfeiimphpaaDoorItoa
namespace Go.Proofs.YtkpepfeiimphpaaDoor.Oct
open Go.RowKit
set_option linter.unusedSimpArgs false
set_option linter.unusedVariables false

abbrev iv (n : Int) : Value := .int .i64 n
abbrev BA := ByteArray
theorem toList_d (s : BA) : s.toList = s.data.toList := ByteArray.toList_eq s
theorem ba_ext {s t : BA} (h : s.data.toList = t.data.toList) : s = t := by
  have : s.data = t.data := Array.toList_inj.1 h
  cases s; cases t; simpa using this
theorem below_al (w : World) (o : Obj) : Below w.heap.size w (w.alloc o) := (Below.refl _ w).alloc (Nat.le_refl _) o
theorem below_tr {w w1 w2 : World} (h : Below w.heap.size w w1) (k : Below w1.heap.size w1 w2) : Below w.heap.size w w2 := h.trans (k.mono h.size)
theorem dec_small {u : Nat} (h : u < 10) : Lib.decDigits u = [UInt8.ofNat (48 + u)] := by rw [Lib.decDigits, dif_pos h]
theorem dec_big {u : Nat} (h : ¬ u < 10) : Lib.decDigits u = Lib.decDigits (u / 10) ++ Lib.decDigits (u % 10) := by
  rw [Lib.decDigits, dif_neg h, dec_small (u := u % 10) (by omega)]
theorem dec_len : ∀ (m u : Nat), u ≤ m → (Lib.decDigits u).length ≤ u + 1
  | 0, u, h => by rw [dec_small (by omega)]; simp
  | m + 1, u, h => by
    by_cases h1 : u < 10
    · rw [dec_small h1]; simp
    · rw [dec_big h1, List.length_append, dec_small (u := u % 10) (by omega)]
      have := dec_len m (u / 10) (by omega)
      simp
      omega
set_option maxRecDepth 100000 in
set_option maxHeartbeats 1000000 in
theorem dec_is (m : Nat) : ∀ (n : Nat), n ≤ m → n ≤ 1000000 → ∀ w : World, Calls Tryd.prog 25 #[iv (n : Int)] w fun e w' => e = .returned (.string ⟨(Lib.decDigits n).toArray⟩) ∧ w = w' := by
  induction m with
  | zero =>
    intro n hn _ w
    obtain rfl : n = 0 := by omega
    go_enter Tryd.func25, Tryd.ntmps25
    go_wp2
    go_ret
    exact ⟨by rw [dec_small (by omega)]; rfl, rfl⟩
  | succ m ih =>
    intro n hn hb w
    by_cases h : n < 10
    · have hc : n = 0 ∨ n = 1 ∨ n = 2 ∨ n = 3 ∨ n = 4 ∨ n = 5 ∨ n = 6 ∨ n = 7 ∨ n = 8 ∨ n = 9 := by omega
      clear h hn hb ih
      rcases hc with rfl | rfl | rfl | rfl | rfl | rfl | rfl | rfl | rfl | rfl <;> (
        go_enter Tryd.func25, Tryd.ntmps25
        go_wp2
        go_ret
        exact ⟨by rw [dec_small (by omega)]; rfl, rfl⟩)
    · have H1 := ih (n / 10) (by omega) (by omega) w
      have H2 := ih (n % 10) (by omega) (by omega) w
      have hq : (n : Int).tdiv 10 = ((n / 10 : Nat) : Int) := by rw [Int.tdiv_eq_ediv_of_nonneg (by omega)]; omega
      have hr : (n : Int).tmod 10 = ((n % 10 : Nat) : Int) := by rw [Int.tmod_eq_emod_of_nonneg (by omega)]; omega
      have hr2 : (n : Int) % 10 = ((n % 10 : Nat) : Int) := by omega
      have hq2 : (n : Int) / 10 = ((n / 10 : Nat) : Int) := by omega
      have HD : Hid (Lib.decDigits n = Lib.decDigits (n / 10) ++ Lib.decDigits (n % 10)) := dec_big h
      obtain ⟨a, ha⟩ : ∃ a, n / 10 = a := ⟨_, rfl⟩
      obtain ⟨b, hb2⟩ : ∃ b, n % 10 = b := ⟨_, rfl⟩
      obtain ⟨D, hD⟩ : ∃ D, Lib.decDigits n = D := ⟨_, rfl⟩
      rw [ha] at H1 hq hq2 HD
      rw [hb2] at H2 hr hr2 HD
      rw [hD] at HD ⊢
      obtain ⟨s1, hs1⟩ : ∃ s : BA, s = ⟨(Lib.decDigits a).toArray⟩ := ⟨_, rfl⟩
      obtain ⟨s2, hs2⟩ : ∃ s : BA, s = ⟨(Lib.decDigits b).toArray⟩ := ⟨_, rfl⟩
      have HS : Hid (s1 ++ s2 = ⟨D.toArray⟩) := by
        refine ba_ext ?_
        rw [HD.out, hs1, hs2]
        simp
      have z1 : s1.size ≤ 2000000 := by rw [hs1]; have := dec_len a a (Nat.le_refl _); show (Lib.decDigits a).toArray.size ≤ _; rw [List.size_toArray]; omega
      have z2 : s2.size ≤ 2000000 := by rw [hs2]; have := dec_len b b (Nat.le_refl _); show (Lib.decDigits b).toArray.size ≤ _; rw [List.size_toArray]; omega
      rw [← hs1] at H1
      rw [← hs2] at H2
      have q1 : (10 : Int) ≤ (n : Int) := by omega
      have q2 : (n : Int) ≤ 1000000 := by omega
      clear h hn hb ih ha hb2 hD hs1 hs2 HD
      go_enter Tryd.func25, Tryd.ntmps25
      go_wp2_with fail
      refine H1.mono ?_
      rintro e W ⟨rfl, rfl⟩
      clear H1
      go_wp2_with fail
      with_reducible refine H2.mono ?_
      rintro e W ⟨rfl, rfl⟩
      clear H2
      go_wp2
      go_ret
      exact ⟨by rw [← HS.out]; rfl, rfl⟩
#print axioms dec_is
/-- the reasons -/
def tabR : List (Int × BA) := [(200, ⟨#[79, 75]⟩), (201, ⟨#[67, 114, 101, 97, 116, 101, 100]⟩), (400, ⟨#[66, 97, 100, 32, 82, 101, 113, 117, 101, 115, 116]⟩), (401, ⟨#[85, 110, 97, 117, 116, 104, 111, 114, 105, 122, 101, 100]⟩), (403, ⟨#[70, 111, 114, 98, 105, 100, 100, 101, 110]⟩), (404, ⟨#[78, 111, 116, 32, 70, 111, 117, 110, 100]⟩), (405, ⟨#[77, 101, 116, 104, 111, 100, 32, 78, 111, 116, 32, 65, 108, 108, 111, 119, 101, 100]⟩), (409, ⟨#[67, 111, 110, 102, 108, 105, 99, 116]⟩), (413, ⟨#[67, 111, 110, 116, 101, 110, 116, 32, 84, 111, 111, 32, 76, 97, 114, 103, 101]⟩), (422, ⟨#[85, 110, 112, 114, 111, 99, 101, 115, 115, 97, 98, 108, 101, 32, 67, 111, 110, 116, 101, 110, 116]⟩), (429, ⟨#[84, 111, 111, 32, 77, 97, 110, 121, 32, 82, 101, 113, 117, 101, 115, 116, 115]⟩), (431, ⟨#[82, 101, 113, 117, 101, 115, 116, 32, 72, 101, 97, 100, 101, 114, 32, 70, 105, 101, 108, 100, 115, 32, 84, 111, 111, 32, 76, 97, 114, 103, 101]⟩), (500, ⟨#[73, 110, 116, 101, 114, 110, 97, 108, 32, 83, 101, 114, 118, 101, 114, 32, 69, 114, 114, 111, 114]⟩), (507, ⟨#[73, 110, 115, 117, 102, 102, 105, 99, 105, 101, 110, 116, 32, 83, 116, 111, 114, 97, 103, 101]⟩)]
def reasonS (n : Int) : BA := ((tabR.find? fun r => r.1 == n).map (·.2)).getD ⟨#[83, 116, 97, 116, 117, 115]⟩
theorem reason_none {n : Int} (h : ∀ r ∈ tabR, r.1 ≠ n) : reasonS n = ⟨#[83, 116, 97, 116, 117, 115]⟩ := by
  unfold reasonS
  rw [List.find?_eq_none.2]
  · rfl
  · intro r hr
    simpa using h r hr
set_option maxRecDepth 100000 in
set_option maxHeartbeats 1000000 in
theorem rreason_is (n : Int) (w : World) : Calls Tryd.prog 11 #[iv n] w fun e w' => e = .returned (.string (reasonS n)) ∧ w = w' := by
  by_cases h200 : n = 200
  · subst h200
    rw [show reasonS 200 = ⟨#[79, 75]⟩ from rfl]
    go_enter Tryd.func11, Tryd.ntmps11
    go_wp2
    go_ret
    exact ⟨rfl, rfl⟩
  have e200 : (n == 200) = false := by simpa using h200
  by_cases h201 : n = 201
  · subst h201
    rw [show reasonS 201 = ⟨#[67, 114, 101, 97, 116, 101, 100]⟩ from rfl]
    go_enter Tryd.func11, Tryd.ntmps11
    go_wp2
    go_ret
    exact ⟨rfl, rfl⟩
  have e201 : (n == 201) = false := by simpa using h201
  by_cases h400 : n = 400
  · subst h400
    rw [show reasonS 400 = ⟨#[66, 97, 100, 32, 82, 101, 113, 117, 101, 115, 116]⟩ from rfl]
    go_enter Tryd.func11, Tryd.ntmps11
    go_wp2
    go_ret
    exact ⟨rfl, rfl⟩
  have e400 : (n == 400) = false := by simpa using h400
  by_cases h401 : n = 401
  · subst h401
    rw [show reasonS 401 = ⟨#[85, 110, 97, 117, 116, 104, 111, 114, 105, 122, 101, 100]⟩ from rfl]
    go_enter Tryd.func11, Tryd.ntmps11
    go_wp2
    go_ret
    exact ⟨rfl, rfl⟩
  have e401 : (n == 401) = false := by simpa using h401
  by_cases h403 : n = 403
  · subst h403
    rw [show reasonS 403 = ⟨#[70, 111, 114, 98, 105, 100, 100, 101, 110]⟩ from rfl]
    go_enter Tryd.func11, Tryd.ntmps11
    go_wp2
    go_ret
    exact ⟨rfl, rfl⟩
  have e403 : (n == 403) = false := by simpa using h403
  by_cases h404 : n = 404
  · subst h404
    rw [show reasonS 404 = ⟨#[78, 111, 116, 32, 70, 111, 117, 110, 100]⟩ from rfl]
    go_enter Tryd.func11, Tryd.ntmps11
    go_wp2
    go_ret
    exact ⟨rfl, rfl⟩
  have e404 : (n == 404) = false := by simpa using h404
  by_cases h405 : n = 405
  · subst h405
    rw [show reasonS 405 = ⟨#[77, 101, 116, 104, 111, 100, 32, 78, 111, 116, 32, 65, 108, 108, 111, 119, 101, 100]⟩ from rfl]
    go_enter Tryd.func11, Tryd.ntmps11
    go_wp2
    go_ret
    exact ⟨rfl, rfl⟩
  have e405 : (n == 405) = false := by simpa using h405
  by_cases h409 : n = 409
  · subst h409
    rw [show reasonS 409 = ⟨#[67, 111, 110, 102, 108, 105, 99, 116]⟩ from rfl]
    go_enter Tryd.func11, Tryd.ntmps11
    go_wp2
    go_ret
    exact ⟨rfl, rfl⟩
  have e409 : (n == 409) = false := by simpa using h409
  by_cases h413 : n = 413
  · subst h413
    rw [show reasonS 413 = ⟨#[67, 111, 110, 116, 101, 110, 116, 32, 84, 111, 111, 32, 76, 97, 114, 103, 101]⟩ from rfl]
    go_enter Tryd.func11, Tryd.ntmps11
    go_wp2
    go_ret
    exact ⟨rfl, rfl⟩
  have e413 : (n == 413) = false := by simpa using h413
  by_cases h422 : n = 422
  · subst h422
    rw [show reasonS 422 = ⟨#[85, 110, 112, 114, 111, 99, 101, 115, 115, 97, 98, 108, 101, 32, 67, 111, 110, 116, 101, 110, 116]⟩ from rfl]
    go_enter Tryd.func11, Tryd.ntmps11
    go_wp2
    go_ret
    exact ⟨rfl, rfl⟩
  have e422 : (n == 422) = false := by simpa using h422
  by_cases h429 : n = 429
  · subst h429
    rw [show reasonS 429 = ⟨#[84, 111, 111, 32, 77, 97, 110, 121, 32, 82, 101, 113, 117, 101, 115, 116, 115]⟩ from rfl]
    go_enter Tryd.func11, Tryd.ntmps11
    go_wp2
    go_ret
    exact ⟨rfl, rfl⟩
  have e429 : (n == 429) = false := by simpa using h429
  by_cases h431 : n = 431
  · subst h431
    rw [show reasonS 431 = ⟨#[82, 101, 113, 117, 101, 115, 116, 32, 72, 101, 97, 100, 101, 114, 32, 70, 105, 101, 108, 100, 115, 32, 84, 111, 111, 32, 76, 97, 114, 103, 101]⟩ from rfl]
    go_enter Tryd.func11, Tryd.ntmps11
    go_wp2
    go_ret
    exact ⟨rfl, rfl⟩
  have e431 : (n == 431) = false := by simpa using h431
  by_cases h500 : n = 500
  · subst h500
    rw [show reasonS 500 = ⟨#[73, 110, 116, 101, 114, 110, 97, 108, 32, 83, 101, 114, 118, 101, 114, 32, 69, 114, 114, 111, 114]⟩ from rfl]
    go_enter Tryd.func11, Tryd.ntmps11
    go_wp2
    go_ret
    exact ⟨rfl, rfl⟩
  have e500 : (n == 500) = false := by simpa using h500
  by_cases h507 : n = 507
  · subst h507
    rw [show reasonS 507 = ⟨#[73, 110, 115, 117, 102, 102, 105, 99, 105, 101, 110, 116, 32, 83, 116, 111, 114, 97, 103, 101]⟩ from rfl]
    go_enter Tryd.func11, Tryd.ntmps11
    go_wp2
    go_ret
    exact ⟨rfl, rfl⟩
  have e507 : (n == 507) = false := by simpa using h507
  rw [reason_none (by intro r hr; simp [tabR] at hr; rcases hr with rfl | rfl | rfl | rfl | rfl | rfl | rfl | rfl | rfl | rfl | rfl | rfl | rfl | rfl <;> intro e <;> simp at e <;> omega)]
  clear h200 h201 h400 h401 h403 h404 h405 h409 h413 h422 h429 h431 h500 h507
  go_enter Tryd.func11, Tryd.ntmps11
  go_wp2
  go_ret
  exact ⟨rfl, rfl⟩
#print axioms rreason_is
end Go.Proofs.YtkpepfeiimphpaaDoor.Oct
