/-
  Layer 12 (deps): Closed.
-/
import Derived.Test.YtijkpkcopjkhkaaMissing
namespace Go.Proofs.Ytijkpkcopjkhkaa.Oct
open Go.RowKit

theorem namesK_len (l : List It) : (namesK l).length = l.length ↔ (l.map (·.name)).Nodup := by
  have key : ∀ (l : List It) (ks : List Hs), ks.Nodup → ((l.foldl (fun ks x => addK ks x.name) ks).length ≤ ks.length + l.length ∧ ((l.foldl (fun ks x => addK ks x.name) ks).length = ks.length + l.length ↔ (ks ++ l.map (·.name)).Nodup)) := by
    intro l
    induction l with
    | nil => intro ks h; simp [h]
    | cons it l ih =>
      intro ks h
      have ih2 := ih (addK ks it.name) (addK_nodup h)
      rw [List.foldl_cons]
      by_cases hc : it.name ∈ ks
      · have e : addK ks it.name = ks := by unfold addK; rw [if_pos hc]
        rw [e] at ih2 ⊢
        refine ⟨by simp; omega, ⟨fun hl => by simp at hl; omega, fun hn => ?_⟩⟩
        rw [List.nodup_append] at hn
        exact absurd rfl (hn.2.2 it.name hc it.name (by simp))
      · have e : addK ks it.name = ks ++ [it.name] := by unfold addK; rw [if_neg hc]
        rw [e] at ih2 ⊢
        simp only [List.length_append, List.length_cons, List.length_nil, List.map_cons] at ih2 ⊢
        refine ⟨by omega, ?_⟩
        rw [show ks ++ it.name :: l.map (·.name) = ks ++ [it.name] ++ l.map (·.name) by simp, ← ih2.2]
        constructor <;> intro h <;> omega
  have := (key l [] List.nodup_nil).2
  simpa [namesK] using this
theorem namesK_le (l : List It) : (namesK l).length ≤ l.length := by
  have key : ∀ (l : List It) (ks : List Hs), (l.foldl (fun ks x => addK ks x.name) ks).length ≤ ks.length + l.length := by
    intro l
    induction l with
    | nil => intro ks; simp
    | cons it l ih =>
      intro ks
      have := ih (addK ks it.name)
      have h2 : (addK ks it.name).length ≤ ks.length + 1 := by unfold addK; split <;> simp
      rw [List.foldl_cons]
      simp; omega
  simpa [namesK] using key l []
def ClosedL (len : Nat) (l : List It) : Prop := len ≤ 256 ∧ (l.map (·.name)).Nodup ∧ ∀ x, ¬ missing l x
def ClosedP (w : World) (len : Nat) (l : List It) (e : Ending) (w' : World) : Prop := ∃ b : Bool, e = .returned (.bool b) ∧ Hid (b = true ↔ ClosedL len l) ∧ Hid (Below w.heap.size w w')

set_option maxRecDepth 100000 in
set_option maxHeartbeats 2000000 in
theorem closed_is (w : World) (a : Option Addr) (len cap : Nat) (l : List It) (hi : Its w a len l) (hn : len ≤ 100000) (hm : many l ≤ 90000) :
    Calls Try.prog 20 #[.slice a len cap] w (ClosedP w len l) := by
  have HA : Hid (Its w a len l ∧ len ≤ 100000 ∧ many l ≤ 90000) := ⟨hi, hn, hm⟩
  have q5 : (len : Int) ≤ 100000 := by omega
  clear hi hn hm
  by_cases h256 : 256 < len
  · have hd : decide (256 < len) = true := by simpa using h256
    have HN : Hid (¬ len ≤ 256) := by show ¬ _; omega
    have H23 := isLong_is w a len cap
    rw [hd] at H23
    have H23' : Hid (Calls Try.prog 23 #[.slice a len cap] w fun e w' => e = .returned (.bool true) ∧ w = w') := H23
    clear H23 h256 hd
    go_enter Try.func20, Try.ntmps20
    go_wp2_with fail
    refine H23'.out.mono ?_
    rintro e w' ⟨rfl, rfl⟩
    go_wp2
    go_ret
    exact ⟨false, rfl, ⟨(fun h => by cases h), fun h => absurd h.1 HN.out⟩, Below.refl _ _⟩
  · have hd : decide (256 < len) = false := by simpa using h256
    have HN : Hid (len ≤ 256) := by show _ ≤ _; omega
    have H23 := isLong_is w a len cap
    rw [hd] at H23
    have H23' : Hid (Calls Try.prog 23 #[.slice a len cap] w fun e w' => e = .returned (.bool false) ∧ w = w') := H23
    have HM18 : Hid (∀ W, Below w.heap.size w W → Calls Try.prog 18 #[.slice a len cap] W (SetP W fun x => len ≤ 256 ∧ missing l x)) := fun W hW => missing_is W a len cap l (HA.out.1.below hW) HA.out.2.1 HA.out.2.2
    clear H23 h256 hd
    go_enter Try.func20, Try.ntmps20
    go_wp2_with fail
    refine H23'.out.mono ?_
    rintro e w' ⟨rfl, rfl⟩
    obtain ⟨N, hN⟩ : ∃ N, (namesK l).length = N := ⟨_, rfl⟩
    have HNN : Hid ((namesK l).length = N ∧ N ≤ len) := ⟨hN, by rw [← hN, ← HA.out.1.1]; exact namesK_le l⟩
    have H24 : Hid (Calls Try.prog 24 #[.slice a len cap] w (NamesP w (namesK l))) := namesOf_is w a len cap l HA.out.1 HA.out.2.1
    clear hN
    by_cases hc : N = len
    · have hc1 : ((N : Int) == (len : Int)) = true := by simp; omega
      have HC : Hid (N = len) := hc
      clear hc
      go_wp2_with (go_at_call 24; (with_reducible refine Calls.mono H24.out ?_); rintro e w1 ⟨b1, rfl, H1, HB1⟩; have hlen := H1.out.1.len 3; rw [HNN.out.1] at hlen)
      refine (HM18.out w1 HB1.out).mono ?_
      rintro e w2 ⟨a2, n2, c2, rs, rfl, H2, HB2⟩
      have HNO : Hid ((l.map (·.name)).Nodup) := (namesK_len l).1 (by rw [HNN.out.1, HC.out, HA.out.1.1])
      clear hlen hc1
      by_cases h0 : n2 = 0
      · subst h0
        go_wp2
        go_ret
        refine ⟨true, rfl, ⟨fun _ => ⟨HN.out, HNO.out, fun x hx => ?_⟩, fun _ => rfl⟩, HB1.out.trans (HB2.out.mono HB1.out.size)⟩
        have h1 := (H2.out.2.2.2 x).2 ⟨HN.out, hx⟩
        rw [List.eq_nil_of_length_eq_zero H2.out.1.1] at h1
        cases h1
      · have e0 : ((n2 : Int) == 0) = false := by simp; omega
        have HX : Hid (∃ x, x ∈ rs) := by
          show ∃ x, x ∈ rs
          cases rs with
          | nil => exact absurd H2.out.1.1.symm h0
          | cons x rs => exact ⟨x, by simp⟩
        clear h0
        go_wp2
        go_ret
        refine ⟨false, rfl, ⟨(fun h => by cases h), fun h => ?_⟩, HB1.out.trans (HB2.out.mono HB1.out.size)⟩
        obtain ⟨x, hx⟩ := HX.out
        exact absurd ((H2.out.2.2.2 x).1 hx).2 (h.2.2 x)
    · have hc1 : ((N : Int) == (len : Int)) = false := by simp; omega
      have HC : Hid (N ≠ len) := hc
      clear hc
      go_wp2_with (go_at_call 24; (with_reducible refine Calls.mono H24.out ?_); rintro e w1 ⟨b1, rfl, H1, HB1⟩; have hlen := H1.out.1.len 3; rw [HNN.out.1] at hlen)
      go_ret
      refine ⟨false, rfl, ⟨(fun h => by cases h), fun h => ?_⟩, HB1⟩
      exact absurd (HNN.out.1.symm.trans (((namesK_len l).2 h.2.1).trans HA.out.1.1)) HC.out
#print axioms closed_is
end Go.Proofs.Ytijkpkcopjkhkaa.Oct
