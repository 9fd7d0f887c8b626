/-
  Layer 24 (reply): a text that begins as a reply is printed is read back as that reply (plain facts, the reference).
-/
import Derived.Test.YtkpepfeiimphpaaDoorRda
namespace Go.Proofs.YtkpepfeiimphpaaDoor.Oct
open Go.RowKit
set_option linter.unusedSimpArgs false
set_option linter.unusedVariables false

theorem aft_app (p l : List UInt8) : aftL (p ++ l) p = l ∧ aftB (p ++ l) p = true := by
  have h : aftB (p ++ l) p = true := by unfold aftB; rw [List.isPrefixOf_iff_prefix]; exact ⟨l, rfl⟩
  refine ⟨?_, h⟩
  unfold aftL
  rw [h, if_pos rfl]
  simp
theorem dig_lit {u : Nat} (h : u < 10) : digB (UInt8.ofNat (48 + u)) = true ∧ (UInt8.ofNat (48 + u)).toNat = 48 + u := by
  have e : (UInt8.ofNat (48 + u)).toNat = 48 + u := by rw [UInt8.toNat_ofNat']; omega
  exact ⟨by unfold digB; rw [e]; simp; omega, e⟩
theorem dec_dig : ∀ (m n : Nat), n ≤ m → n ≤ 65536 → (Lib.decDigits n).all digB = true ∧ (Lib.decDigits n).foldl numS 0 = n
  | 0, n, h, _ => by
    obtain rfl : n = 0 := by omega
    rw [dec_small (by omega)]
    exact ⟨rfl, rfl⟩
  | m + 1, n, h, hb => by
    by_cases h1 : n < 10
    · rw [dec_small h1]
      obtain ⟨e1, e2⟩ := dig_lit h1
      refine ⟨by rw [List.all_cons, e1]; rfl, ?_⟩
      show numS 0 (UInt8.ofNat (48 + n)) = n
      unfold numS
      rw [e2, if_neg (by omega)]
      omega
    · obtain ⟨a1, a2⟩ := dec_dig m (n / 10) (by omega) (by omega)
      obtain ⟨e1, e2⟩ := dig_lit (u := n % 10) (by omega)
      rw [dec_big h1, dec_small (u := n % 10) (by omega), List.all_append, List.foldl_append, a1, a2]
      refine ⟨by rw [List.all_cons, e1]; rfl, ?_⟩
      show numS (n / 10) (UInt8.ofNat (48 + n % 10)) = n
      unfold numS
      rw [e2, if_neg (by omega)]
      omega
theorem num_app {n : Nat} (hn : n ≤ 65536) (c : UInt8) (l : List UInt8) (hc : digB c = false) : numN (Lib.decDigits n ++ c :: l) = n ∧ numR (Lib.decDigits n ++ c :: l) = c :: l := by
  obtain ⟨h1, h2⟩ := dec_dig n n (Nat.le_refl _) hn
  have ha : ∀ a ∈ Lib.decDigits n, digB a = true := by simpa [List.all_eq_true] using h1
  refine ⟨?_, ?_⟩
  · unfold numN
    rw [List.takeWhile_append_of_pos ha, List.takeWhile_cons_of_neg (by rw [hc]; decide), List.append_nil, h2]
  · unfold numR
    rw [List.dropWhile_append_of_pos ha, List.dropWhile_cons_of_neg (by rw [hc]; decide)]
abbrev vL : List UInt8 := (⟨#[72, 84, 84, 80, 47, 49, 46, 49, 32]⟩ : BA).data.toList
abbrev crL : List UInt8 := (⟨#[13, 10]⟩ : BA).data.toList
abbrev ctL : List UInt8 := (⟨#[99, 111, 110, 116, 101, 110, 116, 45, 116, 121, 112, 101, 58, 32]⟩ : BA).data.toList
abbrev clL : List UInt8 := (⟨#[99, 111, 110, 116, 101, 110, 116, 45, 108, 101, 110, 103, 116, 104, 58, 32]⟩ : BA).data.toList
abbrev ccL : List UInt8 := (⟨#[99, 111, 110, 110, 101, 99, 116, 105, 111, 110, 58, 32, 99, 108, 111, 115, 101, 13, 10]⟩ : BA).data.toList
def ncr (c : UInt8) : Bool := c != 13
/-- what the reference has read, and what is left: status, type, length, close, rest -/
def rp1 (s : List UInt8) : Nat × List UInt8 :=
  (numN (aftL s vL), aftL (numR (aftL s vL)) ([32] ++ (reasonS (numN (aftL s vL) : Int)).data.toList ++ crL))
def rp2 (s : List UInt8) : List UInt8 × List UInt8 :=
  if aftB s ctL then ((aftL s ctL).takeWhile ncr, aftL ((aftL s ctL).dropWhile ncr) crL) else ([], s)
def rp3 (s : List UInt8) : Nat × List UInt8 := (numN (aftL s clL), aftL (numR (aftL s clL)) crL)
def rp4 (s : List UInt8) : Bool × List UInt8 := (aftB s ccL, aftL (aftL s ccL) crL)
def rpS (s : List UInt8) : Nat := (rp1 s).1
def rpT (s : List UInt8) : List UInt8 := (rp2 (rp1 s).2).1
def rpN (s : List UInt8) : Nat := (rp3 (rp2 (rp1 s).2).2).1
def rpC (s : List UInt8) : Bool := (rp4 (rp3 (rp2 (rp1 s).2).2).2).1
def rpR (s : List UInt8) : List UInt8 := (rp4 (rp3 (rp2 (rp1 s).2).2).2).2
theorem rp1_app {st : Nat} (h : st ≤ 999) (l : List UInt8) : rp1 (vL ++ (Lib.decDigits st ++ ([32] ++ ((reasonS (st : Int)).data.toList ++ (crL ++ l))))) = (st, l) := by
  have e1 := (aft_app vL (Lib.decDigits st ++ ([32] ++ ((reasonS (st : Int)).data.toList ++ (crL ++ l))))).1
  obtain ⟨e2, e3⟩ := num_app (n := st) (by omega) 32 ((reasonS (st : Int)).data.toList ++ (crL ++ l)) (by decide)
  have e4 := (aft_app ([32] ++ (reasonS (st : Int)).data.toList ++ crL) l).1
  unfold rp1
  rw [e1, show [32] ++ ((reasonS (st : Int)).data.toList ++ (crL ++ l)) = 32 :: ((reasonS (st : Int)).data.toList ++ (crL ++ l)) from rfl, e2, e3]
  rw [show 32 :: ((reasonS (st : Int)).data.toList ++ (crL ++ l)) = ([32] ++ (reasonS (st : Int)).data.toList ++ crL) ++ l by simp, e4]
theorem okc_ncr {c : UInt8} (h : okc c = true) : ncr c = true := by
  unfold ncr
  rw [bne_iff_ne]
  rintro rfl
  exact absurd h (by decide)
theorem rp2_app {ty : List UInt8} (h : ty.all okc = true) (l : List UInt8) (hl : aftB l ctL = false) : rp2 ((if ty = [] then [] else ctL ++ (ty ++ crL)) ++ l) = (ty, l) := by
  by_cases h0 : ty = []
  · subst h0
    rw [if_pos rfl, List.nil_append]
    unfold rp2
    rw [hl]
    rfl
  · rw [if_neg h0]
    have ha : ∀ a ∈ ty, ncr a = true := by
      intro a k
      exact okc_ncr ((List.all_eq_true.1 h) a k)
    obtain ⟨e1, e2⟩ := aft_app ctL (ty ++ (crL ++ l))
    have e3 : (ctL ++ (ty ++ crL)) ++ l = ctL ++ (ty ++ (crL ++ l)) := by simp only [List.append_assoc]
    rw [e3]
    unfold rp2
    rw [e2, e1, if_pos rfl, List.takeWhile_append_of_pos ha, List.dropWhile_append_of_pos ha]
    rw [show (crL ++ l).takeWhile ncr = [] from rfl, show (crL ++ l).dropWhile ncr = crL ++ l from rfl, (aft_app crL l).1, List.append_nil]
theorem rp3_app {n : Nat} (h : n ≤ 65536) (l : List UInt8) : rp3 (clL ++ (Lib.decDigits n ++ (crL ++ l))) = (n, l) := by
  have e1 := (aft_app clL (Lib.decDigits n ++ (crL ++ l))).1
  obtain ⟨e2, e3⟩ := num_app h 13 (10 :: l) (by decide)
  unfold rp3
  rw [e1, show crL ++ l = 13 :: 10 :: l from rfl, e2, e3, show 13 :: 10 :: l = crL ++ l from rfl, (aft_app crL l).1]
theorem rp4_app (cl : Bool) (l : List UInt8) : rp4 ((if cl then ccL else []) ++ (crL ++ l)) = (cl, l) := by
  unfold rp4
  cases cl
  · have e : aftB (crL ++ l) ccL = false := rfl
    rw [if_neg (by decide), List.nil_append, e]
    have e2 : aftL (crL ++ l) ccL = crL ++ l := by unfold aftL; rw [e]; rfl
    rw [e2, (aft_app crL l).1]
  · rw [if_pos rfl, (aft_app ccL _).1, (aft_app ccL _).2, (aft_app crL l).1]
/-- a text that begins with a printed reply: what the reference reads of it -/
theorem rp_of {st n : Nat} {ty : List UInt8} {cl : Bool} (h1 : st ≤ 999) (h2 : ty.all okc = true) (h3 : n ≤ 65536) (l : List UInt8) : rpS (headL st ty n cl ++ l) = st ∧ rpT (headL st ty n cl ++ l) = ty ∧ rpN (headL st ty n cl ++ l) = n ∧ rpC (headL st ty n cl ++ l) = cl ∧ rpR (headL st ty n cl ++ l) = l := by
  obtain ⟨X, hX⟩ : ∃ X, X = clL ++ (Lib.decDigits n ++ (crL ++ ((if cl then ccL else []) ++ (crL ++ l)))) := ⟨_, rfl⟩
  have eH : headL st ty n cl ++ l = vL ++ (Lib.decDigits st ++ ([32] ++ ((reasonS (st : Int)).data.toList ++ (crL ++ ((if ty = [] then [] else ctL ++ (ty ++ crL)) ++ X))))) := by
    rw [hX]
    unfold headL
    simp only [List.append_assoc]
  have a1 := rp1_app h1 ((if ty = [] then [] else ctL ++ (ty ++ crL)) ++ X)
  have a2 := rp2_app h2 X (by rw [hX]; rfl)
  have a3 := rp3_app h3 ((if cl then ccL else []) ++ (crL ++ l))
  rw [← hX] at a3
  have a4 := rp4_app cl l
  unfold rpS rpT rpN rpC rpR
  rw [eH, a1]
  dsimp only
  rw [a2]
  dsimp only
  rw [a3]
  dsimp only
  rw [a4]
  exact ⟨rfl, rfl, rfl, rfl, rfl⟩
#print axioms rp_of
end Go.Proofs.YtkpepfeiimphpaaDoor.Oct
