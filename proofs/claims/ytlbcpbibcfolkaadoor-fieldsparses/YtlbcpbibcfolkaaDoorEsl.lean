/-
  Layer 22 (fields): FieldsEscapes.
-/
import Derived.Test.YtlbcpbibcfolkaaDoorReu
namespace Go.Proofs.YtlbcpbibcfolkaaDoor.Oct
open Go.RowKit
set_option linter.unusedSimpArgs false
set_option linter.unusedVariables false

set_option maxRecDepth 100000 in
set_option maxHeartbeats 1000000 in
theorem escapes_small (s : BA) (hs : s.size ≤ 20000) (w : World) (hE : ET w) (T : BA) (A E : Int) (X : Value) (hr : runA s.data.toList = .tuple #[.string T, iv A, iv E])
    (hu : ansE (.string (if (upTo [] s.data.toList).2.2 = 0 then ⟨(upTo [] s.data.toList).1.toArray⟩ else e0)) (upTo [] s.data.toList).2.1 (upTo [] s.data.toList).2.2 = .tuple #[.string T, X])
    (hf : ∀ V, Calls Tryd.prog 14 #[X, iv A, iv E] V fun e w' => e = .returned (.bool true) ∧ Below V.heap.size V w') : Calls Tryd.prog 3 #[.string s] w fun e w' => e = .returned (.bool true) ∧ Below w.heap.size w w' := by
  have HE : Hid (ET w) := hE
  have q1 : (s.size : Int) ≤ 20000 := by omega
  obtain ⟨S, hS⟩ : ∃ S : BA, ⟨(escL s.data.toList).toArray⟩ = S := ⟨_, rfl⟩
  have C10 : Hid (∀ V, Calls Tryd.prog 10 #[.string s] V fun e w' => e = .returned (.tuple #[.string T, iv A, iv E]) ∧ Below V.heap.size V w') := fun V => runesc_is s (by omega) V _ hr
  have C11 : Hid (∀ V, ET V → Calls Tryd.prog 11 #[.string s] V fun e w' => e = .returned (.tuple #[.string T, X]) ∧ Below V.heap.size V w') := fun V hV => unesc_is s (by omega) V hV _ hu.symm
  have C12 : Hid (∀ V, Calls Tryd.prog 12 #[.string s] V fun e w' => e = .returned (.string S) ∧ Below V.heap.size V w') := fun V => by rw [← hS]; exact escape_is s (by omega) V
  have C13 : Hid (∀ V, Calls Tryd.prog 13 #[.string s] V fun e w' => e = .returned (.string S) ∧ Below V.heap.size V w') := fun V => by rw [← hS]; exact rescape_is s (by omega) V
  have C14 : Hid (∀ V, Calls Tryd.prog 14 #[X, iv A, iv E] V fun e w' => e = .returned (.bool true) ∧ Below V.heap.size V w') := hf
  have e1 : (S.toList == S.toList) = true := beq_self_eq_true _
  have e2 : (T.toList == T.toList) = true := beq_self_eq_true _
  clear hs hE hr hu hf hS
  go_enter Tryd.func3, Tryd.ntmps3
  go_wp2_with fail
  refine (C10.out w).mono ?_
  rintro e W1 ⟨rfl, hb1⟩
  have H1 : Hid (Below w.heap.size w W1) := hb1
  clear hb1
  go_wp2_with fail
  refine (C11.out W1 (HE.out.below H1.out)).mono ?_
  rintro e W2 ⟨rfl, hb2⟩
  have H2 : Hid (Below w.heap.size w W2) := below_tr H1.out hb2
  clear hb2
  go_wp2_with fail
  refine (C12.out W2).mono ?_
  rintro e W3 ⟨rfl, hb3⟩
  have H3 : Hid (Below w.heap.size w W3) := below_tr H2.out hb3
  clear hb3
  go_wp2_with fail
  refine (C13.out W3).mono ?_
  rintro e W4 ⟨rfl, hb4⟩
  have H4 : Hid (Below w.heap.size w W4) := below_tr H3.out hb4
  clear hb4
  go_wp2_with fail
  refine (C14.out W4).mono ?_
  rintro e W5 ⟨rfl, hb5⟩
  have H5 : Hid (Below w.heap.size w W5) := below_tr H4.out hb5
  clear hb5
  go_wp2_with fail
  refine (lives_is W5 (HE.out.below H5.out)).mono ?_
  rintro e W6 ⟨rfl, hb6⟩
  have H6 : Hid (Below w.heap.size w W6) := below_tr H5.out hb6
  clear hb6
  go_wp2
  go_ret
  exact ⟨rfl, H6.out⟩
#print axioms escapes_small
set_option maxRecDepth 100000 in
theorem escapes_law (s : BA) (hs : s.size ≤ 140737488355328) (w : World) (hE : ET w) : Calls Tryd.prog 3 #[.string s] w fun e w' => e = .returned (.bool true) ∧ Below w.heap.size w w' := by
  by_cases hb : 20000 < s.size
  · have HE : Hid (ET w) := hE
    have q1 : (s.size : Int) ≤ 140737488355328 := by omega
    have q2 : (20000 : Int) < (s.size : Int) := by omega
    clear hb hs hE
    go_enter Tryd.func3, Tryd.ntmps3
    go_wp2_with fail
    refine (lives_is w HE.out).mono ?_
    rintro e W ⟨rfl, hb⟩
    have HB : Hid (Below w.heap.size w W) := hb
    clear hb
    go_wp2
    go_ret
    exact ⟨rfl, HB.out⟩
  · by_cases h0 : (upTo [] s.data.toList).2.2 = 0
    · refine escapes_small s (by omega) w hE ⟨(upTo [] s.data.toList).1.toArray⟩ 0 0 .nilIface ?_ ?_ (fun V => (fault_nil 0 V).mono (fun e W h => ⟨h.1, by rw [h.2]; exact Below.refl _ _⟩))
      · unfold runA; rw [if_pos h0]
      · unfold ansE; rw [if_pos h0, if_pos h0]
    · refine escapes_small s (by omega) w hE e0 (upTo [] s.data.toList).2.1 (upTo [] s.data.toList).2.2 (.iface 58 (fl (upTo [] s.data.toList).2.1 (upTo [] s.data.toList).2.2)) ?_ ?_ (fun V => fault_yes _ _ h0 V)
      · unfold runA; rw [if_neg h0]
      · unfold ansE; rw [if_neg h0, if_neg h0]
#print axioms escapes_law
end Go.Proofs.YtlbcpbibcfolkaaDoor.Oct
