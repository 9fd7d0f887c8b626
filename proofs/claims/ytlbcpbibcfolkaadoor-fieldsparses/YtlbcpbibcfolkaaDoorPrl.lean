/-
  Layer 22 (fields): FieldsPrints.
-/
import Derived.Test.YtlbcpbibcfolkaaDoorRpt
namespace Go.Proofs.YtlbcpbibcfolkaaDoor.Oct
open Go.RowKit
set_option linter.unusedSimpArgs false
set_option linter.unusedVariables false

theorem prints_same {l : List Pr} {v v' : Value} (h : PnP l v) (h' : RpP l v') : ∃ (T : BA) (X : Value) (A E : Int), v = .tuple #[.string T, X] ∧ v' = .tuple #[.string T, iv A, iv E] ∧ ∀ V, Calls Tryd.prog 14 #[X, iv A, iv E] V fun e w' => e = .returned (.bool true) ∧ Below V.heap.size V w' := by
  rcases h with ⟨h1, rfl⟩ | ⟨h1, i, hi, hj, hk, rfl⟩ | ⟨h1, hj, rfl⟩ <;> rcases h' with ⟨g1, rfl⟩ | ⟨g1, i', hi', hj', hk', rfl⟩ | ⟨g1, hj', rfl⟩
  · exact ⟨_, _, 64, 3, rfl, rfl, fun V => fault_yes 64 3 (by omega) V⟩
  · omega
  · omega
  · omega
  · have e : i = i' := by
      rcases Nat.lt_trichotomy i i' with h | h | h
      · have := hj' (i + 1) (by omega); omega
      · exact h
      · have := hj (i' + 1) (by omega); omega
    subst e
    exact ⟨_, _, (i : Int), 3, rfl, rfl, fun V => fault_yes i 3 (by omega) V⟩
  · have := hj' (i + 1) (by omega); omega
  · omega
  · have := hj (i' + 1) (by omega); omega
  · exact ⟨_, _, 0, 0, rfl, rfl, fun V => (fault_nil 0 V).mono (fun e W h => ⟨h.1, by rw [h.2]; exact Below.refl _ _⟩)⟩
theorem wpList_bs0 {ops : Array Oper} {rest : List Oper} {o : Oper} {a : Act} {w : World} {Q : Exit → Act → World → Prop} (hgd : o.guard = none) (hop : o.op = .buildSlice 32 0 #[])
    (hk : wpList Tryd.prog ops Q rest (a.put o.dst (.slice (some ⟨w.heap.size, 0, none⟩) 0 0)) (w.alloc (.cells #[] 49))) : wpList Tryd.prog ops Q (o :: rest) a w := by
  refine wpList_plain hgd fun K hK => ?_
  have h := run_bs0 w
  unfold Oper.wp execOp
  simp only [hop, Sem.run_bind, Sem.run_pure, Result.andThen_ok, List.map_toArray, List.map_cons, List.map_nil, h]
  exact hK _ _ hk
set_option maxRecDepth 100000 in
set_option maxHeartbeats 1000000 in
theorem prints_law {w : World} {a : Option Addr} {n cap : Nat} {l : List Pr} (h : PsR w (.slice a l.length cap) l) (hn : l.length = n) (hE : ET w) : Calls Tryd.prog 4 #[.slice a n cap] w fun e w' => e = .returned (.bool true) ∧ Below w.heap.size w w' := by
  have HE : Hid (ET w) := hE
  have HP : Hid (PsR w (.slice a l.length cap) l ∧ l.length = n) := ⟨h, hn⟩
  clear h hn hE
  go_enter Tryd.func4, Tryd.ntmps4
  go_wp2_with fail
  refine (light_is HP.out.1 HP.out.2).mono ?_
  rintro e W1 ⟨B, rfl, hl, hb1⟩
  have H1 : Hid (Below w.heap.size w W1) := hb1
  clear hb1
  cases B with
  | false =>
    clear hl
    go_wp2_with fail
    refine (lives_is W1 (HE.out.below H1.out)).mono ?_
    rintro e W ⟨rfl, hb⟩
    have HB : Hid (Below w.heap.size w W) := below_tr H1.out hb
    clear hb
    go_wp2
    go_ret
    exact ⟨rfl, HB.out⟩
  | true =>
    have HL : Hid (l.length ≤ 1000 ∧ ∀ p ∈ l, p.k.size + p.v.size ≤ 20000) := hl rfl
    clear hl
    have HP1 : Hid (PsR W1 (.slice a l.length cap) l) := HP.out.1.below H1.out
    go_wp2_with fail
    refine (rprint_is HP1.out HP.out.2 HL.out.2).mono ?_
    rintro e W2 ⟨v', rfl, hr, hb2⟩
    have H2 : Hid (Below w.heap.size w W2) := below_tr H1.out hb2
    have HP2 : Hid (PsR W2 (.slice a l.length cap) l) := HP1.out.below hb2
    have HR : Hid (RpP l v') := hr
    clear hb2 hr
    obtain ⟨x1, x2, x3, hv'⟩ : ∃ x1 x2 x3, v' = .tuple #[x1, x2, x3] := by rcases HR.out with ⟨_, h⟩ | ⟨_, _, _, _, _, h⟩ | ⟨_, _, h⟩ <;> exact ⟨_, _, _, h⟩
    subst hv'
    go_wp2_with (with_reducible change wpList _ _ _ ({ dst := some 19, op := _, type := _, pos := _, after := _, guard := _ } :: _) _ _; refine Hid.out ?_)
    show wpList _ _ _ _ _ _
    refine wpList_bs0 rfl rfl ?_
    have HO : Hid (OwP (W2.alloc (.cells #[] 49)) W2.heap.size (.slice (some ⟨W2.heap.size, 0, none⟩) 0 0) [] ∧ PsR (W2.alloc (.cells #[] 49)) (.slice a n cap) l ∧ Below w.heap.size w (W2.alloc (.cells #[] 49)) ∧ W2.heap.size ≤ (W2.alloc (.cells #[] 49)).heap.size) := ⟨own0 W2, by have := HP2.out.below (below_al W2 (.cells #[] 49)); rw [HP.out.2] at this; exact this, below_tr H2.out (below_al _ _), (below_al W2 (.cells #[] 49)).size⟩
    generalize W2.alloc (.cells #[] 49) = W3 at HO ⊢
    go_wp2_with (with_reducible change wpList _ _ _ ({ dst := some 21, op := _, type := _, pos := _, after := _, guard := _ } :: _) _ _; refine Hid.out ?_)
    show wpList _ _ _ _ _ _
    refine wpList_app rfl (.tmp 19) (.tmp 20) rfl HO.out.1 HO.out.2.1 (by have := HL.out.1; simp; omega) HO.out.2.2.2 rfl rfl ?_
    intro v4 W4 ho4 hg4 hp4
    rw [List.nil_append] at ho4
    have H4 : Hid (Below w.heap.size w W4) := below_own HO.out.2.2.1 hg4.out (fun j hj => by cases hj; exact H2.out.size)
    have HP4 : Hid (PsR W4 v4 l) := ho4.out.esr
    obtain ⟨a4, c4, rfl⟩ : ∃ a c, v4 = .slice a n c := by obtain ⟨a, c, h⟩ := sl_of ho4.out; exact ⟨a, c, by rw [h, HP.out.2]⟩
    have HP5 : Hid (PsR W4 (.slice a4 l.length c4) l) := by have := HP4.out; rw [← HP.out.2] at this; exact this
    clear ho4 hg4 hp4 HP4 HO
    go_wp2_with fail
    refine (print_is HP5.out HP.out.2).mono ?_
    rintro e W5 ⟨v5, rfl, hp5, hb5⟩
    have H5 : Hid (Below w.heap.size w W5) := below_tr H4.out hb5
    clear hb5
    obtain ⟨T, X, A, E, rfl, heq, hf⟩ := prints_same hp5 HR.out
    cases heq
    have C14 : Hid (∀ V, Calls Tryd.prog 14 #[X, iv A, iv E] V fun e w' => e = .returned (.bool true) ∧ Below V.heap.size V w') := hf
    have e1 : (T.toList == T.toList) = true := beq_self_eq_true _
    clear hf hp5 HR
    go_wp2_with fail
    refine (C14.out W5).mono ?_
    rintro e W6 ⟨rfl, hb6⟩
    have H6 : Hid (Below w.heap.size w W6) := below_tr H5.out hb6
    clear hb6
    go_wp2_with fail
    refine (lives_is W6 (HE.out.below H6.out)).mono ?_
    rintro e W7 ⟨rfl, hb7⟩
    have H7 : Hid (Below w.heap.size w W7) := below_tr H6.out hb7
    clear hb7
    go_wp2
    go_ret
    exact ⟨rfl, H7.out⟩
#print axioms prints_law
end Go.Proofs.YtlbcpbibcfolkaaDoor.Oct
