/-
  Layer 21 (queue): Step, where one waits.
-/
import Derived.Test.YtipipckbcelphaaWQdr
namespace Go.Proofs.Ytipipckbcelphaa.Oct
open Go.RowKit Go.Shelf
set_option linter.unusedSimpArgs false
set_option linter.unusedVariables false

/-- what became of one: merged, or rejected -/
def hw (r : Int) : Int := if r = 0 then 1 else 2
/-- what Step leaves: A: the world in which the try was called; V: behind it -/
def StepP (w : World) (b K' : Nat) (M : Qu) (x : Int) (S0 : Nat → Prop) (R : Int → Qu → World → World → Prop) (e : Ending) (w' : World) : Prop :=
  ∃ A V r M' v u, e = .returned (.tuple #[.agg (qd (x, hw r, r)).toArray, iv 0]) ∧ Keep (fun k => k = b) w A ∧ A.heap.size = w.heap.size + 2 ∧ Keep S0 A V ∧ R r M' A V ∧
   QAt w' b ⟨v, u, M'.W.eraseIdx 0, M'.E ++ [(x, hw r, r)]⟩ .nilFunc K' ∧ (∀ k ∈ Qu.bl ⟨v, u, M'.W.eraseIdx 0, M'.E ++ [(x, hw r, r)]⟩ b, k ∈ M'.bl b ∨ V.heap.size ≤ k) ∧ Keep (fun k => k ∈ M'.bl b ∨ k = w.heap.size) V w'
set_option maxRecDepth 100000 in
set_option maxHeartbeats 2000000 in
theorem step_yes {w : World} {b K K' F : Nat} {M : Qu} {x : Int} {cs : Array Value} {S0 : Nat → Prop} {R : Int → Qu → World → World → Prop} (h : QAt w b M .nilFunc K) (hx : M.W[0]? = some x) (hent : Enters Try.prog F) (hS1 : ¬ S0 w.heap.size) (hS2 : ¬ S0 (w.heap.size + 1))
    (hR : ∀ r M' A V, R r M' A V → M'.W[0]? = some x ∧ ∀ k ∈ M'.bl b, k ∈ M.bl b ∨ A.heap.size ≤ k)
    (HT : ∀ A, QAt A b M (fnV F cs) K → Keep (fun k => k = b) w A → A.heap.size = w.heap.size + 2 → Calls Try.prog F (#[iv x] ++ cs) A fun e V => ∃ r M', e = .returned (iv r) ∧ QAt V b M' (fnV F cs) K' ∧ Keep S0 A V ∧ R r M' A V) :
    Calls Try.prog 15 #[.pointer (some ⟨b, 0, none⟩), fnV F cs] w (StepP w b K' M x S0 R) := by
  obtain ⟨A0, hA⟩ : ∃ A, w.alloc (.cells #[iv 0, iv 0, iv 0] 38) = A := ⟨_, rfl⟩
  have hB : Below w.heap.size w A0 := by rw [← hA]; exact below_al _ _
  have hbk : Blk A0 w.heap.size 38 q0 := by rw [← hA]; exact Blk.new w _ _
  have hsz : A0.heap.size = w.heap.size + 1 := by rw [← hA]; simp
  have hz38 := zero38
  have H := h.below hB
  have HM := isMade_is (H.blk.cell rfl : A0.cell? ⟨b, 0, none⟩ = some (.bool true))
  have hq := fn_eq F cs
  have HTR := trying_no (H.blk.cell rfl : A0.cell? ⟨b, 3, none⟩ = some .nilFunc)
  obtain ⟨a, cap, hv, _⟩ := H.wrow.read
  obtain ⟨n, hn⟩ : ∃ n, M.W.length = n := ⟨_, rfl⟩
  have c1 : A0.cell? ⟨b, 1, none⟩ = some (.slice a n cap) := by rw [← hn, ← hv]; exact H.blk.cell rfl
  have q1 : 0 < n := by rw [← hn]; exact (List.getElem?_eq_some_iff.1 hx).1
  have q2 : ¬ ((n : Int) = 0) := by omega
  have q3 : ((n : Int) == 0) = false := by simpa using (show ¬ n = 0 by omega)
  have HANS := answer_is (K' := K') (S0 := S0) (R := R) H hx hent (by rw [hsz]; exact hS2) (fun A h1 h2 h3 => HT A h1 ((Keep.below hB).trans h2 (fun _ hj _ => hj)) (by rw [h3, hsz]))
  have HH : Hid (QAt w b M .nilFunc K ∧ Below w.heap.size w A0 ∧ Blk A0 w.heap.size 38 q0 ∧ A0.heap.size = w.heap.size + 1 ∧ ¬ S0 w.heap.size) := ⟨h, hB, hbk, hsz, hS1⟩
  have HRR : Hid (∀ r M' A V, R r M' A V → M'.W[0]? = some x ∧ ∀ k ∈ M'.bl b, k ∈ M.bl b ∨ A.heap.size ≤ k) := hR
  clear h hx hent hS1 hS2 hR HT hB hbk hsz H hv hn
  go_enter Try.func15, Try.ntmps15
  go_wp2_with fail
  refine HM.mono ?_
  rintro e w1 ⟨rfl, rfl⟩
  clear HM
  go_wp2_with fail
  refine HTR.mono ?_
  rintro e w1 ⟨rfl, rfl⟩
  clear HTR
  go_wp2_with fail
  refine HANS.mono ?_
  rintro e W3 ⟨A, V, r, M', rfl, hk1, hqv, hk2, hr, rfl, hsA⟩
  obtain ⟨hx', hbl'⟩ := HRR.out r M' A V hr
  have ht := hqv.tput .nilFunc
  have hne : ∀ k ∈ M'.bl b, k ≠ w.heap.size := by
    intro k hk e
    rcases hbl' k hk with h1 | h1
    · have := HH.out.1.lt k h1; omega
    · have := HH.out.2.2.2.1; omega
  have hbw : b ≠ w.heap.size := by have := HH.out.1.blk.lt; omega
  have hb3 : Blk (V.setCell ⟨b, 3, none⟩ .nilFunc) w.heap.size 38 q0 := by
    have h1 := hk1.blk HH.out.2.2.1 (fun e => hbw e.symm)
    have h2 := hk2.blk h1 HH.out.2.2.2.2
    exact h2.other (fun e => hbw e.symm) _
  obtain ⟨V3, hV3⟩ : ∃ V3, V.setCell ⟨b, 3, none⟩ .nilFunc = V3 := ⟨_, rfl⟩
  have hS3 : V3.heap.size = V.heap.size ∧ Keep (fun k => k = b) V V3 := by rw [← hV3]; exact ⟨by simp, Keep.grown (grown_setCell V b 3 _) rfl⟩
  rw [hV3] at ht hb3 ⊢
  have HA : Hid (Keep (fun k => k = b) w A ∧ A.heap.size = w.heap.size + 2 ∧ Keep S0 A V ∧ R r M' A V) := ⟨(Keep.below HH.out.2.1).trans hk1 (fun _ hj _ => hj), by have := HH.out.2.2.2.1; omega, hk2, hr⟩
  have HB3 : Hid (Blk V3 w.heap.size 38 q0) := hb3
  have HNM : Hid (∀ k ∈ M'.bl b, k ≠ w.heap.size) := hne
  have HS3 : Hid (V3.heap.size = V.heap.size ∧ Keep (fun k => k = b) V V3) := hS3
  by_cases hr0 : r = 0
  · subst hr0
    have HE := end_is ht.1 hx' 1 0
    rw [show ((0 : Nat) : Int) = 0 from rfl] at HE
    clear HANS hk1 hqv hk2 hr hsA hx' hbl' ht hne hbw hb3 hV3 hS3
    go_wp2_with fail
    refine HE.mono ?_
    rintro e V4 ⟨rfl, he⟩
    have hb4 : Blk V4 w.heap.size 38 q0 := by
      obtain ⟨v, u, _, h2⟩ := he
      exact h2.2.blk HB3.out (fun e => HNM.out _ e rfl)
    have HE4 : Hid (EndP V3 b K' M' .nilFunc 0 (x, 1, 0) V4 ∧ Blk V4 w.heap.size 38 q0) := ⟨he, hb4⟩
    clear HE he hb4
    go_wp2_with (with_reducible change wpList _ _ _ ({ dst := none, op := Op.store 38 _ _, type := _, pos := _, after := _, guard := _ } :: _) _ _; refine Hid.out ?_)
    show wpList _ _ _ _ _ _
    refine wpList_store_blk rfl 38 (.tmp 4) (.tmp 37) rfl w.heap.size 0 38 q0 (qd (x, 1, 0)) rfl rfl HE4.out.2 (by simp [q0, qd]) size38 (qd_one _) ?_
    intro V6 hb6 hg6
    have HF : Hid (Blk V6 w.heap.size 38 (qd (x, 1, 0)) ∧ StepP w b K' M x S0 R (.returned (.tuple #[.agg (qd (x, 1, 0)).toArray, iv 0])) V6) := by
      refine ⟨hb6.out, A, V, 0, M', ?_⟩
      obtain ⟨v, u, h1, h2⟩ := HE4.out.1
      have hk6 : Keep (fun j => j = w.heap.size) V4 V6 := Keep.grown hg6.out rfl
      have hne : ∀ j ∈ Qu.bl ⟨v, u, M'.W.eraseIdx 0, M'.E ++ [(x, 1, 0)]⟩ b, j ≠ w.heap.size := by
        intro j hj e
        rcases h2.1 j hj with h3 | h3
        · exact HNM.out j h3 e
        · have := HB3.out.lt; omega
      refine ⟨v, u, by rw [show hw 0 = 1 from rfl], HA.out.1, HA.out.2.1, HA.out.2.2.1, HA.out.2.2.2, ?_, ?_, ?_⟩
      · rw [show hw 0 = 1 from rfl]; exact h1.keep hk6 hne
      · intro k hk
        have h4 := h2.1 k hk
        rw [HS3.out.1] at h4
        exact h4
      · have k1 : Keep (fun k => k ∈ M'.bl b ∨ k = w.heap.size) V V3 := HS3.out.2.mono fun j _ hj => .inl (by rw [hj]; simp [Qu.bl])
        have k2 : Keep (fun k => k ∈ M'.bl b ∨ k = w.heap.size) V3 V4 := h2.2.mono fun j _ hj => .inl hj
        have k3 : Keep (fun k => k ∈ M'.bl b ∨ k = w.heap.size) V4 V6 := hk6.mono fun j _ hj => .inr hj
        exact k1.trans (k2.trans k3 (fun _ hj _ => hj)) (fun _ hj _ => hj)
    clear hb6 hg6
    go_wp2_with fail
    refine ret38 rfl rfl rfl rfl HF.out.1 ?_
    exact HF.out.2
  · have q5 : (r != 0) = true := by simpa using hr0
    have q6 : ¬ r = 0 := hr0
    have HWR : Hid (hw r = 2) := by show hw r = 2; unfold hw; rw [if_neg hr0]
    have HE := end_is ht.1 hx' 2 r
    rw [show ((0 : Nat) : Int) = 0 from rfl] at HE
    clear HANS hk1 hqv hk2 hr hsA hx' hbl' ht hne hbw hb3 hV3 hS3 hr0
    go_wp2_with fail
    refine HE.mono ?_
    rintro e V4 ⟨rfl, he⟩
    have hb4 : Blk V4 w.heap.size 38 q0 := by
      obtain ⟨v, u, _, h2⟩ := he
      exact h2.2.blk HB3.out (fun e => HNM.out _ e rfl)
    have HE4 : Hid (EndP V3 b K' M' .nilFunc 0 (x, 2, r) V4 ∧ Blk V4 w.heap.size 38 q0) := ⟨he, hb4⟩
    clear HE he hb4
    go_wp2_with (with_reducible change wpList _ _ _ ({ dst := none, op := Op.store 38 _ _, type := _, pos := _, after := _, guard := _ } :: _) _ _; refine Hid.out ?_)
    show wpList _ _ _ _ _ _
    refine wpList_store_blk rfl 38 (.tmp 4) (.tmp 35) rfl w.heap.size 0 38 q0 (qd (x, 2, r)) rfl rfl HE4.out.2 (by simp [q0, qd]) size38 (qd_one _) ?_
    intro V6 hb6 hg6
    have HF : Hid (Blk V6 w.heap.size 38 (qd (x, 2, r)) ∧ StepP w b K' M x S0 R (.returned (.tuple #[.agg (qd (x, 2, r)).toArray, iv 0])) V6) := by
      refine ⟨hb6.out, A, V, r, M', ?_⟩
      obtain ⟨v, u, h1, h2⟩ := HE4.out.1
      have hk6 : Keep (fun j => j = w.heap.size) V4 V6 := Keep.grown hg6.out rfl
      have hne : ∀ j ∈ Qu.bl ⟨v, u, M'.W.eraseIdx 0, M'.E ++ [(x, 2, r)]⟩ b, j ≠ w.heap.size := by
        intro j hj e
        rcases h2.1 j hj with h3 | h3
        · exact HNM.out j h3 e
        · have := HB3.out.lt; omega
      refine ⟨v, u, by rw [HWR.out], HA.out.1, HA.out.2.1, HA.out.2.2.1, HA.out.2.2.2, ?_, ?_, ?_⟩
      · rw [HWR.out]; exact h1.keep hk6 hne
      · intro k hk
        have h4 := h2.1 k hk
        rw [HS3.out.1] at h4
        exact h4
      · have k1 : Keep (fun k => k ∈ M'.bl b ∨ k = w.heap.size) V V3 := HS3.out.2.mono fun j _ hj => .inl (by rw [hj]; simp [Qu.bl])
        have k2 : Keep (fun k => k ∈ M'.bl b ∨ k = w.heap.size) V3 V4 := h2.2.mono fun j _ hj => .inl hj
        have k3 : Keep (fun k => k ∈ M'.bl b ∨ k = w.heap.size) V4 V6 := hk6.mono fun j _ hj => .inr hj
        exact k1.trans (k2.trans k3 (fun _ hj _ => hj)) (fun _ hj _ => hj)
    clear hb6 hg6
    go_wp2_with fail
    refine ret38 rfl rfl rfl rfl HF.out.1 ?_
    exact HF.out.2
#print axioms step_yes
end Go.Proofs.Ytipipckbcelphaa.Oct
