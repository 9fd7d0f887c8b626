/-
  Layer 21 (queue): queues that no call made.
-/
import Derived.Test.YtipipckbcelphaaWQdn
namespace Go.Proofs.Ytipipckbcelphaa.Oct
open Go.RowKit Go.Shelf
set_option linter.unusedSimpArgs false
set_option linter.unusedVariables false

/-- a queue that no call made -/
def Un (W : World) (pp : Option Addr) : Prop := pp = none ∨ ∃ b, pp = some ⟨b, 0, none⟩ ∧ Blk W b 54 [.bool false, .slice none 0 0, .slice none 0 0, .nilFunc]
theorem Un.below {W V : World} {pp : Option Addr} (h : Un W pp) (hb : Below W.heap.size W V) : Un V pp := by
  rcases h with h | ⟨b, h1, h2⟩
  · exact .inl h
  · exact .inr ⟨b, h1, h2.below hb h2.lt⟩
set_option maxRecDepth 100000 in
theorem un_made {W : World} {pp : Option Addr} (h : Un W pp) : Calls Try.prog 35 #[.pointer pp] W fun e w' => e = .returned (.bool false) ∧ W = w' := by
  rcases h with rfl | ⟨b, rfl, h2⟩
  · go_enter Try.func35, Try.ntmps35
    go_wp2
    go_ret
    exact ⟨rfl, rfl⟩
  · have c0 : W.cell? ⟨b, 0, none⟩ = some (.bool false) := h2.cell rfl
    clear h2
    go_enter Try.func35, Try.ntmps35
    go_wp2
    go_ret
    exact ⟨rfl, rfl⟩
set_option maxRecDepth 100000 in
theorem un_put {W : World} {pp : Option Addr} (h : Un W pp) (x : Int) : Calls Try.prog 11 #[.pointer pp, iv x] W fun e w' => e = .returned (iv 1) ∧ W = w' := by
  have HM := un_made h
  clear h
  go_enter Try.func11, Try.ntmps11
  go_wp2_with fail
  refine HM.mono ?_
  rintro e w1 ⟨rfl, rfl⟩
  clear HM
  go_wp2
  go_ret
  exact ⟨rfl, rfl⟩
set_option maxRecDepth 100000 in
theorem un_place {W : World} {pp : Option Addr} (h : Un W pp) (x : Int) : Calls Try.prog 25 #[.pointer pp, iv x] W fun e w' => e = .returned (iv (-1)) ∧ W = w' := by
  have HM := un_made h
  clear h
  go_enter Try.func25, Try.ntmps25
  go_wp2_with fail
  refine HM.mono ?_
  rintro e w1 ⟨rfl, rfl⟩
  clear HM
  go_wp2
  go_ret
  exact ⟨rfl, rfl⟩
set_option maxRecDepth 100000 in
theorem un_drop {W : World} {pp : Option Addr} (h : Un W pp) (x : Int) : Calls Try.prog 13 #[.pointer pp, iv x] W fun e w' => e = .returned (iv 1) ∧ W = w' := by
  have HM := un_made h
  have HP := un_place h x
  clear h
  go_enter Try.func13, Try.ntmps13
  go_wp2_with fail
  refine HP.mono ?_
  rintro e w1 ⟨rfl, rfl⟩
  clear HP
  go_wp2_with fail
  refine HM.mono ?_
  rintro e w1 ⟨rfl, rfl⟩
  clear HM
  go_wp2
  go_ret
  exact ⟨rfl, rfl⟩
set_option maxRecDepth 100000 in
theorem un_waiting {W : World} {pp : Option Addr} (h : Un W pp) : Calls Try.prog 23 #[.pointer pp] W fun e w' => e = .returned (.slice none 0 0) ∧ W = w' := by
  have HM := un_made h
  clear h
  go_enter Try.func23, Try.ntmps23
  go_wp2_with fail
  refine HM.mono ?_
  rintro e w1 ⟨rfl, rfl⟩
  clear HM
  go_wp2
  go_ret
  exact ⟨rfl, rfl⟩
set_option maxRecDepth 100000 in
theorem un_ended {W : World} {pp : Option Addr} (h : Un W pp) : Calls Try.prog 24 #[.pointer pp] W fun e w' => e = .returned (.slice none 0 0) ∧ W = w' := by
  have HM := un_made h
  clear h
  go_enter Try.func24, Try.ntmps24
  go_wp2_with fail
  refine HM.mono ?_
  rintro e w1 ⟨rfl, rfl⟩
  clear HM
  go_wp2
  go_ret
  exact ⟨rfl, rfl⟩
set_option maxRecDepth 100000 in
set_option maxHeartbeats 1000000 in
theorem un_step {w : World} {pp : Option Addr} {F : Nat} {cs : Array Value} (h : Un w pp) :
    Calls Try.prog 15 #[.pointer pp, fnV F cs] w fun e w' => e = .returned (.tuple #[.agg q0.toArray, iv 1]) ∧ Below w.heap.size w w' := by
  obtain ⟨A, hA⟩ : ∃ A, w.alloc (.cells #[iv 0, iv 0, iv 0] 38) = A := ⟨_, rfl⟩
  have hB : Below w.heap.size w A := by rw [← hA]; exact below_al _ _
  have hbk : Blk A w.heap.size 38 q0 := by rw [← hA]; exact Blk.new w _ _
  have hz38 := zero38
  have HM := un_made (h.below hB)
  have HB : Hid (Below w.heap.size w A ∧ Blk A w.heap.size 38 q0) := ⟨hB, hbk⟩
  clear h hB hbk
  go_enter Try.func15, Try.ntmps15
  go_wp2_with fail
  refine HM.mono ?_
  rintro e w1 ⟨rfl, rfl⟩
  clear HM
  go_wp2_with (with_reducible change wpList _ _ _ ({ dst := none, op := Op.store 38 _ _, type := _, pos := _, after := _, guard := _ } :: _) _ _; refine Hid.out ?_)
  show wpList _ _ _ _ _ _
  refine wpList_store_blk rfl 38 (.tmp 4) _ rfl w.heap.size 0 38 q0 q0 rfl rfl HB.out.2 (by simp [q0]) size38 (by intro u hu; simp [q0] at hu; subst hu; rfl) ?_
  intro V hb5 hg5
  have HV : Hid (Blk V w.heap.size 38 q0 ∧ Below w.heap.size w V) := ⟨hb5.out, HB.out.1.grown hg5.out HB.out.1.size (fun j hj => by cases hj; omega)⟩
  clear hb5 hg5
  go_wp2_with fail
  refine ret38 rfl rfl rfl rfl HV.out.1 ?_
  exact ⟨rfl, HV.out.2⟩
#print axioms un_step
theorem un_drain {w : World} {pp : Option Addr} {F : Nat} {cs : Array Value} (h : Un w pp) : Calls Try.prog 19 #[.pointer pp, fnV F cs] w fun e w' => e = .returned (.slice none 0 0) ∧ Below w.heap.size w w' :=
  drain_nonef (n := 0) (by omega) (fun W hb => (un_waiting (h.below hb)).mono (by rintro e V ⟨rfl, rfl⟩; exact ⟨none, 0, rfl, Below.refl _ _⟩)) (.inl rfl)
theorem drain_nil {w : World} {b K : Nat} {M : Qu} {T : Value} (h : QAt w b M T K) (h0 : M.W = []) : Calls Try.prog 19 #[.pointer (some ⟨b, 0, none⟩), .nilFunc] w fun e w' => e = .returned (.slice none 0 0) ∧ Below w.heap.size w w' :=
  drain_nonen (n := 0) (by omega) (fun W hb => (waiting_is (h.below hb)).mono (by
    rintro e V ⟨v, rfl, h1, h2⟩
    rw [h0] at h1
    obtain ⟨a, c, hv, _⟩ := nums_own h1
    exact ⟨a, c, by rw [hv]; rfl, h2⟩)) (.inl rfl)
#print axioms drain_nil
end Go.Proofs.Ytipipckbcelphaa.Oct
