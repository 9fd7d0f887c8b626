/-
  Layer 21 (queue): a range over a function that changes what lies ahead of the loop: the iterator says which state it comes to. Of no program.
-/
import Derived.RangeFuncNested
import Derived.RangeFuncBound
import Derived.RangeFuncCalls
import Derived.RangeFuncLeaves
import Derived.OrdersHeld
import Derived.OrdersIn
import Derived.ControlIn
import Derived.OwnWalkIn
import Derived.WalkKit
import Derived.Test.YtipipckbcelphaaWQdn
namespace Go.Proofs.Ytipipckbcelphaa.Oct
open Go.RowKit

theorem upon_in {P : Program} {n l : Nat} {o : Oper} {a : Act} {Q : Exit → Act → World → Prop} {K K' : Act → World → Prop} (hK : ∀ a w, K a w → K' a w) (r : Result Next) (h : o.upon P a K Q r) : o.uponIn (Fence.wide.inRound l) n P a K' Q r := by
  cases r with
  | ok x w' =>
    cases x with
    | value v => exact hK _ _ h
    | skip => exact hK _ _ h
    | defer d => exact hK _ _ h
    | enter f args =>
      refine ⟨fun e => (by cases e), CallsIn.inRound l (callsIn_wide.2 (Calls.mono h ?_))⟩
      intro e w2 he
      cases e with
      | returned v => exact hK _ _ he
      | panicked c => exact he
      | outgrown => exact he
    | row nm args =>
      refine ⟨fun e => (by cases e), fun c cs _ => ?_⟩
      obtain ⟨v, w2, r1, r2⟩ := h c cs
      exact ⟨v, w2, hK _ _ r1, (stepsIn_wide (P := P)).2 r2⟩
    | _ => exact h.elim
  | halt x w' =>
    cases x with
    | panic v => exact h
    | _ => exact h.elim

/-- a statement in order, within a round: what holds of it outside a round holds within one, where nothing is deferred -/
theorem listIn_of_list {P : Program} {n l : Nat} {ops : Array Oper} {Q : Exit → Act → World → Prop} (hno : ¬ LetsOut Q) :
    ∀ (rest : List Oper) (a : Act) (w : World), (∀ o ∈ rest, ∀ c, o.op ≠ Op.defer c) → wpList P ops Q rest a w → wpListIn (Fence.wide.inRound l) n P ops Q rest a w
  | [], _, _, _, h => h
  | o :: rest, a, w, hnd, h => by
    unfold wpList at h
    unfold wpListIn
    split
    · rename_i hw
      rw [if_pos hw] at h
      rcases h with h | ⟨_, h3⟩
      · refine ⟨fun _ _ => trivial, ?_⟩
        rw [Oper.semAt_plain (Fence.wide.inRound l) _ _ (hnd o (by simp))]
        exact upon_in (fun a w h => listIn_of_list hno rest a w (fun o ho => hnd o (by simp [ho])) h) _ h
      · exact absurd h3 hno
    · rename_i hw
      rw [if_neg hw] at h
      exact ⟨fun _ _ => trivial, listIn_of_list hno rest _ w (fun o ho => hnd o (by simp [ho])) h⟩
#print axioms listIn_of_list
theorem rangeQ {P : Program} {n : Nat} {g : Operand} {ps : Array Tmp} {assign body : Code} {Q : Exit → Act → World → Prop} {a : Act} {w : World} {X : Type} {gf : Nat} {lb : Array Value}
    (hg : a.eval g = .func (.func gf) #[] lb) (eg : ∀ args w, (callFunc gf args).run P w = .ok (.enter gf args) w)
    (enc : X → Array Value) (hps : ∀ x, (enc x).size = ps.size) (I : Nat → World → Prop) (Pres : Nat → X → World → Prop) (Ax : X → Act → World → Prop) (Fin : Nat → Prop)
    (hI : ∀ s A o, I s A → I s (A.putObj (w.heap.size + 1) o)) (hP : ∀ s x A o, Pres s x A → Pres s x (A.putObj (w.heap.size + 1) o)) (hAx : ∀ x a' A o, Ax x a' A → Ax x a' (A.putObj (w.heap.size + 1) o))
    (h0 : ∀ W, W.heap.size = w.heap.size + 2 → Below w.heap.size w W → I 0 W)
    (hassign : ∀ (s : Nat) (x : X) (W : World) (K : Act → World → Prop), Pres s x W → (∀ a' W', Ax x a' W' → Pres s x W' → Below W.heap.size W W' → K a' W') →
      assign.wpIn (Fence.wide.inRound (w.heap.size + 1)) (n - 1 - 1) P (Exit.then K (fun _ _ _ => False)) { tmps := (ps.zip (enc x)).foldl (fun t (p, v) => t.setIfInBounds p v) a.tmps, defers := [] } W)
    (hbody : ∀ (s : Nat) (x : X) (a' : Act) (W : World), Pres s x W → Ax x a' W → w.heap.size + 1 < W.heap.size → body.wpIn (Fence.wide.inRound (w.heap.size + 1)) (n - 1 - 1) P
      (fun e _ W' => e = .normal ∧ I (s + 1) W' ∧ W'.heap[w.heap.size]? = W.heap[w.heap.size]? ∧ W'.heap[w.heap.size + 1]? = W.heap[w.heap.size + 1]?) a' W)
    (hiter : ∀ (J : Nat → World → Prop) (W : World), W.heap.size = w.heap.size + 2 → (∀ s A, J s A → I s A ∧ w.heap.size + 2 ≤ A.heap.size) →
      (∀ s s' A B, J s A → I s' B → B.heap[w.heap.size]? = A.heap[w.heap.size]? → B.heap[w.heap.size + 1]? = A.heap[w.heap.size + 1]? → J s' B) →
      (∀ s x A B, J s A → Pres s x B → B.heap[w.heap.size]? = A.heap[w.heap.size]? → B.heap[w.heap.size + 1]? = A.heap[w.heap.size + 1]? → YieldAt Fence.wide (n - 1 - 1) P (w.heap.size + 1) (enc x) B fun e C => e = .returned (.bool true) ∧ J (s + 1) C) → J 0 W →
      CallsIn Fence.wide (n - 1) P gf (#[.func (.yield (w.heap.size + 1)) #[] #[]] ++ lb) W fun e B => (∃ v, e = .returned v) ∧ ∃ s, J s B ∧ Fin s)
    (hdone : ∀ (s : Nat) (W : World), I s W → Fin s → W.heap[w.heap.size]? = some (.deferred (some [])) → Q .normal { a with defers := { target := .collected w.heap.size, args := #[] } :: a.defers } W) :
    (Code.rangeFunc g ps assign body).wpIn Fence.wide n P Q a w := by
  refine wpIn_rangeFunc fun fn hfn => ?_
  obtain ⟨rec, hrec⟩ : ∃ rec : LoopState → Loop, rec = fun st => { state := st, pending := none, fn, tmps := a.tmps, params := ps, assign, body, defers := w.heap.size } := ⟨_, rfl⟩
  obtain ⟨W1, hW1⟩ : ∃ W1, (w.alloc (.deferred (some []))).alloc (.loop (rec .ready)) = W1 := ⟨_, rfl⟩
  have hS1 : W1.heap.size = w.heap.size + 2 := by rw [← hW1]; simp
  have hB1 : Below w.heap.size w W1 := by rw [← hW1]; exact ((Below.refl _ w).alloc (Nat.le_refl _) _).alloc (by simp) _
  have hL1 : W1.heap[w.heap.size + 1]? = some (.loop (rec .ready)) := by
    have e := World.alloc_heap_new (w.alloc (.deferred (some []))) (.loop (rec .ready))
    rw [World.size_alloc, hW1] at e
    exact e
  have hD1 : W1.heap[w.heap.size]? = some (.deferred (some [])) := by
    rw [← hW1]
    exact (Below.heap_alloc _ _ _ (by simp)).trans (World.alloc_heap_new w _)
  have hcall := hiter (fun s W => I s W ∧ W.heap[w.heap.size + 1]? = some (.loop (rec .ready)) ∧ W.heap[w.heap.size]? = some (.deferred (some []))) W1 hS1
    (fun s A hs => ⟨hs.1, (Array.getElem?_eq_some_iff.1 hs.2.1).1⟩) (fun s s' A B hs hi e1 e2 => ⟨hi, e2.trans hs.2.1, e1.trans hs.2.2⟩) ?rounds ⟨h0 W1 hS1 hB1, hL1, hD1⟩
  case rounds =>
    rintro s x A0 A ⟨_, hl0, hd0⟩ hp e1 e2
    have hl := e2.trans hl0
    have hd := e1.trans hd0
    have hlt : w.heap.size + 1 < A.heap.size := (Array.getElem?_eq_some_iff.1 hl).1
    have hy := run_yield (P := P) (args := enc x) hl (by rw [hrec]; exact hps x)
    rw [hrec] at hy
    refine ⟨fn, _, assign, body, hy, roundIn_of_wpIn hfn (hassign s x A _ hp fun a' A' hax hp' hb' => ⟨_, run_beginRound ((hb'.block _ hlt).trans hl) (by rw [hrec]), ?_⟩)⟩
    have hlt' : w.heap.size + 1 < A'.heap.size := Nat.lt_of_lt_of_le hlt hb'.size
    have hb : (A'.putObj (w.heap.size + 1) (.loop { rec .ready with state := .busy })).heap[w.heap.size + 1]? = some (.loop { rec .ready with state := .busy }) := World.putObj_heap_same hlt'
    have hd2 : (A'.putObj (w.heap.size + 1) (.loop { rec .ready with state := .busy })).heap[w.heap.size]? = some (.deferred (some [])) := (World.putObj_heap_other (by omega)).trans ((hb'.block _ (by omega)).trans hd)
    refine wpIn_mono (hbody s x a' _ (hP s x A' _ hp') (hAx x a' A' _ hax) (by simpa using hlt')) ?_
    rintro e a3 B ⟨rfl, hi3, hd3, hl3⟩
    have hl4 := hl3.trans hb
    have hr := run_endRound (P := P) none hl4
    have hltB : w.heap.size + 1 < B.heap.size := (Array.getElem?_eq_some_iff.1 hl4).1
    refine ⟨_, _, hr, rfl, hI _ B _ hi3, ?_, (World.putObj_heap_other (by omega)).trans (hd3.trans hd2)⟩
    rw [World.putObj_heap_same hltB, hrec]
    rfl
  refine ⟨w.heap.size + 1, [{ target := .collected w.heap.size, args := #[] }], W1, { target := .fn (.func gf) lb, args := #[.func (.yield (w.heap.size + 1)) #[] #[]] }, W1, gf, #[.func (.yield (w.heap.size + 1)) #[] #[]] ++ lb, W1, ?_, ?_, ?_, ?_, ?_, ?_⟩
  · rw [← hW1, hrec]; exact run_enterLoop_outer _ _ _ _ _
  · simp only [resolve, hg]
    simp [go_sem]
  · intro f' _; trivial
  · simp [invoke, go_sem, eg]
  · intro h; cases h
  · refine hcall.mono ?_
    rintro e B ⟨⟨v, rfl⟩, s, ⟨hi, hl, hd⟩, hf⟩
    have he := run_endLoop (P := P) hl (by rw [hrec]; simp)
    refine ⟨none, _, by rw [hrec] at he; exact he, ?_⟩
    exact hdone s _ (hI _ B _ hi) hf ((World.putObj_heap_other (by omega)).trans hd)
#print axioms rangeQ
end Go.Proofs.Ytipipckbcelphaa.Oct
