/-
  A range over a function whose body always goes on: what stands between two rounds is told by a place (a number), and each round is told what it is handed, as it lies in memory. Of no program.
-/
import Derived.RangeFuncNested
import Derived.RangeFuncBound
import Derived.RangeFuncCalls
import Derived.RangeFuncLeaves
import Derived.WalkKit
namespace Go.Proofs.Ytchblcfbllcbmab.Oct
open Go.RowKit

theorem below_putObj (B : Nat) (W : World) (l : Nat) (o : Obj) (h : B ≤ l) : Below B W (W.putObj l o) :=
  ⟨rfl, rfl, rfl, by simp, fun _ hk => World.putObj_heap_other (by omega)⟩

theorem rangeOver {P : Program} {n : Nat} {g : Operand} {ps : Array Tmp} {assign body : Code} {Q : Exit → Act → World → Prop} {a : Act} {w : World} {X : Type} {gf : Nat} {lb : Array Value}
    (hg : a.eval g = .func (.func gf) #[] lb) (eg : ∀ args w, (callFunc gf args).run P w = .ok (.enter gf args) w)
    (enc : X → Array Value) (hps : ∀ x, (enc x).size = ps.size) (next : Nat → X → Nat) (Pres : Nat → X → World → Prop) (Kp : World → World → Prop) (Fin : Nat → Prop)
    (I : Nat → World → Prop) (hI : ∀ s A B, I s A → Below w.heap.size A B → I s B)
    (hKp : ∀ A B o o', Kp (A.putObj (w.heap.size + 1) o) B → Kp A (B.putObj (w.heap.size + 1) o')) (hPres : ∀ s x A o, Pres s x A → Pres s x (A.putObj (w.heap.size + 1) o))
    (h0 : I 0 w) (a₁ : X → Act)
    (hassign : ∀ (x : X) (W : World) (K : Act → World → Prop), K (a₁ x) W →
      assign.wpIn (Fence.wide.inRound (w.heap.size + 1)) (n - 1 - 1) P (Exit.then K (fun _ _ _ => False)) { tmps := (ps.zip (enc x)).foldl (fun t (p, v) => t.setIfInBounds p v) a.tmps, defers := [] } W)
    (hbody : ∀ (s : Nat) (x : X) (W : World), I s W → Pres s x W → w.heap.size + 1 < W.heap.size → body.wpIn (Fence.wide.inRound (w.heap.size + 1)) (n - 1 - 1) P
      (fun e _ W' => e = .normal ∧ I (next s x) W' ∧ Kp W W' ∧ W'.heap[w.heap.size]? = W.heap[w.heap.size]? ∧ W'.heap[w.heap.size + 1]? = W.heap[w.heap.size + 1]?) (a₁ x) W)
    (hiter : ∀ (J : Nat → World → Prop) (W : World), W.heap.size = w.heap.size + 2 → Below w.heap.size w W → (∀ s A B, J s A → Below (w.heap.size + 2) A B → J s B) → (∀ s A, J s A → I s A ∧ w.heap.size + 2 ≤ A.heap.size) →
      (∀ s x A, J s A → Pres s x A → YieldAt Fence.wide (n - 1 - 1) P (w.heap.size + 1) (enc x) A fun e B => e = .returned (.bool true) ∧ J (next s x) B ∧ Kp A B) → J 0 W →
      CallsIn Fence.wide (n - 1) P gf (#[.func (.yield (w.heap.size + 1)) #[] #[]] ++ lb) W fun e B => (∃ v, e = .returned v) ∧ ∃ s, J s B ∧ Fin s)
    (hdone : ∀ (s : Nat) (W : World), I s W → Fin s → W.heap[w.heap.size]? = some (.deferred (some [])) → Q .normal { a with defers := { target := .collected w.heap.size, args := #[] } :: a.defers } W) :
    (Code.rangeFunc g ps assign body).wpIn Fence.wide n P Q a w := by
  refine wpIn_rangeFunc fun fn hfn => ?_
  obtain ⟨rec, hrec⟩ : ∃ rec : LoopState → Loop, rec = fun st => { state := st, pending := none, fn, tmps := a.tmps, params := ps, assign, body, defers := w.heap.size } := ⟨_, rfl⟩
  obtain ⟨W1, hW1⟩ : ∃ W1, (w.alloc (.deferred (some []))).alloc (.loop (rec .ready)) = W1 := ⟨_, rfl⟩
  have hS1 : W1.heap.size = w.heap.size + 2 := by rw [← hW1]; simp
  have hB1 : Below w.heap.size w W1 := by rw [← hW1]; exact ((Below.refl _ w).alloc (Nat.le_refl _) _).alloc (by simp) _
  have hL1 : W1.heap[w.heap.size + 1]? = some (.loop (rec .ready)) := by
    have e := World.alloc_heap_new (w.alloc (.deferred (some []))) (.loop (rec .ready))
    rw [World.size_alloc, hW1] at e
    exact e
  have hD1 : W1.heap[w.heap.size]? = some (.deferred (some [])) := by
    rw [← hW1]
    exact (Below.heap_alloc _ _ _ (by simp)).trans (World.alloc_heap_new w _)
  have hcall := hiter (fun s W => I s W ∧ W.heap[w.heap.size + 1]? = some (.loop (rec .ready)) ∧ W.heap[w.heap.size]? = some (.deferred (some []))) W1 hS1 hB1
    (fun s A B hs hb => ⟨hI s A B hs.1 (hb.mono (by omega)), (hb.block _ (by omega)).trans hs.2.1, (hb.block _ (by omega)).trans hs.2.2⟩) (fun s A hs => ⟨hs.1, (Array.getElem?_eq_some_iff.1 hs.2.1).1⟩) ?rounds ⟨hI 0 w W1 h0 hB1, hL1, hD1⟩
  case rounds =>
    rintro s x A ⟨hi, hl, hd⟩ hp
    have hlt : w.heap.size + 1 < A.heap.size := (Array.getElem?_eq_some_iff.1 hl).1
    have hy := run_yield (P := P) (args := enc x) hl (by rw [hrec]; exact hps x)
    rw [hrec] at hy
    refine ⟨fn, _, assign, body, hy, roundIn_of_wpIn hfn (hassign x A _ ⟨_, run_beginRound hl (by rw [hrec]), ?_⟩)⟩
    have hb : (A.putObj (w.heap.size + 1) (.loop { rec .ready with state := .busy })).heap[w.heap.size + 1]? = some (.loop { rec .ready with state := .busy }) := World.putObj_heap_same hlt
    have hd2 : (A.putObj (w.heap.size + 1) (.loop { rec .ready with state := .busy })).heap[w.heap.size]? = some (.deferred (some [])) := (World.putObj_heap_other (by omega)).trans hd
    have hi2 := hI s A _ hi (below_putObj w.heap.size A (w.heap.size + 1) (.loop { rec .ready with state := .busy }) (by omega))
    refine wpIn_mono (hbody s x _ hi2 (hPres s x A _ hp) (by simpa using hlt)) ?_
    rintro e a3 B ⟨rfl, hi3, hk3, hd3, hl3⟩
    have hl4 := hl3.trans hb
    have hr := run_endRound (P := P) none hl4
    have hltB : w.heap.size + 1 < B.heap.size := (Array.getElem?_eq_some_iff.1 hl4).1
    refine ⟨_, _, hr, rfl, ⟨hI _ B _ hi3 (below_putObj _ B _ _ (by omega)), ?_, (World.putObj_heap_other (by omega)).trans (hd3.trans hd2)⟩, hKp _ _ _ _ hk3⟩
    rw [World.putObj_heap_same hltB, hrec]
    rfl
  refine ⟨w.heap.size + 1, [{ target := .collected w.heap.size, args := #[] }], W1, { target := .fn (.func gf) lb, args := #[.func (.yield (w.heap.size + 1)) #[] #[]] }, W1, gf, #[.func (.yield (w.heap.size + 1)) #[] #[]] ++ lb, W1, ?_, ?_, ?_, ?_, ?_, ?_⟩
  · rw [← hW1, hrec]; exact run_enterLoop_outer _ _ _ _ _
  · simp only [resolve, hg]
    simp [go_sem]
  · intro f' _; trivial
  · simp [invoke, go_sem, eg]
  · intro h; cases h
  · refine hcall.mono ?_
    rintro e B ⟨⟨v, rfl⟩, s, ⟨hi, hl, hd⟩, hf⟩
    have he := run_endLoop (P := P) hl (by rw [hrec]; simp)
    refine ⟨none, _, by rw [hrec] at he; exact he, ?_⟩
    exact hdone s _ (hI _ B _ hi (below_putObj _ B _ _ (by omega))) hf ((World.putObj_heap_other (by omega)).trans hd)
#print axioms rangeOver
end Go.Proofs.Ytchblcfbllcbmab.Oct
