/-
  Layer 7 (tree): what 'from' tells of a tree, as lists; the way out behind many ranges.
-/
import Derived.Test.YtnagknlfboadkaaFromPure
import Derived.Test.YtnagknlfboadkaaWOver
namespace Go.Proofs.Ytnagknlfboadkaa.Oct.Wid
open Go.RowKit Go.Shelf
attribute [local go_sem] Oper.semAt_some

def mark (m : Nat) : Deferred := { target := .collected m, args := #[] }
/-- a return behind many ranges -/
theorem ret_marks {n : Nat} {tmps : Array Value} {R : Ending → World → Prop} {D : Nat} {I : World → Prop} (hI : ∀ A B, I A → BelowR D A B → I B) (hR : ∀ A v, I A → R (.returned v) A) :
    ∀ (ms : List Nat) (w : World), I w → ms.Nodup → (∀ m ∈ ms, D ≤ m ∧ w.heap[m]? = some (.deferred (some []))) → LeavesInM Fence.wide n Try.prog Try.f37 tmps R (ms.map mark) .returning w
  | [], w, hw, _, _ => ⟨_, results_none rfl _ _ _, hR _ _ hw⟩
  | m :: ms, w, hw, hn, hm => by
    have h1 := hm m List.mem_cons_self
    refine ⟨by simp, .inl ⟨_, _, rfl, run_takeDeferred h1.2, ?_⟩⟩
    refine ret_marks hI hR ms _ (hI _ _ hw (belowR_putObj _ h1.1 h1.2 def_row)) (List.nodup_cons.1 hn).2 fun m' hm' => ?_
    have h2 := hm m' (List.mem_cons_of_mem _ hm')
    refine ⟨h2.1, (World.putObj_heap_other ?_).trans h2.2⟩
    rintro rfl
    exact (List.nodup_cons.1 hn).1 hm'
#print axioms ret_marks
end Go.Proofs.Ytnagknlfboadkaa.Oct.Wid
