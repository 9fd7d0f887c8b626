/-
  Layer 4 (frame): the law on frames read: more bytes than it looks at.
-/
import Derived.Test.YtchblcfbllcbmabRefAllIs
import Derived.Test.YtchblcfbllcbmabLast
import Derived.Test.YtchblcfbllcbmabRound
namespace Go.Proofs.Ytchblcfbllcbmab.Oct
open Go.RowKit Go.Shelf
attribute [local go_sem] Oper.semAt_some

theorem results_bool3 {tm : Array Value} {W : World} {r : Nat} {b : Bool} (h : tm[2]? = some (.pointer (some ⟨r, 0, none⟩))) (hc : W.cell? ⟨r, 0, none⟩ = some (.bool b)) : (results Try.f3 tm).run Try.prog W = .ok (.bool b) W := by
  have hr : Try.f3.results = #[.cell 2 4] := rfl
  have h' : tm.getD 2 undef = .pointer (some ⟨r, 0, none⟩) := by simp [h]
  simp only [results, hr]
  go_simp

set_option maxRecDepth 100000 in
set_option maxHeartbeats 2000000 in
theorem reads_long (a : Option Addr) (n cp : Nat) (w : World) (hbig : 100000 < n) :
    Calls Try.prog 3 #[.slice a n cp] w fun e w' => e = .returned (.bool true) ∧ Below w.heap.size w w' := by
  have q1 : (100000 : Int) < (n : Int) := by omega
  clear hbig
  refine (callsIn_wide (n := 9)).1 ?_
  refine callsIn_of_wp_marks Try.func3 rfl trivial ?_ rfl
  simp only [Try.ntmps3, List.size_toArray, List.length_cons, List.length_nil, Nat.reduceAdd, Nat.reduceSub, Array.replicate_succ, Array.replicate_zero, List.push_toArray, List.append_toArray, List.nil_append, List.cons_append]
  gi_wp2_with fail
  refine ⟨trivial, ?_⟩
  refine (callsIn_wide.2 (lives_is _)).mono ?_
  rintro e w1 ⟨rfl, hb1⟩
  have hr1 : w1.heap[w.heap.size]? = some (.cells #[.bool false] 4) := (hb1.block _ (by simp)).trans (heap_alloc_new w _)
  have c1 := (cell_box hr1).1
  have f1 := (cell_box hr1).2
  have HB1 : Hid (Below w.heap.size w w1) := ((Below.refl _ w).alloc (Nat.le_refl _) _).trans (hb1.mono (by simp))
  have HR1 : Hid (w1.heap[w.heap.size]? = some (.cells #[.bool false] 4)) := hr1
  clear hb1 hr1
  gi_wp2
  have e4 : (w1.setCell ⟨w.heap.size, 0, none⟩ (.bool true)).heap[w.heap.size]? = some (.cells #[.bool true] 4) := heap_setCell_same w1 w.heap.size 0 #[.bool false] 4 (.bool true) HR1.out
  exact ⟨_, results_bool3 rfl (cell_one e4), rfl, HB1.out.setCell (p := ⟨w.heap.size, 0, none⟩) (Nat.le_refl _) _⟩
end Go.Proofs.Ytchblcfbllcbmab.Oct
