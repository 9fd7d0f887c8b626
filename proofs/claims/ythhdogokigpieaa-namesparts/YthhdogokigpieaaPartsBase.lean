/-
  Layer 9 (names): the law NamesParts: what its rounds keep.
-/
import Derived.Test.YthhdogokigpieaaRefParent
import Derived.Test.YthhdogokigpieaaLives
namespace Go.Proofs.Ythhdogokigpieaa.Oct
open Go.RowKit Go.Shelf
attribute [local go_sem] Oper.semAt_some

theorem inBlock_leave {X : Exit → Act → World → Prop} {id : Nat} {a : Act} {W : World} {e : Exit} (he : e = .normal ∨ e = .exit id) (h : X .normal a W) : Exit.inBlock id X e a W := by
  rcases he with rfl | rfl
  · exact h
  · show (if id = id then X .normal a W else X (.exit id) a W)
    rw [if_pos rfl]; exact h

theorem cell_far (A : World) (g i B8 : Nat) (v : Value) (h : g ≠ B8) : (A.setCell ⟨B8, 0, none⟩ v).cell? ⟨g, i, none⟩ = A.cell? ⟨g, i, none⟩ := by
  have hb := grownBy_setCell' A B8 v
  by_cases hg : g < A.heap.size
  · have e := hb.block g hg (by simpa using h)
    simp only [World.cell?, e]
  · have e1 : A.heap[g]? = none := by simp; omega
    have e2 : (A.setCell ⟨B8, 0, none⟩ v).heap[g]? = none := by simp; omega
    simp only [World.cell?, e1, e2]
/-- what stays through the rounds: the boxes of 'stop', of the result, of 'want', of the text, of 'k', and what 'want' holds -/
structure Stay (w : World) (s : ByteArray) (stop : Int) (N g c b K : Nat) (k : Int) (A : World) : Prop where
  st : Boxed A w.heap.size 3 (.int .i64 stop)
  re : Boxed A (w.heap.size + 1) 4 (.bool false)
  wa : Boxed A (w.heap.size + 2) 24 (.slice (some ⟨g, 0, none⟩) N c)
  each : Boxed A b 9 (.string s)
  kk : Boxed A K 3 (.int .i64 k)
  el : ∀ i y, (pcs s)[i]? = some y → A.cell? ⟨g, i, none⟩ = some (.string y)
  be : Below w.heap.size w A
theorem Stay.below {w : World} {s : ByteArray} {stop k : Int} {N g c b K D : Nat} {A B : World} (h : Stay w s stop N g c b K k A) (hb : Below D A B) (h1 : w.heap.size + 2 < D) (h2 : g < D) (h3 : b < D) (h4 : K < D) : Stay w s stop N g c b K k B :=
  ⟨(hb.block _ (by omega)).trans h.st, (hb.block _ (by omega)).trans h.re, (hb.block _ (by omega)).trans h.wa, (hb.block _ h3).trans h.each, (hb.block _ h4).trans h.kk, fun i y hy => (hb.cell (p := ⟨g, i, none⟩) h2).trans (h.el i y hy), h.be.trans (hb.mono (by omega))⟩
theorem Stay.set {w : World} {s : ByteArray} {stop k : Int} {N g c b K : Nat} {A : World} (h : Stay w s stop N g c b K k A) (B8 : Nat) (v : Value) (h1 : w.heap.size + 2 < B8) (h2 : g < B8) (h3 : b < B8) (h4 : K < B8) : Stay w s stop N g c b K k (A.setCell ⟨B8, 0, none⟩ v) :=
  ⟨h.st.other (by omega) v, h.re.other (by omega) v, h.wa.other (by omega) v, h.each.other (by omega) v, h.kk.other (by omega) v, fun i y hy => (cell_far A g i B8 v (by omega)).trans (h.el i y hy), h.be.setCell (p := ⟨B8, 0, none⟩) (by simp; omega) v⟩

/-- a new box for 'k' -/
theorem Stay.next {w : World} {s : ByteArray} {stop k : Int} {N g c b K : Nat} {A : World} (h : Stay w s stop N g c b K k A) (k' : Int) (hg : g < b) (hw : w.heap.size + 2 < b) : Stay w s stop N g c b A.heap.size k' (A.alloc (.cells #[.int .i64 k'] 3)) := by
  have hbA : b < A.heap.size := (Array.getElem?_eq_some_iff.1 h.each).1
  have hKA : K < A.heap.size := (Array.getElem?_eq_some_iff.1 h.kk).1
  have h2 := h.below ((Below.refl A.heap.size A).alloc (Nat.le_refl _) (.cells #[.int .i64 k'] 3)) (by omega) (by omega) hbA hKA
  exact ⟨h2.st, h2.re, h2.wa, h2.each, Boxed.new A 3 _, h2.el, h2.be⟩
theorem Stay.more {w : World} {s : ByteArray} {stop k : Int} {N g c b K : Nat} {A : World} (h : Stay w s stop N g c b K k A) (o : Obj) (hg : g < b) (hw : w.heap.size + 2 < b) : Stay w s stop N g c b K k (A.alloc o) := by
  have hbA : b < A.heap.size := (Array.getElem?_eq_some_iff.1 h.each).1
  have hKA : K < A.heap.size := (Array.getElem?_eq_some_iff.1 h.kk).1
  exact h.below ((Below.refl A.heap.size A).alloc (Nat.le_refl _) o) (by omega) (by omega) hbA hKA
theorem boxed_kept {A B : World} {j : Nat} {t : TypeId} {v : Value} (h : Boxed A j t v) (hb : Below A.heap.size A B) : Boxed B j t v := (hb.block _ (Array.getElem?_eq_some_iff.1 h).1).trans h
theorem not_nil30 (b : Nat) (W : World) : (binOp BinOp.eql 27 (Value.func (Fn.func 30) #[] #[Value.pointer (some ⟨b, 0, none⟩)]) Value.nilFunc).run Try.prog W = .ok (.bool false) W := by
  first | rfl | kernel_rfl | simp [binOp, go_sem]
theorem not_nil28 (W : World) : (binOp BinOp.eql 27 (Value.func (Fn.func 28) #[] #[]) Value.nilFunc).run Try.prog W = .ok (.bool false) W := by
  first | rfl | kernel_rfl | simp [binOp, go_sem]
theorem refSplit_at (s : ByteArray) (w : World) (hn : s.size ≤ 100000) : Calls Try.prog 13 #[.string s] w fun e w' => ∃ g cap, e = .returned (.slice (some ⟨g, 0, none⟩) (pcs s).length cap) ∧ Hid (Strs w' (some ⟨g, 0, none⟩) (pcs s).length (pcs s)) ∧ Hid (Below w.heap.size w w') ∧ Hid (w.heap.size ≤ g) := by
  refine (refSplit_is s w hn).mono ?_
  rintro e w' ⟨v, rfl, ho, hb⟩
  obtain ⟨g, cap, rfl, hs⟩ := ho.out.strs (pcs_pos s)
  refine ⟨g, cap, rfl, hs, hb, ?_⟩
  rcases ho.out.2 with ⟨h2, _⟩ | ⟨g', cap', cur, e1, e2, _⟩
  · cases h2
  · cases e1; exact e2

theorem results_bool {tm : Array Value} {W : World} {r : Nat} (h : tm[4]? = some (.pointer (some ⟨r, 0, none⟩))) (hc : W.cell? ⟨r, 0, none⟩ = some (.bool true)) : (results Try.f4 tm).run Try.prog W = .ok (.bool true) W := by
  have hr : Try.f4.results = #[.cell 4 4] := rfl
  have h' : tm.getD 4 undef = .pointer (some ⟨r, 0, none⟩) := by simp [h]
  simp only [results, hr]
  go_simp
/-- the law's end: two marks, and the result in its box -/
theorem parts_end {w V3 : World} {d1 d2 : Nat} {tm : Array Value} (hbe : Below w.heap.size w V3) (hre : Boxed V3 (w.heap.size + 1) 4 (.bool false)) (h1 : V3.heap[d1]? = some (.deferred (some []))) (h2 : V3.heap[d2]? = some (.deferred (some []))) (hne : d1 ≠ d2) (hd1 : w.heap.size + 1 < d1) (hd2 : w.heap.size + 1 < d2) (h4 : tm[4]? = some (.pointer (some ⟨w.heap.size + 1, 0, none⟩))) :
    LeavesInM Fence.wide 3 Try.prog Try.f4 tm (fun e w' => e = .returned (.bool true) ∧ Below w.heap.size w w') [{ target := .collected d2, args := #[] }, { target := .collected d1, args := #[] }] .returning (V3.setCell ⟨w.heap.size + 1, 0, none⟩ (.bool true)) := by
  have hg := grownBy_setCell' V3 (w.heap.size + 1) (.bool true)
  have e2 : (V3.setCell ⟨w.heap.size + 1, 0, none⟩ (.bool true)).heap[d2]? = some (.deferred (some [])) := (hg.block d2 (Array.getElem?_eq_some_iff.1 h2).1 (by simp; omega)).trans h2
  have e1 : (V3.setCell ⟨w.heap.size + 1, 0, none⟩ (.bool true)).heap[d1]? = some (.deferred (some [])) := (hg.block d1 (Array.getElem?_eq_some_iff.1 h1).1 (by simp; omega)).trans h1
  have e4 : (V3.setCell ⟨w.heap.size + 1, 0, none⟩ (.bool true)).heap[w.heap.size + 1]? = some (.cells #[.bool true] 4) := hre.set _
  refine ⟨by simp, .inl ⟨_, _, rfl, run_takeDeferred e2, ?_⟩⟩
  have e1' : ((V3.setCell ⟨w.heap.size + 1, 0, none⟩ (.bool true)).putObj d2 (.deferred none)).heap[d1]? = some (.deferred (some [])) := (World.putObj_heap_other (by omega)).trans e1
  have e4' : ((V3.setCell ⟨w.heap.size + 1, 0, none⟩ (.bool true)).putObj d2 (.deferred none)).heap[w.heap.size + 1]? = some (.cells #[.bool true] 4) := (World.putObj_heap_other (by omega)).trans e4
  refine ⟨by simp, .inl ⟨_, _, rfl, run_takeDeferred e1', ?_⟩⟩
  have e5 : (((V3.setCell ⟨w.heap.size + 1, 0, none⟩ (.bool true)).putObj d2 (.deferred none)).putObj d1 (.deferred none)).heap[w.heap.size + 1]? = some (.cells #[.bool true] 4) := (World.putObj_heap_other (by omega)).trans e4'
  refine ⟨_, results_bool h4 (cell_one e5), rfl, ?_⟩
  exact ((hbe.setCell (p := ⟨w.heap.size + 1, 0, none⟩) (by show w.heap.size ≤ w.heap.size + 1; omega) _).trans (below_putObj _ _ _ _ (by omega))).trans (below_putObj _ _ _ _ (by omega))
#print axioms parts_end
end Go.Proofs.Ythhdogokigpieaa.Oct
