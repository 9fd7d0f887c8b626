/-
  Layer 11 (lines): the sort.
-/
import Derived.Test.YtjcihaohpbmogaaCmp
import Derived.Test.YtjcihaohpbmogaaShf
namespace Go.Proofs.Ytjcihaohpbmogaa.Oct
open Go.RowKit Go.Shelf Go.Lib Go.Sort
set_option maxRecDepth 100000
set_option linter.unusedSimpArgs false
set_option linter.unusedVariables false
set_option linter.unusedSectionVars false

/-- one vertex stands ahead of another -/
def LtV (a b : Vx) : Prop := LtH a.h b.h ∨ (a.h = b.h ∧ a.n < b.n)
theorem cfV_lt (a b : Vx) : cfV a b < 0 ↔ LtV a b := by
  unfold cfV orI LtV LtH cmpI
  by_cases h0 : compareBytes a.h b.h = 0
  · have he := cb_zero _ _ h0
    rw [if_neg (by simpa using h0)]
    constructor
    · intro h
      refine .inr ⟨he, ?_⟩
      split at h
      · assumption
      · split at h <;> omega
    · rintro (h | ⟨_, h⟩)
      · omega
      · rw [if_pos h]; omega
  · rw [if_pos h0]
    constructor
    · exact .inl
    · rintro (h | ⟨h, _⟩)
      · exact h
      · rw [h, cb_self] at h0; exact absurd rfl h0
theorem LtV.irr (a : Vx) : ¬ LtV a a := by
  rintro (h | ⟨_, h⟩)
  · exact LtH.irr _ h
  · omega
theorem LtV.tr {a b c : Vx} (h : LtV a b) (k : LtV b c) : LtV a c := by
  rcases h with h | ⟨h1, h2⟩ <;> rcases k with k | ⟨k1, k2⟩
  · exact .inl (h.tr k)
  · exact .inl (k1 ▸ h)
  · exact .inl (h1 ▸ k)
  · exact .inr ⟨h1.trans k1, by omega⟩
theorem LtV.tri (a b : Vx) : LtV a b ∨ a = b ∨ LtV b a := by
  rcases LtH.tri a.h b.h with h | h | h
  · exact .inl (.inl h)
  · rcases Int.lt_trichotomy a.n b.n with k | k | k
    · exact .inl (.inr ⟨h, k⟩)
    · refine .inr (.inl ?_)
      cases a; cases b; simp_all
    · exact .inr (.inr (.inr ⟨h.symm, k⟩))
  · exact .inr (.inr (.inl h))
instance (a b : Vx) : Decidable (LtV a b) := decidable_of_iff _ (cfV_lt a b)
/-- vertices of 32 bytes -/
abbrev V33 := { v : Vx // v.ok }
instance : Inhabited V33 := ⟨⟨vTop, vTop_ok⟩⟩
def encV (x : V33) : List Value := x.1.cells
def cf33 (x y : V33) : Int := cfV x.1 y.1
theorem lt33 (x y : V33) : ltOf cf33 x y = decide (LtV x.1 y.1) := by
  unfold ltOf cf33
  exact decide_eq_decide.2 (cfV_lt _ _)
theorem swo33 : SWO (ltOf cf33) where
  irrefl x := by rw [lt33]; simpa using LtV.irr x.1
  trans x y z h1 h2 := by rw [lt33] at *; simp at *; exact h1.tr h2
  ntrans x y z h1 h2 := by
    rw [lt33] at *
    simp only [decide_eq_false_iff_not] at *
    intro h
    rcases LtV.tri x.1 y.1 with h3 | h3 | h3
    · exact h1 h3
    · rw [h3] at h; exact h2 h
    · exact h2 (h3.tr h)
set_option maxHeartbeats 1000000 in
theorem closure82 (x y : Vx) (hx : x.ok) (hy : y.ok) (W : World) : Calls Try.prog 82 #[.agg x.cells.toArray, .agg y.cells.toArray] W fun e w' => e = .returned (.int .i64 (cfV x y)) ∧ ∃ q os', w' = grow (W.drewN q) os' := by
  obtain ⟨r1, h1⟩ : ∃ r, compareBytes x.h y.h = r := ⟨_, rfl⟩
  obtain ⟨r2, h2⟩ : ∃ r, cmpI x.n y.n = r := ⟨_, rfl⟩
  obtain ⟨r0, h0⟩ : ∃ r, orI r1 r2 = r := ⟨_, rfl⟩
  have HCC : Hid (compareBytes x.h y.h = r1 ∧ cmpI x.n y.n = r2 ∧ orI r1 r2 = r0) := ⟨h1, h2, h0⟩
  have hcf : cfV x y = r0 := by unfold cfV; rw [h1, h2, h0]
  rw [hcf]
  clear h1 h2 h0 hcf
  obtain ⟨d2, hd2⟩ : ∃ d, W.heap.size = d := ⟨_, rfl⟩
  obtain ⟨W1, hW1⟩ : ∃ W1, W.alloc (.cells x.cells.toArray 34) = W1 := ⟨_, rfl⟩
  obtain ⟨d3, hd3⟩ : ∃ d, W1.heap.size = d := ⟨_, rfl⟩
  obtain ⟨W2, hW2⟩ : ∃ W2, W1.alloc (.cells y.cells.toArray 34) = W2 := ⟨_, rfl⟩
  have b2 : Below W1.heap.size W1 W2 := by rw [← hW2]; exact below_al _ _
  have k2 : Blk W1 d2 34 x.cells := by rw [← hW1, ← hd2]; exact Blk.new W _ _
  have k3 : Blk W2 d3 34 y.cells := by rw [← hW2, ← hd3]; exact Blk.new W1 _ _
  have k2' : Blk W2 d2 34 x.cells := k2.below b2 k2.lt
  have HR : Hid (Blk W2.drew d2 34 x.cells ∧ Blk W2.drew d3 34 y.cells) := ⟨k2', k3⟩
  have HRH : Hid (W2.drew.rangeAt d2 0 (U x.h) ∧ W2.drew.rangeAt d3 0 (U y.h)) := by
    have e2 := k2'.range 0 32
    have e3 := k3.range 0 32
    rw [List.drop_zero, Vx.hash hx] at e2
    rw [List.drop_zero, Vx.hash hy] at e3
    exact ⟨e2, e3⟩
  have HV : Hid (x.ok ∧ y.ok) := ⟨hx, hy⟩
  have HWW : Hid (W2 = (W.alloc (.cells x.cells.toArray 34)).alloc (.cells y.cells.toArray 34)) := by
    show W2 = _
    rw [hW1, hW2]
  have q1 := Vx.one x
  have q1b := Vx.one y
  have q2 := Try.underlying34
  have q3 := info34 hx
  have q3b := info34 hy
  have q4 := Vx.len hx
  have q4b := Vx.len hy
  clear b2 k2 k3 k2' hx hy
  go_enter Try.func82, Try.ntmps82
  go_wp2_with fail
  refine cm1 (D := W2.drew) HCC rfl HR HRH HV ?_
  intro gi
  clear hW1 hW2 hd2 hd3 q1 q1b q2 q3 q3b q4 q4b
  go_wp2
  go_ret
  refine ⟨rfl, 1, #[.cells x.cells.toArray 34] ++ #[.cells y.cells.toArray 34] ++ #[.cells #[iv r1, iv r2] 3], ?_⟩
  rw [HWW.out]
  rw [alloc_eq_grow, alloc_eq_grow, alloc_eq_grow, grow_grow]
  first
  | rfl
  | (show grow (World.drewN (grow W _) 1) _ = _; rw [← grow_grow]; rfl)
theorem cmpLays82 (blk off size : Nat) (w : World) : CmpLays Try.prog 82 #[] encV 33 cf33 blk off size w :=
  fun _ _ _ _ x y => closure82 x.1 y.1 x.2 y.2 _
#print axioms cmpLays82
def toV (vs : List Vx) (hl : ∀ v ∈ vs, v.ok) : List V33 := vs.attach.map fun x => ⟨x.1, hl x.1 x.2⟩
theorem toV_val (vs : List Vx) (hl : ∀ v ∈ vs, v.ok) : (toV vs hl).map (·.1) = vs := by
  unfold toV
  rw [List.map_map]
  show vs.attach.map (fun x => x.1) = vs
  simp
theorem toV_length (vs : List Vx) (hl : ∀ v ∈ vs, v.ok) : (toV vs hl).length = vs.length := by simp [toV]
theorem holds_of {w : World} {g : Nat} {hs : List Vx} (hl : ∀ h ∈ hs, h.ok) {cur : Array Value} (hg : w.heap[g]? = some (.cells cur 34 (0, 0))) (hr : ∀ i h, hs[i]? = some h → w.rangeAt g (0 + i * 33) h.cells) : HoldsK encV 33 w g 0 (toV hs hl).toArray := by
  intro j hj
  have hj' : j < hs.length * 33 := by simpa [toV_length] using hj
  refine ⟨?_, frozen_of_row w g _ _ 34 hg⟩
  have hi : j / 33 < hs.length := by omega
  have hd : ((toV hs hl).toArray[j / 33]!).1 = hs[j / 33] := by
    have e : ((toV hs hl)[j / 33]?).map (·.1) = some hs[j / 33] := by
      rw [← List.getElem?_map, toV_val, List.getElem?_eq_getElem hi]
    have hlt : j / 33 < (toV hs hl).length := by rw [toV_length]; exact hi
    rw [List.getElem?_eq_getElem hlt] at e
    simp only [Option.map_some, Option.some.injEq] at e
    rw [getElem!_pos _ _ (by simpa using hlt)]
    simpa using e
  have hc := hr (j / 33) hs[j / 33] (List.getElem?_eq_getElem hi) (j % 33)
  have hlen : (hs[j / 33]).cells.length = 33 := Vx.len (hl _ (List.getElem_mem hi))
  have hc2 := hc (hs[j / 33]).cells[j % 33] (List.getElem?_eq_getElem (by omega))
  rw [show 0 + j / 33 * 33 + j % 33 = 0 + j by omega] at hc2
  rw [hc2, get_flatK _ _ _ _ (by simpa [toV_length] using hj')]
  simp only [id]
  unfold encV
  rw [hd, getElem!_pos _ _ (by omega)]
theorem of_holds {w : World} {g : Nat} {d : List V33} (h : HoldsK encV 33 w g 0 d.toArray) (hg : g < w.heap.size) : ∀ i x, (d.map (·.1))[i]? = some x → w.rangeAt g (0 + i * 33) x.cells := by
  intro i x hi
  rw [List.getElem?_map] at hi
  obtain ⟨y, hy, rfl⟩ := Option.map_eq_some_iff.1 hi
  obtain ⟨hlt, hy2⟩ := List.getElem?_eq_some_iff.1 hy
  intro c v hv
  have hc : c < 33 := by have := (List.getElem?_eq_some_iff.1 hv).1; rw [Vx.len y.2] at this; exact this
  have h1 := (h (i * 33 + c) (by simp; omega)).1
  rw [get_flatK _ _ _ _ (by simp; omega), show (i * 33 + c) / 33 = i by omega, show (i * 33 + c) % 33 = c by omega] at h1
  simp only [id] at h1
  rw [show 0 + i * 33 + c = 0 + (i * 33 + c) by omega, h1]
  have e : d.toArray[i]! = y := by rw [getElem!_pos _ _ (by simpa using hlt)]; simpa using hy2
  rw [e]
  unfold encV
  rw [getElem!_pos _ _ (by rw [Vx.len y.2]; exact hc)]
  have := (List.getElem?_eq_some_iff.1 hv).2
  rw [this]
theorem grown_sort (w : World) (g m : Nat) (d : Array V33) (os : Array Obj) : w.grownBy (sortWorldK encV 33 w g 0 m d os) (some g) := by
  refine ⟨rfl, rfl, rfl, ?_, fun k hk hne => ?_⟩
  · simp [sortWorldK, grow, putRowK, putRow, mapBlock]
  · unfold sortWorldK
    rw [heap_grow_old _ _ (by simpa [putRowK, putRow, mapBlock, ahead] using hk)]
    have hkg : g ≠ k := fun e => hne (by rw [e])
    simp [putRowK, putRow, mapBlock, Array.getElem?_modify, hkg]
end Go.Proofs.Ytjcihaohpbmogaa.Oct
