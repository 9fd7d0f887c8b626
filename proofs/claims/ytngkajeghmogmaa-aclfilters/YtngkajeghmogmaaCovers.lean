/-
  Layer 17 (acl): 'Covers'.
-/
import Derived.Test.YtngkajeghmogmaaHeads
namespace Go.Proofs.Ytngkajeghmogmaa.Oct
open Go.RowKit Go.Shelf
attribute [local go_sem] Oper.semAt_some

def fits (p h : ByteArray) : Bool := (p.data.toList == []) || (p.data.toList == h.data.toList)
/-- does the path s lie below the prefix p? -/
def cov (p s : ByteArray) : Bool := (hdl s).any (fits p)

/-- between two rounds of 'Covers' -/
def CInv (p s : ByteArray) (w : World) (t : Nat) (W : World) : Prop :=
  W.heap[w.heap.size]? = some (.cells #[.string p] 9) ∧ W.heap[w.heap.size + 1]? = some (.cells #[.bool false] 4) ∧ W.heap[w.heap.size + 2]? = some (.cells #[.string s] 9) ∧ Below w.heap.size w W ∧ ((hdl s).take t).any (fits p) = false
def CLeft (p s : ByteArray) (w : World) (c : Code) (W : World) : Prop :=
  c = .ret ∧ W.cell? ⟨w.heap.size + 1, 0, none⟩ = some (.bool true) ∧ Below w.heap.size w W ∧ cov p s = true
theorem any_take_succ {α : Type} (p : α → Bool) (l : List α) (t : Nat) (h : t < l.length) : (l.take (t + 1)).any p = ((l.take t).any p || p l[t]) := by
  rw [List.take_succ_eq_append_getElem h, List.any_append]; simp

set_option maxRecDepth 100000 in
set_option maxHeartbeats 2000000 in
theorem covers_is (p s : ByteArray) (w : World) (hn : s.size ≤ 140737488355328) : Calls Try.prog 17 #[.string p, .string s] w fun e w' => e = .returned (.bool (cov p s)) ∧ Below w.heap.size w w' := by
  have HN : Hid (s.size ≤ 140737488355328) := hn
  clear hn
  refine (callsIn_wide (n := 3)).1 ?_
  refine callsIn_of_wp_marks Try.func17 rfl trivial ?_ rfl
  simp only [Try.ntmps17, List.size_toArray, List.length_cons, List.length_nil, Nat.reduceAdd, Nat.reduceSub, Array.replicate_succ, Array.replicate_zero, List.push_toArray, List.append_toArray, List.nil_append, List.cons_append]
  gi_wp2_with (refine ⟨trivial, ?_⟩; gi_at_call 31; refine (callsIn_wide.2 (heads_is s _)).mono ?_; rintro e w1 ⟨rfl, rfl⟩)
  obtain ⟨W2, hW2⟩ : ∃ W2, W2 = ((w.alloc (.cells #[.string p] 9)).alloc (.cells #[.bool false] 4)).alloc (.cells #[.string s] 9) := ⟨_, rfl⟩
  have hS2 : W2.heap.size = w.heap.size + 3 := by rw [hW2]; simp
  have hB2 : Below w.heap.size w W2 := by rw [hW2]; exact (((Below.refl _ w).alloc (Nat.le_refl _) _).alloc (by simp) _).alloc (by simp; omega) _
  have b0 : Boxed W2 w.heap.size 9 (.string p) := by rw [hW2]; exact ((Boxed.new w 9 _).alloc _).alloc _
  have b1 : Boxed W2 (w.heap.size + 1) 4 (.bool false) := by
    rw [hW2]
    have e := Boxed.new (w.alloc (.cells #[.string p] 9)) 4 (.bool false)
    rw [World.size_alloc] at e
    exact e.alloc _
  have b2 : Boxed W2 (w.heap.size + 2) 9 (.string s) := by
    rw [hW2]
    have e := Boxed.new ((w.alloc (.cells #[.string p] 9)).alloc (.cells #[.bool false] 4)) 9 (.string s)
    rw [World.size_alloc, World.size_alloc] at e
    exact e
  rw [← hW2]
  clear hW2
  refine rangeLeave (gf := 51) (lb := #[.pointer (some ⟨w.heap.size + 2, 0, none⟩)]) rfl (enters_of Try.func51 (by kernel_rfl) rfl) (fun _ x => #[.string x]) (fun _ _ => rfl) (hdl s)
    (CInv p s w) (CLeft p s w) ?hI ?hIx ⟨b0, b1, b2, hB2, rfl⟩
    (fun t x => { tmps := #[.string p, .string s, .pointer (some ⟨w.heap.size, 0, none⟩), undef, .pointer (some ⟨w.heap.size + 1, 0, none⟩), .string x, .string s, .func (.func 51) #[] #[.pointer (some ⟨w.heap.size + 2, 0, none⟩)], .string x, undef, undef, undef, undef, undef, undef, undef], defers := [] }) ?assign ?body ?iter ?done ?stop
  case hI =>
    rintro t A B ⟨h1, h2, h3, h4, h5⟩ hb
    rw [hS2] at hb
    exact ⟨(hb.block _ (by omega)).trans h1, (hb.block _ (by omega)).trans h2, (hb.block _ (by omega)).trans h3, h4.trans (hb.mono (by omega)), h5⟩
  case hIx =>
    rintro c A B ⟨h1, h2, h3, h4⟩ hb
    rw [hS2] at hb
    exact ⟨h1, (hb.cell (p := ⟨w.heap.size + 1, 0, none⟩) (by simp)).trans h2, h3.trans (hb.mono (by omega)), h4⟩
  case assign =>
    intro t x A K hK
    gi_wp2
    exact hK
  case body =>
    rintro t x A ⟨h1, h2, h3, h4, h5⟩ hx hlt
    have HX : Hid ((hdl s)[t]? = some x) := hx
    have hcp := cell_one h1
    have hcr := cell_one h2
    have hfr : A.frozen? ⟨w.heap.size + 1, 0, none⟩ = false := Boxed.frozen (t := 4) (v := .bool false) h2
    have HI : Hid (CInv p s w t A) := ⟨h1, h2, h3, h4, h5⟩
    have HH : Hid (Held W2.heap.size A (A.setCell ⟨w.heap.size + 1, 0, none⟩ (.bool true))) := Held.setCell A _ (by omega) _
    have HBS : Hid (Below w.heap.size w (A.setCell ⟨w.heap.size + 1, 0, none⟩ (.bool true))) := h4.setCell (p := ⟨w.heap.size + 1, 0, none⟩) (by simp) _
    have HCS : Hid ((A.setCell ⟨w.heap.size + 1, 0, none⟩ (.bool true)).cell? ⟨w.heap.size + 1, 0, none⟩ = some (.bool true)) := World.cell?_setCell_same' _ _ _ (by rw [hcr]; rfl)
    have HT : Hid (fits p x = true → cov p s = true) := by
      intro h
      exact List.any_eq_true.2 ⟨x, List.mem_of_getElem? hx, h⟩
    clear hx h1 h2 h3 h4 h5 hlt
    cases e1 : (p.data.toList == ([] : List UInt8)) with
    | true =>
      have HF : Hid (fits p x = true) := by show fits p x = true; unfold fits; rw [e1]; rfl
      have f1 : (p.toList == ([] : List UInt8)) = true := by rw [toList_is]; exact e1
      have f2 : p.toList = [] := by simpa using f1
      clear e1
      gi_wp2
      exact ⟨⟨rfl, HCS.out, HBS.out, HT.out HF.out⟩, HH.out⟩
    | false =>
      have f1 : (p.toList == ([] : List UInt8)) = false := by rw [toList_is]; exact e1
      have f2 : p.toList.isEmpty = false := by simpa using f1
      cases e2 : (p.data.toList == x.data.toList) with
      | true =>
        have HF : Hid (fits p x = true) := by show fits p x = true; unfold fits; rw [e2]; simp
        have f3 : (p.toList == x.toList) = true := by rw [toList_is, toList_is]; exact e2
        clear e1 e2
        gi_wp2
        exact ⟨⟨rfl, HCS.out, HBS.out, HT.out HF.out⟩, HH.out⟩
      | false =>
        have HF : Hid (fits p x = false) := by show fits p x = false; unfold fits; rw [e1, e2]; rfl
        have f3 : (p.toList == x.toList) = false := by rw [toList_is, toList_is]; exact e2
        clear e1 e2
        gi_wp2
        obtain ⟨h1, h2, h3, h4, h5⟩ := HI.out
        refine ⟨⟨h1, h2, h3, h4, ?_⟩, Held.of_below (Below.refl _ _)⟩
        obtain ⟨hl, e⟩ := List.getElem?_eq_some_iff.1 HX.out
        rw [any_take_succ _ _ _ hl, h5, e, HF.out]; rfl
  case iter =>
    intro J Jx W hS hB hJb hJxb hJI hY h0
    refine heads1_in _ _ _ s HN.out (W2.heap.size + 2) J Jx hJb hJxb (fun t A hj => ⟨cell_one (hJI t A hj).1.2.2.1, (hJI t A hj).2⟩) (fun t x A hj hx => YieldAt.deep 0 (hY t x A hj hx)) W hS h0
  case done =>
    rintro W ⟨h1, h2, h3, h4, h5⟩ hK
    have hcA := cell_one h2
    have hfA : W.frozen? ⟨w.heap.size + 1, 0, none⟩ = false := Boxed.frozen (t := 4) (v := .bool false) h2
    have HP : Hid (cov p s = false) := by show cov p s = false; rw [List.take_length] at h5; exact h5
    have HB : Hid (Below w.heap.size w W) := h4
    clear h1 h3 h4 h5
    gi_wp2
    have hK' := (KeepsOthers.setCell W ⟨w.heap.size + 1, 0, none⟩ (.bool false)).same _ _ hK rfl
    refine ⟨by simp, .inl ⟨_, _, rfl, run_takeDeferred hK', ?_⟩⟩
    have hc5 := cell_kept (World.cell?_setCell_same' W ⟨w.heap.size + 1, 0, none⟩ (.bool false) (by rw [hcA]; rfl)) (grownBy_putObj' _ W2.heap.size (.deferred none)) (fun r e => by cases e; exact ⟨_, hK', rfl⟩)
    refine ⟨.bool false, ?_, by rw [HP.out], (HB.out.setCell (p := ⟨w.heap.size + 1, 0, none⟩) (by simp) _).trans (below_putObj _ _ _ _ (by omega))⟩
    simp [results, Try.f17, go_sem, hc5]
  case stop =>
    rintro c W ⟨rfl, h2, h3, h4⟩ hK
    gi_wp2
    refine ⟨by simp, .inl ⟨_, _, rfl, run_takeDeferred hK, ?_⟩⟩
    have hc5 := cell_kept h2 (grownBy_putObj' _ W2.heap.size (.deferred none)) (fun r e => by cases e; exact ⟨_, hK, rfl⟩)
    refine ⟨.bool true, ?_, by rw [h4], h3.trans (below_putObj _ _ _ _ (by omega))⟩
    simp [results, Try.f17, go_sem, hc5]
#print axioms covers_is
theorem covers_b (p s : ByteArray) (b : Bool) (hb : cov p s = b) (w : World) (hn : s.size ≤ 140737488355328) : Calls Try.prog 17 #[.string p, .string s] w fun e w' => e = .returned (.bool b) ∧ Below w.heap.size w w' := by
  subst hb; exact covers_is p s w hn
end Go.Proofs.Ytngkajeghmogmaa.Oct
