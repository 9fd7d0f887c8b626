/-
  Layer 9 (names): 'Parent'.
-/
import Derived.Test.YthhdogokigpieaaCovers
namespace Go.Proofs.Ythhdogokigpieaa.Oct
open Go.RowKit Go.Shelf
attribute [local go_sem] Oper.semAt_some

/-- a path without its last piece; empty where there is none -/
def par (s : ByteArray) : ByteArray := mkS (headOf s.data.toList ((hdl s).length - 1))
theorem hdl_get {s x : ByteArray} {t : Nat} (h : (hdl s)[t]? = some x) : x = mkS (headOf s.data.toList (t + 1)) := by
  unfold hdl at h
  split at h
  · obtain ⟨hl, e⟩ := List.getElem?_eq_some_iff.1 h
    rw [← e]; simp
  · simp at h

/-- between two rounds of 'Parent' -/
def AInv (s : ByteArray) (w : World) (t : Nat) (W : World) : Prop :=
  Boxed W w.heap.size 9 (.string (mkS (headOf s.data.toList (t - 1)))) ∧ Boxed W (w.heap.size + 1) 9 (.string (mkS (headOf s.data.toList t))) ∧ Boxed W (w.heap.size + 2) 9 (.string s) ∧ Below w.heap.size w W

set_option maxRecDepth 100000 in
set_option maxHeartbeats 2000000 in
theorem parent_is (s : ByteArray) (w : World) (hn : s.size ≤ 140737488355328) : Calls Try.prog 15 #[.string s] w fun e w' => e = .returned (.tuple #[.string (par s), .bool (!(par s).data.toList == [])]) ∧ Below w.heap.size w w' := by
  have HN : Hid (s.size ≤ 140737488355328) := hn
  clear hn
  have hmx : Try.prog.follows .mixedOrders = true := by kernel_rfl
  refine (callsIn_wide (n := 3)).1 ?_
  refine callsIn_of_wp_marks Try.func15 rfl trivial ?_ rfl
  simp only [Try.ntmps15, List.size_toArray, List.length_cons, List.length_nil, Nat.reduceAdd, Nat.reduceSub, Array.replicate_succ, Array.replicate_zero, List.push_toArray, List.append_toArray, List.nil_append, List.cons_append]
  gi_wp2_with (refine ⟨trivial, ?_⟩; gi_at_call 29; refine (callsIn_wide.2 (heads_is s _)).mono ?_; rintro e w1 ⟨rfl, rfl⟩)
  obtain ⟨W2, hW2⟩ : ∃ W2, W2 = ((w.alloc (.cells #[.string ⟨#[]⟩] 9)).alloc (.cells #[.string ⟨#[]⟩] 9)).alloc (.cells #[.string s] 9) := ⟨_, rfl⟩
  have hS2 : W2.heap.size = w.heap.size + 3 := by rw [hW2]; simp
  have hB2 : Below w.heap.size w W2 := by rw [hW2]; exact (((Below.refl _ w).alloc (Nat.le_refl _) _).alloc (by simp) _).alloc (by simp; omega) _
  have b0 : Boxed W2 w.heap.size 9 (.string ⟨#[]⟩) := by rw [hW2]; exact ((Boxed.new w 9 _).alloc _).alloc _
  have b1 : Boxed W2 (w.heap.size + 1) 9 (.string ⟨#[]⟩) := by
    rw [hW2]
    have e := Boxed.new (w.alloc (.cells #[.string ⟨#[]⟩] 9)) 9 (.string ⟨#[]⟩)
    rw [World.size_alloc] at e
    exact e.alloc _
  have b2 : Boxed W2 (w.heap.size + 2) 9 (.string s) := by
    rw [hW2]
    have e := Boxed.new ((w.alloc (.cells #[.string ⟨#[]⟩] 9)).alloc (.cells #[.string ⟨#[]⟩] 9)) 9 (.string s)
    rw [World.size_alloc, World.size_alloc] at e
    exact e
  rw [← hW2]
  clear hW2
  refine rangeLeave (gf := 32) (lb := #[.pointer (some ⟨w.heap.size + 2, 0, none⟩)]) rfl (enters_of Try.func32 (by kernel_rfl) rfl) (fun _ x => #[.string x]) (fun _ _ => rfl) (hdl s)
    (AInv s w) (fun _ _ => False) ?hI (fun _ _ _ h _ => h) ⟨b0, b1, b2, hB2⟩
    (fun t x => { tmps := #[.string s, undef, .string ⟨#[]⟩, .bool false, .pointer (some ⟨w.heap.size, 0, none⟩), .pointer (some ⟨w.heap.size + 1, 0, none⟩), .string x, .string s, .func (.func 32) #[] #[.pointer (some ⟨w.heap.size + 2, 0, none⟩)], .string x, undef, undef, undef, undef, undef], defers := [] }) ?assign ?body ?iter ?done ?stop
  case hI =>
    rintro t A B ⟨h1, h2, h3, h4⟩ hb
    rw [hS2] at hb
    exact ⟨(hb.block _ (by omega)).trans h1, (hb.block _ (by omega)).trans h2, (hb.block _ (by omega)).trans h3, h4.trans (hb.mono (by omega))⟩
  case assign =>
    intro t x A K hK
    gi_wp2
    exact hK
  case body =>
    rintro t x A ⟨h1, h2, h3, h4⟩ hx hlt
    obtain ⟨pv, hpv⟩ : ∃ pv, pv = mkS (headOf s.data.toList (t - 1)) := ⟨_, rfl⟩
    obtain ⟨lv, hlv⟩ : ∃ lv, lv = mkS (headOf s.data.toList t) := ⟨_, rfl⟩
    rw [← hpv] at h1
    rw [← hlv] at h2
    have HX : Hid (x = mkS (headOf s.data.toList (t + 1))) := hdl_get hx
    have HLV : Hid (lv = mkS (headOf s.data.toList t)) := hlv
    have hc1 := h1.cell
    have hf1 := h1.frozen
    have hc2 := h2.cell
    have hf2 := h2.frozen
    have HI : Hid (Boxed A w.heap.size 9 (.string pv) ∧ Boxed A (w.heap.size + 1) 9 (.string lv) ∧ Boxed A (w.heap.size + 2) 9 (.string s) ∧ Below w.heap.size w A) := ⟨h1, h2, h3, h4⟩
    clear hx h1 h2 h3 h4 hlt hpv hlv
    gi_wp2
    obtain ⟨h1, h2, h3, h4⟩ := HI.out
    refine ⟨⟨?_, ?_, ?_, ?_⟩, ?_⟩
    · rw [show t + 1 - 1 = t from rfl, ← HLV.out]
      exact (h1.set (.string lv)).other (by omega) _
    · rw [← HX.out]
      exact (h2.other (by omega) _).set (.string x)
    · exact (h3.other (by omega) _).other (by omega) _
    · exact (h4.setCell (p := ⟨w.heap.size, 0, none⟩) (by simp) _).setCell (p := ⟨w.heap.size + 1, 0, none⟩) (by simp) _
    · exact (Held.setCell A _ (by omega) _).trans (Held.setCell _ _ (by omega) _)
  case iter =>
    intro J Jx W hS hB hJb hJxb hJI hY h0
    refine heads1_in _ _ _ s HN.out (W2.heap.size + 2) J Jx hJb hJxb (fun t A hj => ⟨(hJI t A hj).1.2.2.1.cell, (hJI t A hj).2⟩) (fun t x A hj hx => YieldAt.deep 0 (hY t x A hj hx)) W hS h0
  case done =>
    rintro W ⟨h1, h2, h3, h4⟩ hK
    obtain ⟨pv, hpv⟩ : ∃ pv, pv = par s := ⟨_, rfl⟩
    have hb1 : Boxed W w.heap.size 9 (.string pv) := by rw [hpv]; exact h1
    have hc1 := hb1.cell
    have HB : Hid (Below w.heap.size w W) := h4
    have HPV : Hid (pv = par s) := hpv
    clear h1 h2 h3 h4 hpv hb1
    gi_wp2
    gi_region_o
    gi_wp2
    have hK' : W.drew.heap[W2.heap.size]? = some (.deferred (some [])) := hK
    refine ⟨by simp, .inl ⟨_, _, rfl, run_takeDeferred hK', ?_⟩⟩
    refine ⟨_, results_tmp2 rfl _ _ _, ?_, ?_⟩
    · have e : pv.toList.isEmpty = (pv.data.toList == []) := by
        rw [toList_is]; cases pv.data.toList <;> rfl
      rw [← HPV.out, ← e]; rfl
    · exact (show Below w.heap.size w W.drew from ⟨HB.out.os, HB.out.tape, HB.out.output, HB.out.size, HB.out.block⟩).trans (below_putObj _ _ _ _ (by omega))
  case stop =>
    rintro c W h
    exact h.elim
#print axioms parent_is
end Go.Proofs.Ythhdogokigpieaa.Oct
