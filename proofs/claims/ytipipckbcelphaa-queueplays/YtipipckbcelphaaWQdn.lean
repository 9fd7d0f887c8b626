/-
  Layer 21 (queue): a range over a function that tells nothing; Drain where it steps nothing.
-/
import Derived.RangeFuncNested
import Derived.RangeFuncBound
import Derived.RangeFuncCalls
import Derived.RangeFuncLeaves
import Derived.Shelf.RegionOpen
import Derived.OwnWalkIn
import Derived.TacticsInMore
import Derived.LoopNIn
import Derived.LoopIn
import Derived.Test.YtipipckbcelphaaWQlv
namespace Go.Proofs.Ytipipckbcelphaa.Oct
open Go.RowKit Go.Shelf
attribute [local go_sem] Oper.semAt_some
set_option linter.unusedSimpArgs false
set_option linter.unusedVariables false

theorem below_putObj (B : Nat) (W : World) (l : Nat) (o : Obj) (h : B ≤ l) : Below B W (W.putObj l o) :=
  ⟨rfl, rfl, rfl, by simp, fun _ hk => World.putObj_heap_other (by omega)⟩
theorem rangeNone {P : Program} {n : Nat} {g : Operand} {ps : Array Tmp} {assign body : Code} {Q : Exit → Act → World → Prop} {a : Act} {w : World} {gf : Nat} {lb : Array Value}
    (hg : a.eval g = .func (.func gf) #[] lb) (eg : ∀ args w, (callFunc gf args).run P w = .ok (.enter gf args) w)
    (hiter : ∀ (W : World), W.heap.size = w.heap.size + 2 → Below w.heap.size w W →
      CallsIn Fence.wide (n - 1) P gf (#[.func (.yield (w.heap.size + 1)) #[] #[]] ++ lb) W fun e B => (∃ v, e = .returned v) ∧ Below W.heap.size W B)
    (hdone : ∀ (W : World), Below w.heap.size w W → W.heap[w.heap.size]? = some (.deferred (some [])) → Q .normal { a with defers := { target := .collected w.heap.size, args := #[] } :: a.defers } W) :
    (Code.rangeFunc g ps assign body).wpIn Fence.wide n P Q a w := by
  refine wpIn_rangeFunc fun fn hfn => ?_
  obtain ⟨rec, hrec⟩ : ∃ rec : LoopState → Loop, rec = fun st => { state := st, pending := none, fn, tmps := a.tmps, params := ps, assign, body, defers := w.heap.size } := ⟨_, rfl⟩
  obtain ⟨W1, hW1⟩ : ∃ W1, (w.alloc (.deferred (some []))).alloc (.loop (rec .ready)) = W1 := ⟨_, rfl⟩
  have hS1 : W1.heap.size = w.heap.size + 2 := by rw [← hW1]; simp
  have hB1 : Below w.heap.size w W1 := by rw [← hW1]; exact ((Below.refl _ w).alloc (Nat.le_refl _) _).alloc (by simp) _
  have hL1 : W1.heap[w.heap.size + 1]? = some (.loop (rec .ready)) := by
    have e := World.alloc_heap_new (w.alloc (.deferred (some []))) (.loop (rec .ready))
    rw [World.size_alloc, hW1] at e
    exact e
  have hD1 : W1.heap[w.heap.size]? = some (.deferred (some [])) := by
    rw [← hW1]
    exact (Below.heap_alloc _ _ _ (by simp)).trans (World.alloc_heap_new w _)
  have hcall := hiter W1 hS1 hB1
  refine ⟨w.heap.size + 1, [{ target := .collected w.heap.size, args := #[] }], W1, { target := .fn (.func gf) lb, args := #[.func (.yield (w.heap.size + 1)) #[] #[]] }, W1, gf, #[.func (.yield (w.heap.size + 1)) #[] #[]] ++ lb, W1, ?_, ?_, ?_, ?_, ?_, ?_⟩
  · rw [← hW1, hrec]; exact run_enterLoop_outer _ _ _ _ _
  · simp only [resolve, hg]
    simp [go_sem]
  · intro f' _; trivial
  · simp [invoke, go_sem, eg]
  · intro h; cases h
  · refine hcall.mono ?_
    rintro e B ⟨⟨v, rfl⟩, hb⟩
    have hl : B.heap[w.heap.size + 1]? = some (.loop (rec .ready)) := (hb.block _ (by omega)).trans hL1
    have hd : B.heap[w.heap.size]? = some (.deferred (some [])) := (hb.block _ (by omega)).trans hD1
    have he := run_endLoop (P := P) hl (by rw [hrec]; simp)
    refine ⟨none, _, by rw [hrec] at he; exact he, ?_⟩
    exact hdone _ ((hB1.trans (hb.mono (by omega))).trans (below_putObj _ B _ _ (by omega))) ((World.putObj_heap_other (by omega)).trans hd)
#print axioms rangeNone
/-- what the iterator's Step would tell, or none is made -/
def NoStep (w : World) (p tv : Value) (n : Nat) : Prop := n = 0 ∨ ∀ W, Below w.heap.size w W → Calls Try.prog 15 #[p, tv] W fun e V => ∃ x y z r : Int, e = .returned (.tuple #[.agg #[iv x, iv y, iv z], iv r]) ∧ r ≠ 0 ∧ Below W.heap.size W V
set_option maxRecDepth 100000 in
set_option maxHeartbeats 2000000 in
theorem iter_none {w : World} (d l2 b5 b3 b4 n : Nat) (p tv : Value) (W : World) (hw : Below w.heap.size w W) (h5 : Blk W b5 3 [iv (n : Int)]) (h3 : Blk W b3 25 [p]) (h4 : Blk W b4 34 [tv]) (hn : n ≤ 64) (hs : NoStep w p tv n) :
    CallsIn Fence.wide d Try.prog 47 #[.func (.yield l2) #[] #[], .pointer (some ⟨b5, 0, none⟩), .pointer (some ⟨b3, 0, none⟩), .pointer (some ⟨b4, 0, none⟩)] W fun e B => (∃ v, e = .returned v) ∧ Below W.heap.size W B := by
  refine callsIn_of_wp Try.func47 rfl trivial ?_ rfl
  simp only [Try.ntmps47, List.size_toArray, List.length_cons, List.length_nil, Nat.reduceAdd, Nat.reduceSub, Array.replicate_succ, Array.replicate_zero, List.push_toArray, List.append_toArray, List.nil_append, List.cons_append]
  have hz38 := zero38
  have c5 : W.cell? ⟨b5, 0, none⟩ = some (iv (n : Int)) := h5.cell rfl
  have c3 : W.cell? ⟨b3, 0, none⟩ = some p := h3.cell rfl
  have c4 : W.cell? ⟨b4, 0, none⟩ = some tv := h4.cell rfl
  have HS : Hid (NoStep w p tv n ∧ Below w.heap.size w W) := ⟨hs, hw⟩
  have q0 : (n : Int) ≤ 64 := by omega
  clear h5 h3 h4 hs hw
  gi_wp2
  gi_loopw [8] (fun u wr => u = iv 0 ∧ W = wr) (fun _ _ => 0)
  case atStart => exact ⟨rfl, rfl⟩
  case round =>
    obtain ⟨rfl, rfl⟩ := hrel
    by_cases h0 : n = 0
    · have q1 : ¬ ((0 : Int) < (n : Int)) := by omega
      clear h0
      gi_wp2
      go_end0
      exact ⟨⟨_, rfl⟩, Below.refl _ _⟩
    · have q1 : (0 : Int) < (n : Int) := by omega
      have HST := (HS.out.1.resolve_left h0) W HS.out.2
      clear h0
      gi_wp2_with (refine ⟨trivial, (fun h => by cases h), ?_⟩; gi_at_call 15; refine (callsIn_wide.2 HST).mono ?_; rintro e W3 ⟨x, y, z, r, rfl, hr, hb3⟩; have hrb : (r != 0) = true := (by simpa using hr); have HB3 : Hid (Below W.heap.size W W3) := hb3; clear hb3 hr)
      refine ⟨fun _ h => (by cases h), ?_⟩
      gi_wp2
      refine bodyPost_ret (results_none rfl _ _ _) rfl ?_
      exact ⟨⟨_, rfl⟩, below_tr HB3.out (below_al _ _)⟩
#print axioms iter_none
set_option maxRecDepth 100000 in
theorem steps_isn (pp : Option Addr) (n : Nat) (W : World) : Calls Try.prog 41 #[.pointer pp, .nilFunc, iv (n : Int)] W fun e V => e = .returned (.func (.func 47) #[] #[.pointer (some ⟨W.heap.size + 2, 0, none⟩), .pointer (some ⟨W.heap.size, 0, none⟩), .pointer (some ⟨W.heap.size + 1, 0, none⟩)]) ∧ V = ((W.alloc (.cells #[.pointer pp] 25)).alloc (.cells #[.nilFunc] 34)).alloc (.cells #[iv (n : Int)] 3) := by
  have hmf : ∀ (fn : Fn) (first cap : Array Value) (w : World), (Instr.makeFunc fn first cap).run Try.prog w = .ok (.func fn first cap) w := fun _ _ _ _ => rfl
  go_enter Try.func41, Try.ntmps41
  go_wp2
  go_ret
  exact ⟨rfl, rfl⟩
set_option maxRecDepth 100000 in
set_option maxHeartbeats 2000000 in
theorem drain_nonen {w : World} {pp : Option Addr} {n : Nat} (hn : n ≤ 64) (hW : ∀ W, Below w.heap.size w W → Calls Try.prog 23 #[.pointer pp] W fun e V => ∃ a c, e = .returned (.slice a n c) ∧ Below W.heap.size W V) (hs : NoStep w (.pointer pp) .nilFunc n) :
    Calls Try.prog 19 #[.pointer pp, .nilFunc] w fun e w' => e = .returned (.slice none 0 0) ∧ Below w.heap.size w w' := by
  refine (callsIn_wide (n := 9)).1 ?_
  refine callsIn_of_wp_marks Try.func19 rfl trivial ?_ rfl
  simp only [Try.ntmps19, List.size_toArray, List.length_cons, List.length_nil, Nat.reduceAdd, Nat.reduceSub, Array.replicate_succ, Array.replicate_zero, List.push_toArray, List.append_toArray, List.nil_append, List.cons_append]
  have HW := hW (w.alloc (.cells #[.slice none 0 0] 28)) (below_al _ _)
  have q0 : (n : Int) ≤ 64 := by omega
  have HS : Hid (NoStep w (.pointer pp) .nilFunc n) := hs
  clear hW hs
  gi_wp2_with (first
    | (first | refine ⟨trivial, (fun h => by cases h), ?_⟩ | refine ⟨trivial, ?_⟩; gi_at_call 23; refine (callsIn_wide.2 HW).mono ?_; rintro e W1 ⟨a, c, rfl, hb1⟩; have HB1 : Hid (Below w.heap.size w W1 ∧ Blk W1 w.heap.size 28 [.slice none 0 0]) := ⟨below_tr (below_al _ _) hb1, (Blk.new w _ _).below hb1 (by simp)⟩; clear hb1)
    | (first | refine ⟨trivial, (fun h => by cases h), ?_⟩ | refine ⟨trivial, ?_⟩; gi_at_call 41; refine (callsIn_wide.2 (steps_isn pp n W1)).mono ?_; rintro e W2 ⟨rfl, hW2⟩))
  obtain ⟨W3, hW3⟩ : ∃ V, ((W1.alloc (.cells #[.pointer pp] 25)).alloc (.cells #[.nilFunc] 34)).alloc (.cells #[iv (n : Int)] 3) = V := ⟨_, rfl⟩
  have hB3 : Below W1.heap.size W1 W3 := by rw [← hW3]; exact (((Below.refl _ W1).alloc (Nat.le_refl _) _).alloc (by simp) _).alloc (by simp; omega) _
  have h3 : Blk W3 W1.heap.size 25 [.pointer pp] := by rw [← hW3]; exact ((Blk.new W1 _ _).alloc _).alloc _
  have h4 : Blk W3 (W1.heap.size + 1) 34 [.nilFunc] := by
    rw [← hW3]
    have := (Blk.new (W1.alloc (.cells #[.pointer pp] 25)) #[.nilFunc] 34).alloc (.cells #[iv (n : Int)] 3)
    rwa [World.size_alloc] at this
  have h5 : Blk W3 (W1.heap.size + 2) 3 [iv (n : Int)] := by
    rw [← hW3]
    have := Blk.new ((W1.alloc (.cells #[.pointer pp] 25)).alloc (.cells #[.nilFunc] 34)) #[iv (n : Int)] 3
    rwa [World.size_alloc, World.size_alloc] at this
  have hx : Blk W3 w.heap.size 28 [.slice none 0 0] := HB1.out.2.below hB3 HB1.out.2.lt
  have hw3 : Below w.heap.size w W3 := below_tr HB1.out.1 hB3
  rw [hW3]
  clear hW3 HW hB3
  refine rangeNone (gf := 47) (lb := #[.pointer (some ⟨W1.heap.size + 2, 0, none⟩), .pointer (some ⟨W1.heap.size, 0, none⟩), .pointer (some ⟨W1.heap.size + 1, 0, none⟩)]) rfl (enters_of Try.func47 (by kernel_rfl) rfl) ?iter ?done
  case iter =>
    intro W hsz hb
    exact iter_none (w := w) 8 _ (W1.heap.size + 2) W1.heap.size (W1.heap.size + 1) n (.pointer pp) .nilFunc W (below_tr hw3 hb) (h5.below hb h5.lt) (h3.below hb h3.lt) (h4.below hb h4.lt) hn HS.out
  case done =>
    intro W hb hK
    have hc : W.cell? ⟨w.heap.size, 0, none⟩ = some (.slice none 0 0) := (hx.below hb hx.lt).cell rfl
    have HF : Hid (Below w.heap.size w W) := below_tr hw3 hb
    have HK : Hid (W.heap[W3.heap.size]? = some (.deferred (some []))) := hK
    have HSZ : Hid (w.heap.size ≤ W3.heap.size) := hw3.size
    clear hb hK h3 h4 h5 hx hw3
    gi_wp2
    refine ⟨by simp, .inl ⟨_, _, rfl, run_takeDeferred HK.out, ?_⟩⟩
    exact ⟨_, results_tmp (t := 4) rfl _ _ _, rfl, HF.out.trans (below_putObj _ W _ _ HSZ.out)⟩
#print axioms drain_nonen
set_option maxRecDepth 100000 in
theorem steps_isf {F : Nat} {cs : Array Value} (pp : Option Addr) (n : Nat) (W : World) : Calls Try.prog 41 #[.pointer pp, (fnV F cs), iv (n : Int)] W fun e V => e = .returned (.func (.func 47) #[] #[.pointer (some ⟨W.heap.size + 2, 0, none⟩), .pointer (some ⟨W.heap.size, 0, none⟩), .pointer (some ⟨W.heap.size + 1, 0, none⟩)]) ∧ V = ((W.alloc (.cells #[.pointer pp] 25)).alloc (.cells #[(fnV F cs)] 34)).alloc (.cells #[iv (n : Int)] 3) := by
  have hmf : ∀ (fn : Fn) (first cap : Array Value) (w : World), (Instr.makeFunc fn first cap).run Try.prog w = .ok (.func fn first cap) w := fun _ _ _ _ => rfl
  go_enter Try.func41, Try.ntmps41
  go_wp2
  go_ret
  exact ⟨rfl, rfl⟩
set_option maxRecDepth 100000 in
set_option maxHeartbeats 2000000 in
theorem drain_nonef {F : Nat} {cs : Array Value} {w : World} {pp : Option Addr} {n : Nat} (hn : n ≤ 64) (hW : ∀ W, Below w.heap.size w W → Calls Try.prog 23 #[.pointer pp] W fun e V => ∃ a c, e = .returned (.slice a n c) ∧ Below W.heap.size W V) (hs : NoStep w (.pointer pp) (fnV F cs) n) :
    Calls Try.prog 19 #[.pointer pp, (fnV F cs)] w fun e w' => e = .returned (.slice none 0 0) ∧ Below w.heap.size w w' := by
  refine (callsIn_wide (n := 9)).1 ?_
  refine callsIn_of_wp_marks Try.func19 rfl trivial ?_ rfl
  simp only [Try.ntmps19, List.size_toArray, List.length_cons, List.length_nil, Nat.reduceAdd, Nat.reduceSub, Array.replicate_succ, Array.replicate_zero, List.push_toArray, List.append_toArray, List.nil_append, List.cons_append]
  have HW := hW (w.alloc (.cells #[.slice none 0 0] 28)) (below_al _ _)
  have q0 : (n : Int) ≤ 64 := by omega
  have HS : Hid (NoStep w (.pointer pp) (fnV F cs) n) := hs
  clear hW hs
  gi_wp2_with (first
    | (first | refine ⟨trivial, (fun h => by cases h), ?_⟩ | refine ⟨trivial, ?_⟩; gi_at_call 23; refine (callsIn_wide.2 HW).mono ?_; rintro e W1 ⟨a, c, rfl, hb1⟩; have HB1 : Hid (Below w.heap.size w W1 ∧ Blk W1 w.heap.size 28 [.slice none 0 0]) := ⟨below_tr (below_al _ _) hb1, (Blk.new w _ _).below hb1 (by simp)⟩; clear hb1)
    | (first | refine ⟨trivial, (fun h => by cases h), ?_⟩ | refine ⟨trivial, ?_⟩; gi_at_call 41; refine (callsIn_wide.2 (steps_isf pp n W1)).mono ?_; rintro e W2 ⟨rfl, hW2⟩))
  obtain ⟨W3, hW3⟩ : ∃ V, ((W1.alloc (.cells #[.pointer pp] 25)).alloc (.cells #[(fnV F cs)] 34)).alloc (.cells #[iv (n : Int)] 3) = V := ⟨_, rfl⟩
  have hB3 : Below W1.heap.size W1 W3 := by rw [← hW3]; exact (((Below.refl _ W1).alloc (Nat.le_refl _) _).alloc (by simp) _).alloc (by simp; omega) _
  have h3 : Blk W3 W1.heap.size 25 [.pointer pp] := by rw [← hW3]; exact ((Blk.new W1 _ _).alloc _).alloc _
  have h4 : Blk W3 (W1.heap.size + 1) 34 [(fnV F cs)] := by
    rw [← hW3]
    have := (Blk.new (W1.alloc (.cells #[.pointer pp] 25)) #[(fnV F cs)] 34).alloc (.cells #[iv (n : Int)] 3)
    rwa [World.size_alloc] at this
  have h5 : Blk W3 (W1.heap.size + 2) 3 [iv (n : Int)] := by
    rw [← hW3]
    have := Blk.new ((W1.alloc (.cells #[.pointer pp] 25)).alloc (.cells #[(fnV F cs)] 34)) #[iv (n : Int)] 3
    rwa [World.size_alloc, World.size_alloc] at this
  have hx : Blk W3 w.heap.size 28 [.slice none 0 0] := HB1.out.2.below hB3 HB1.out.2.lt
  have hw3 : Below w.heap.size w W3 := below_tr HB1.out.1 hB3
  rw [hW3]
  clear hW3 HW hB3
  refine rangeNone (gf := 47) (lb := #[.pointer (some ⟨W1.heap.size + 2, 0, none⟩), .pointer (some ⟨W1.heap.size, 0, none⟩), .pointer (some ⟨W1.heap.size + 1, 0, none⟩)]) rfl (enters_of Try.func47 (by kernel_rfl) rfl) ?iter ?done
  case iter =>
    intro W hsz hb
    exact iter_none (w := w) 8 _ (W1.heap.size + 2) W1.heap.size (W1.heap.size + 1) n (.pointer pp) (fnV F cs) W (below_tr hw3 hb) (h5.below hb h5.lt) (h3.below hb h3.lt) (h4.below hb h4.lt) hn HS.out
  case done =>
    intro W hb hK
    have hc : W.cell? ⟨w.heap.size, 0, none⟩ = some (.slice none 0 0) := (hx.below hb hx.lt).cell rfl
    have HF : Hid (Below w.heap.size w W) := below_tr hw3 hb
    have HK : Hid (W.heap[W3.heap.size]? = some (.deferred (some []))) := hK
    have HSZ : Hid (w.heap.size ≤ W3.heap.size) := hw3.size
    clear hb hK h3 h4 h5 hx hw3
    gi_wp2
    refine ⟨by simp, .inl ⟨_, _, rfl, run_takeDeferred HK.out, ?_⟩⟩
    exact ⟨_, results_tmp (t := 4) rfl _ _ _, rfl, HF.out.trans (below_putObj _ W _ _ HSZ.out)⟩
#print axioms drain_nonef
end Go.Proofs.Ytipipckbcelphaa.Oct
