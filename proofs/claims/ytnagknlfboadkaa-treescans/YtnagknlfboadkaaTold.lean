/-
  Layer 7 (tree): Scan, and what the statements' 'told' makes of it, over a leaf.
-/
import Derived.Test.YtnagknlfboadkaaScan
namespace Go.Proofs.Ytnagknlfboadkaa.Oct
open Go.RowKit Go.Shelf
attribute [local go_sem] Oper.semAt_some

theorem scan_yes (w : World) (m c : Nat) (r : Option Addr) (key til : ByteArray) (h : Mp w m (.pointer r) c) : Calls Try.prog 17 #[.pointer (some ⟨m, 0, none⟩), .string key, .string til] w fun e w' =>
    e = .returned (.func (.func 28) #[] #[.pointer (some ⟨w.heap.size + 2, 0, none⟩), .pointer (some ⟨w.heap.size, 0, none⟩), .pointer (some ⟨w.heap.size + 1, 0, none⟩)]) ∧ Hid (w' = ((w.alloc (.cells #[.string key] 9)).alloc (.cells #[.string til] 9)).alloc (.cells #[.pointer r] 46)) := by
  have hl := h.lt
  have HB : Hid (Below w.heap.size w ((w.alloc (.cells #[.string key] 9)).alloc (.cells #[.string til] 9))) := ((Below.refl _ w).alloc (Nat.le_refl _) _).alloc (by simp) _
  have h2 : Mp ((w.alloc (.cells #[.string key] 9)).alloc (.cells #[.string til] 9)) m (.pointer r) c := h.keep HB.out (Nat.le_refl _)
  have c0 := h2.cell (i := 0) rfl
  have c2 := h2.cell (i := 2) rfl
  clear h h2
  go_enter Try.func17, Try.ntmps17
  go_wp2_with (go_at_call 22; refine (made_is _ m true c2).mono ?_; rintro e w2 ⟨rfl, rfl⟩)
  go_ret
  exact ⟨rfl, rfl⟩
theorem nothing_in (d : Nat) (v : Value) (W : World) : CallsIn Fence.wide d Try.prog 27 #[v] W fun e B => (∃ v, e = .returned v) ∧ B = W := by
  refine callsIn_of_wp Try.func27 rfl trivial ?_ rfl
  simp only [Try.ntmps27, List.size_toArray, List.length_cons, List.length_nil, Nat.reduceAdd, Nat.reduceSub, Array.replicate_succ, Array.replicate_zero, List.push_toArray, List.append_toArray, List.nil_append, List.cons_append]
  gi_wp2
  go_end0
  exact ⟨⟨_, rfl⟩, rfl⟩
theorem scan_nil (w : World) (key til : ByteArray) : Calls Try.prog 17 #[.pointer none, .string key, .string til] w fun e w' => e = .returned (.func (.func 27) #[] #[]) ∧ Below w.heap.size w w' := by
  go_enter Try.func17, Try.ntmps17
  go_wp2_with (go_at_call 22; refine (made_nil _).mono ?_; rintro e w2 ⟨rfl, rfl⟩)
  go_ret
  exact ⟨rfl, ((Below.refl _ w).alloc (Nat.le_refl _) _).alloc (by simp) _⟩
theorem scan_no (w : World) (m : Nat) (key til : ByteArray) (h : w.cell? ⟨m, 2, none⟩ = some (.bool false)) : Calls Try.prog 17 #[.pointer (some ⟨m, 0, none⟩), .string key, .string til] w fun e w' => e = .returned (.func (.func 27) #[] #[]) ∧ Below w.heap.size w w' := by
  have hl := World.block_lt_of_cell? w _ h
  have HB : Hid (Below w.heap.size w ((w.alloc (.cells #[.string key] 9)).alloc (.cells #[.string til] 9))) := ((Below.refl _ w).alloc (Nat.le_refl _) _).alloc (by simp) _
  have c2 : ((w.alloc (.cells #[.string key] 9)).alloc (.cells #[.string til] 9)).cell? ⟨m, 2, none⟩ = some (.bool false) := (HB.out.cell (p := ⟨m, 2, none⟩) hl).trans h
  go_enter Try.func17, Try.ntmps17
  go_wp2_with (go_at_call 22; refine (made_is _ m false c2).mono ?_; rintro e w2 ⟨rfl, rfl⟩)
  go_ret
  exact ⟨rfl, HB.out⟩
theorem not_nil28 (l : Array Value) (W : World) : (binOp BinOp.eql 37 (Value.func (Fn.func 28) #[] l) Value.nilFunc).run Try.prog W = .ok (.bool false) W := by
  first | rfl | kernel_rfl | simp [binOp, go_sem]
theorem not_nil27 (W : World) : (binOp BinOp.eql 37 (Value.func (Fn.func 27) #[] #[]) Value.nilFunc).run Try.prog W = .ok (.bool false) W := by
  first | rfl | kernel_rfl | simp [binOp, go_sem]

/-- between two rounds of 'told' -/
structure TInv (w : World) (nd : Nat) (key til : ByteArray) (ys : List Pr) (s : Nat) (A : World) : Prop where
  be : Below w.heap.size w A
  out : ∃ v, A.heap[w.heap.size]? = some (.cells #[v] 27) ∧ A.ownsRow (w.heap.size + 4) 40 2 v s ((ys.take s).flatMap pc)
  fr : A.heap[w.heap.size + 1]? = some (.cells #[.string key] 9)
  un : A.heap[w.heap.size + 2]? = some (.cells #[.string til] 9)
  ro : A.heap[w.heap.size + 3]? = some (.cells #[.pointer (some ⟨nd, 0, none⟩)] 46)
  le : w.heap.size + 4 ≤ A.heap.size
theorem own_below {w w' : World} {B C : Nat} {v : Value} {n : Nat} {xs : List Value} (h : w.ownsRow B 40 2 v n xs) (hb : Below C w w') (hC : w.heap.size ≤ C) : w'.ownsRow B 40 2 v n xs := by
  refine ⟨h.1, ?_⟩
  rcases h.2 with h2 | ⟨g, cap, cur, e, h3, h4, h5⟩
  · exact .inl h2
  · exact .inr ⟨g, cap, cur, e, h3, (hb.block g (Nat.lt_of_lt_of_le (lt_of_block h4) hC)).trans h4, h5⟩
theorem own_set {w : World} {B b : Nat} {v u : Value} {n : Nat} {xs : List Value} (h : w.ownsRow B 40 2 v n xs) (hb : b < B) : (w.setCell ⟨b, 0, none⟩ u).ownsRow B 40 2 v n xs := by
  refine ⟨h.1, ?_⟩
  rcases h.2 with h2 | ⟨g, cap, cur, e, h3, h4, h5⟩
  · exact .inl h2
  · exact .inr ⟨g, cap, cur, e, h3, by rw [heap_setCell_other w ⟨b, 0, none⟩ g u (by simp; omega)]; exact h4, h5⟩

theorem own_rows {w w' : World} {B C : Nat} {v : Value} {n : Nat} {xs : List Value} (h : w.ownsRow B 40 2 v n xs) (hb : BelowR C w w') : w'.ownsRow B 40 2 v n xs := by
  refine ⟨h.1, ?_⟩
  rcases h.2 with h2 | ⟨g, cap, cur, e, h3, h4, h5⟩
  · exact .inl h2
  · exact .inr ⟨g, cap, cur, e, h3, (hb.rows g (lt_of_block h4) ⟨cur, _, h4⟩).trans h4, h5⟩
theorem own_mono {w : World} {B B' : Nat} {v : Value} {n : Nat} {xs : List Value} (h : w.ownsRow B 40 2 v n xs) (hb : B' ≤ B) : w.ownsRow B' 40 2 v n xs := by
  refine ⟨h.1, ?_⟩
  rcases h.2 with h2 | ⟨g, cap, cur, e, h3, h4⟩
  · exact .inl h2
  · exact .inr ⟨g, cap, cur, e, Nat.le_trans hb h3, h4⟩
theorem own_shape {w : World} {B : Nat} {v : Value} {n : Nat} {xs : List Value} (h : w.ownsRow B 40 2 v (n + 1) xs) : ∃ g cap, v = .slice (some ⟨g, 0, none⟩) (n + 1) cap := by
  rcases h.2 with ⟨_, e⟩ | ⟨g, cap, cur, e, _⟩
  · omega
  · exact ⟨g, cap, e⟩
theorem told_box {A w' : World} {b n : Nat} {v : Value} {o : Obj} {B : Nat} {xs : List Value} (hv : A.heap[b]? = some (.cells #[v] 27)) (ho : A.ownsRow B 40 2 v n xs) (hg : (A.alloc o).grownBy w' v.ownBlock) (hb : b < B) : w'.heap[b]? = some (.cells #[v] 27) := by
  have hlt := lt_of_block hv
  refine (hg.block b (by simp; omega) fun e => ?_).trans ((Below.heap_alloc A o b hlt).trans hv)
  have := (ho.lt b e.symm).1
  omega
theorem TInv.step {w A w' : World} {nd s : Nat} {key til : ByteArray} {ys : List Pr} {x : Pr} {v v' : Value} (h : TInv w nd key til ys s A) (hv : A.heap[w.heap.size]? = some (.cells #[v] 27)) (ho : A.ownsRow (w.heap.size + 4) 40 2 v s ((ys.take s).flatMap pc)) (hx : ys[s]? = some x)
    (hg : (A.alloc (.cells #[.string x.1, .string x.2] 40)).grownBy w' v.ownBlock) (ho' : w'.ownsRow (w.heap.size + 4) 40 2 v' (s + 1) ((ys.take s).flatMap pc ++ pc x)) :
    TInv w nd key til ys (s + 1) (w'.setCell ⟨w.heap.size, 0, none⟩ v') ∧ Held (w.heap.size + 4) A (w'.setCell ⟨w.heap.size, 0, none⟩ v') := by
  have hrow : ∀ b, v.ownBlock = some b → w.heap.size + 4 ≤ b ∧ RowAt A b := by
    intro b hb
    rcases ho.2 with ⟨rfl, _⟩ | ⟨g, cap, cur, rfl, h3, h4, _⟩
    · cases hb
    · have : g = b := by simpa [Value.ownBlock] using hb
      subst this
      exact ⟨h3, cur, (0, 0), h4⟩
  have old : ∀ b, b < A.heap.size → some b ≠ v.ownBlock → w'.heap[b]? = A.heap[b]? := fun b hb hne =>
    (hg.block b (by simp; omega) hne).trans (Below.heap_alloc A _ b hb)
  have low : ∀ b, b < w.heap.size + 4 → w'.heap[b]? = A.heap[b]? := fun b hb => old b (by have := h.le; omega) (fun e => by have := (hrow b e.symm).1; omega)
  have low' : ∀ b, b < w.heap.size + 4 → b ≠ w.heap.size → (w'.setCell ⟨w.heap.size, 0, none⟩ v').heap[b]? = A.heap[b]? := fun b hb hne => by
    rw [heap_setCell_other w' ⟨w.heap.size, 0, none⟩ b v' hne]; exact low b hb
  have hsz : A.heap.size ≤ w'.heap.size := Nat.le_trans (by simp) hg.size
  have hlt := (List.getElem?_eq_some_iff.1 hx).1
  refine ⟨⟨?_, ⟨v', ?_, ?_⟩, ?_, ?_, ?_, ?_⟩, ?_, ?_⟩
  · refine ⟨hg.os.trans h.be.os, hg.tape.trans h.be.tape, hg.output.trans h.be.output, by simp; have := h.be.size; omega, fun b hb => ?_⟩
    rw [low' b (by omega) (by omega)]; exact h.be.block b hb
  · have e := low w.heap.size (by omega)
    rw [hv] at e
    have := heap_setCell_same w' w.heap.size 0 _ 27 v' e
    simpa using this
  · have e : ys.take (s + 1) = ys.take s ++ [x] := by rw [List.take_add_one, hx]; rfl
    rw [e, List.flatMap_append]
    exact own_set (by simpa using ho') (by omega)
  · rw [low' _ (by omega) (by omega)]; exact h.fr
  · rw [low' _ (by omega) (by omega)]; exact h.un
  · rw [low' _ (by omega) (by omega)]; exact h.ro
  · simp; have := h.le; omega
  · simp; exact hsz
  · intro b h1 h2 h3
    rw [heap_setCell_other w' ⟨w.heap.size, 0, none⟩ b v' (by show b ≠ w.heap.size; omega)]
    exact old b h1 (fun e => h3 (hrow b e.symm).2)
#print axioms TInv.step

set_option maxRecDepth 100000 in
set_option maxHeartbeats 2000000 in
theorem told_yes (w : World) (m nd n cap c : Nat) (a : Option Addr) (ps : List Pr) (key til : ByteArray) (k : Nat) (hmp : Mp w m (.pointer (some ⟨nd, 0, none⟩)) c) (hnd : Nd w nd a n cap ps (.slice none 0 0)) (hn : n ≤ 1000000) (hm : Mono ps key) (ha : AtP ps key k) :
    Calls Try.prog 13 #[.pointer (some ⟨m, 0, none⟩), .string key, .string til] w fun e w' => ∃ v, e = .returned v ∧ Hid (w'.ownsRow w.heap.size 40 2 v (scanP ps k til).length ((scanP ps k til).flatMap pc)) ∧ Hid (Below w.heap.size w w') := by
  have HN : Hid (Nd w nd a n cap ps (.slice none 0 0) ∧ n ≤ 1000000 ∧ Mono ps key ∧ AtP ps key k) := ⟨hnd, hn, hm, ha⟩
  have HM : Hid (Mp w m (.pointer (some ⟨nd, 0, none⟩)) c) := hmp
  clear hmp hnd hn hm ha
  obtain ⟨ys, hys⟩ : ∃ ys, scanP ps k til = ys := ⟨_, rfl⟩
  rw [hys]
  have HYS : Hid (scanP ps k til = ys) := hys
  have HLY : Hid (ys.length ≤ 1000000) := by
    show _ ≤ _
    have h1 := takeWhile_le (okS til) (ps.drop k)
    have h2 := HN.out.1.rd.1
    have h3 := HN.out.2.1
    rw [← hys, scanP]
    rw [List.length_drop] at h1
    omega
  clear hys
  refine (callsIn_wide (n := 3)).1 ?_
  refine callsIn_of_wp_marks Try.func13 rfl trivial ?_ rfl
  simp only [Try.ntmps13, List.size_toArray, List.length_cons, List.length_nil, Nat.reduceAdd, Nat.reduceSub, Array.replicate_succ, Array.replicate_zero, List.push_toArray, List.append_toArray, List.nil_append, List.cons_append]
  have HB0 : Hid (Below w.heap.size w (w.alloc (.cells #[.slice none 0 0] 27))) := (Below.refl _ w).alloc (Nat.le_refl _) _
  have nn := not_nil28
  gi_wp2_with (refine ⟨trivial, ?_⟩; gi_at_call 17; refine (callsIn_wide.2 (scan_yes _ m c _ key til (HM.out.keep HB0.out (Nat.le_refl _)))).mono ?_; rintro e w1 ⟨rfl, HW1⟩)
  have hw1 := HW1.out
  have HS1 : Hid (w1.heap.size = w.heap.size + 4) := by show _ = _; rw [hw1]; simp
  have HI0 : Hid (TInv w nd key til ys 0 w1) := by
    have b0 : w1.heap[w.heap.size]? = some (.cells #[.slice none 0 0] 27) := by
      rw [hw1, Below.heap_alloc _ _ _ (by simp; omega), Below.heap_alloc _ _ _ (by simp; omega), Below.heap_alloc _ _ _ (by simp)]
      exact World.alloc_heap_new w _
    have b1 : w1.heap[w.heap.size + 1]? = some (.cells #[.string key] 9) := by
      have e := World.alloc_heap_new (w.alloc (.cells #[.slice none 0 0] 27)) (.cells #[.string key] 9)
      rw [World.size_alloc] at e
      rw [hw1, Below.heap_alloc _ _ _ (by simp), Below.heap_alloc _ _ _ (by simp)]
      exact e
    have b2 : w1.heap[w.heap.size + 2]? = some (.cells #[.string til] 9) := by
      have e := World.alloc_heap_new ((w.alloc (.cells #[.slice none 0 0] 27)).alloc (.cells #[.string key] 9)) (.cells #[.string til] 9)
      rw [World.size_alloc, World.size_alloc] at e
      rw [hw1, Below.heap_alloc _ _ _ (by simp)]
      exact e
    have b3 : w1.heap[w.heap.size + 3]? = some (.cells #[.pointer (some ⟨nd, 0, none⟩)] 46) := by
      have e := World.alloc_heap_new (((w.alloc (.cells #[.slice none 0 0] 27)).alloc (.cells #[.string key] 9)).alloc (.cells #[.string til] 9)) (.cells #[.pointer (some ⟨nd, 0, none⟩)] 46)
      rw [World.size_alloc, World.size_alloc, World.size_alloc] at e
      rw [hw1]
      exact e
    refine ⟨?_, ⟨_, b0, World.ownsRow_nil _ _ _ _⟩, b1, b2, b3, Nat.le_of_eq HS1.out.symm⟩
    rw [hw1]
    exact (((HB0.out.alloc (by simp) _).alloc (by simp; omega) _).alloc (by simp; omega) _)
  clear hw1 HW1 HB0 nn
  obtain ⟨i0, hi0, hii⟩ := Option.map_eq_some_iff.1 info40
  simp only [Prod.mk.injEq] at hii
  refine rangeLeave (gf := 28) (lb := #[.pointer (some ⟨w.heap.size + 1 + 2, 0, none⟩), .pointer (some ⟨w.heap.size + 1, 0, none⟩), .pointer (some ⟨w.heap.size + 1 + 1, 0, none⟩)]) rfl (enters_of Try.func28 (by kernel_rfl) rfl) (fun _ x => encQ x) (fun _ _ => rfl) ys
    (TInv w nd key til ys) (fun _ _ => False) ?hI (fun _ _ _ h _ => h) HI0.out
    (fun _ x => { tmps := #[.pointer (some ⟨m, 0, none⟩), .string key, .string til, undef, undef, undef, .slice none 0 0, .pointer (some ⟨w.heap.size, 0, none⟩), .func (.func 28) #[] #[.pointer (some ⟨w.heap.size + 1 + 2, 0, none⟩), .pointer (some ⟨w.heap.size + 1, 0, none⟩), .pointer (some ⟨w.heap.size + 1 + 1, 0, none⟩)], .string x.1, .string x.2, .pointer (some ⟨m, 0, none⟩), .string key, .string til, .func (.func 28) #[] #[.pointer (some ⟨w.heap.size + 1 + 2, 0, none⟩), .pointer (some ⟨w.heap.size + 1, 0, none⟩), .pointer (some ⟨w.heap.size + 1 + 1, 0, none⟩)], .func (.func 28) #[] #[.pointer (some ⟨w.heap.size + 1 + 2, 0, none⟩), .pointer (some ⟨w.heap.size + 1, 0, none⟩), .pointer (some ⟨w.heap.size + 1 + 1, 0, none⟩)], .bool false, .func (.func 28) #[] #[.pointer (some ⟨w.heap.size + 1 + 2, 0, none⟩), .pointer (some ⟨w.heap.size + 1, 0, none⟩), .pointer (some ⟨w.heap.size + 1 + 1, 0, none⟩)], .string x.1, .string x.2, undef, undef, undef, undef, undef, undef, undef], defers := [] }) ?assign ?body ?iter ?done ?stop
  case hI =>
    rintro t A B h hb
    rw [HS1.out] at hb
    obtain ⟨v, h1, h2⟩ := h.out
    exact ⟨h.be.trans (hb.below.mono (by omega)), ⟨v, (hb.below.block _ (by omega)).trans h1, own_rows h2 hb⟩, (hb.below.block _ (by omega)).trans h.fr, (hb.below.block _ (by omega)).trans h.un, (hb.below.block _ (by omega)).trans h.ro, Nat.le_trans h.le hb.below.size⟩
  case assign =>
    intro t x A K hK
    dsimp only [encQ]
    gi_wp2
    exact hK
  case body =>
    rintro t x A h hx hlt
    obtain ⟨v, h1, h2⟩ := h.out
    have HI : Hid (TInv w nd key til ys t A) := h
    have HX : Hid (ys[t]? = some x) := hx
    have HV : Hid (A.heap[w.heap.size]? = some (.cells #[v] 27)) := h1
    have HO : Hid (A.ownsRow (w.heap.size + 4) 40 2 v t ((ys.take t).flatMap pc)) := h2
    have cv := cell_one h1
    have HL : Hid (t < ys.length) := (List.getElem?_eq_some_iff.1 hx).1
    have hlw : w.heap.size < A.heap.size := by have := h.le; omega
    have HC : Hid (∀ j u, (pc x)[j]? = some u → (A.alloc (.cells #[.string x.1, .string x.2] 40)).cell? ((⟨A.heap.size, 0, none⟩ : Addr).add j) = some u) := by
      intro j u hu
      rw [Addr.add_lit, Nat.zero_add]
      exact (Blk.new A #[.string x.1, .string x.2] 40).cell hu
    have HOA : Hid ((A.alloc (.cells #[.string x.1, .string x.2] 40)).ownsRow (w.heap.size + 4) 40 2 v t ((ys.take t).flatMap pc)) := own_below h2 ((Below.refl A.heap.size A).alloc (Nat.le_refl _) _) (Nat.le_refl _)
    clear h hx h1 h2 hlt
    gi_wp2_with (
      with_reducible change wpListIn _ _ _ _ _ ({ dst := some 25, op := _, type := _, pos := _, after := _, guard := _ } :: _) _ _
      refine wpListIn_append_own (A.alloc (.cells #[.string x.1, .string x.2] 40)) rfl (.tmp 20) (.tmp 24) 27 rfl (w.heap.size + 4) 40 i0 _ 2 32 Try.underlying27 hi0 hii.1 hii.2.1 hii.2.2 rfl (by omega) v t _ rfl HOA.out ⟨A.heap.size, 0, none⟩ 1 1 (pc x) rfl rfl HC.out (by intro u hu; simp only [pc, List.mem_cons, List.not_mem_nil, or_false] at hu; rcases hu with rfl | rfl <;> rfl) (by have := HL.out; have := HLY.out; unfold maxLen; omega) (by have := HL.out; have := HLY.out; omega) (by have := HI.out.le; simp; omega) ?_
      intro v' w' ho' hg' hn'
      obtain ⟨g', cap', rfl⟩ := own_shape ho'
      have HO' : Hid (w'.ownsRow (w.heap.size + 4) 40 2 (.slice (some ⟨g', 0, none⟩) (t + 1) cap') (t + 1) ((ys.take t).flatMap pc ++ pc x)) := ho'
      have HG' : Hid ((A.alloc (.cells #[.string x.1, .string x.2] 40)).grownBy w' v.ownBlock) := hg'
      have hv' := told_box HV.out HO.out hg' (by omega)
      have cw := cell_one hv'
      have fw : w'.frozen? ⟨w.heap.size, 0, none⟩ = false := frozen_of_row w' w.heap.size 0 _ 27 hv'
      clear ho' hg' hn' hv')
    have hE := TInv.step HI.out HV.out HO.out HX.out HG'.out HO'.out
    exact ⟨hE.1, by rw [HS1.out]; exact hE.2⟩
  case iter =>
    intro J' Jx' A hS hB hJ'b hJx'b hJ'I hJ'X hY' h0'
    have := scan2_in 2 (w1.heap.size + 1) (w.heap.size + 1 + 2) (w.heap.size + 1) (w.heap.size + 1 + 1) nd n cap a ps key til k HN.out.2.1 HN.out.2.2.1 HN.out.2.2.2 (w1.heap.size + 2) J' Jx' hJ'b hJx'b ?_ ?_ ?_ A hS h0'
    · rw [HYS.out] at this; exact this
    · intro A hA
      obtain ⟨⟨c, hc⟩, _⟩ := hJ'X A hA
      exact hc.elim
    · intro t A hA
      obtain ⟨hI, hsz⟩ := hJ'I t A hA
      exact ⟨cell_one hI.ro, cell_one hI.fr, cell_one hI.un, HN.out.1.below hI.be (Nat.le_refl _), hsz⟩
    · intro t x A hj hx
      rw [HYS.out] at hx
      exact YieldAt.deep 0 (hY' t x A hj hx)
  case done =>
    rintro A h hK
    obtain ⟨v, h1, h2⟩ := h.out
    have HI : Hid (TInv w nd key til ys ys.length A) := h
    have HO : Hid (A.ownsRow (w.heap.size + 4) 40 2 v ys.length ((ys.take ys.length).flatMap pc)) := h2
    have cv := cell_one h1
    have HK : Hid (A.heap[w1.heap.size]? = some (.deferred (some []))) := hK
    clear h h1 h2 hK
    gi_wp2
    refine ⟨by simp, .inl ⟨_, _, rfl, run_takeDeferred HK.out, ?_⟩⟩
    refine ⟨_, results_tmp rfl _ _ _, v, rfl, ?_, HI.out.be.trans (below_putObj _ A _ _ (by have := HS1.out; omega))⟩
    have e := HO.out
    rw [List.take_length] at e
    exact own_mono (own_rows e (belowR_putObj (D := w.heap.size) _ (by have := HS1.out; omega) HK.out def_row)) (by omega)
  case stop => rintro c A h; exact h.elim
#print axioms told_yes
end Go.Proofs.Ytnagknlfboadkaa.Oct
