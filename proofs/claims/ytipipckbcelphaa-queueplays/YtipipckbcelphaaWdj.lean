/-
  Layer 21 (queue): Drain whole: what its loop keeps.
-/
import Derived.Test.YtipipckbcelphaaWtr
namespace Go.Proofs.Ytipipckbcelphaa.Oct
open Go.RowKit Go.Shelf
set_option linter.unusedSimpArgs false
set_option linter.unusedVariables false

/-- what a Drain tells -/
def dr (r : Nat → Int) : Nat → List Int → List (Int × Int × Int)
  | _, [] => []
  | s, x :: t => (x, hw (r s), r s) :: dr r (s + 1) t
theorem dr_len (r : Nat → Int) : ∀ (s : Nat) (l : List Int), (dr r s l).length = l.length
  | _, [] => rfl
  | s, x :: t => by simp [dr, dr_len r (s + 1) t]
theorem dr_at (r : Nat → Int) : ∀ (s : Nat) (l : List Int) (i : Nat) (x : Int), l[i]? = some x → (dr r s l)[i]? = some (x, hw (r (s + i)), r (s + i))
  | _, [], i, x, h => by simp at h
  | s, y :: t, 0, x, h => by simp at h; subst h; simp [dr]
  | s, y :: t, i + 1, x, h => by
    have := dr_at r (s + 1) t i x (by simpa using h)
    rw [show s + 1 + i = s + (i + 1) by omega] at this
    simpa [dr] using this
theorem take_succ_at {α : Type} {l : List α} {s : Nat} {x : α} (h : l[s]? = some x) : l.take (s + 1) = l.take s ++ [x] := by
  obtain ⟨h1, h2⟩ := List.getElem?_eq_some_iff.1 h
  rw [List.take_succ_eq_append_getElem h1, h2]
/-- a call's answers lie elsewhere -/
def AwayA (y : Av) (k : Nat) : Prop := 0 < y.sn → ∀ o, y.sa ≠ some ⟨k, o, none⟩
/-- where a Drain stands: s stepped, t told. d: the block of the loop's deferred calls; bs: blocks that are read alone -/
structure DJ (w W : World) (b b11 b12 g6 bt b5 b3 b4 d : Nat) (y : Av) (M : Qu) (K m s t : Nat) (M' : Qu) (tv : Value) : Prop where
  q : QAt W b M' .nilFunc K
  W' : M'.W = M.W.drop s
  E' : M'.E = M.E ++ (dr (ansR y.l) 0 M.W).take s
  k11 : Blk W b11 3 [iv (s : Int)]
  k12 : Blk W b12 43 [.func (.func 18) #[] #[.pointer (some ⟨b11, 0, none⟩), .pointer (some ⟨g6, 0, none⟩)]]
  k6 : Blk W g6 32 y.cells
  ar : ArgN W y.sa y.sn y.sc y.l
  kt : Blk W bt 28 [tv]
  tr : Ow W 38 3 tv t (qdC ((dr (ansR y.l) 0 M.W).take t))
  k5 : Blk W b5 3 [iv (m : Int)]
  k3 : Blk W b3 25 [.pointer (some ⟨b, 0, none⟩)]
  k4 : Blk W b4 34 [fnV 20 #[.pointer (some ⟨b12, 0, none⟩)]]
  kp : Keep (fun k => k ∈ M.bl b ∨ k = b11) w W
  bl : ∀ k ∈ M'.bl b, k ∈ M.bl b ∨ w.heap.size ≤ k
  s1 : ∀ k ∈ M'.bl b, k ≠ b11 ∧ k ≠ b12 ∧ k ≠ g6 ∧ k ≠ bt ∧ k ≠ b5 ∧ k ≠ b3 ∧ k ≠ b4 ∧ k ≠ d ∧ k ≠ d + 1 ∧ tv.ownBlock ≠ some k ∧ AwayA y k
  s2 : ∀ k, tv.ownBlock = some k → k ≠ b11 ∧ k ≠ b12 ∧ k ≠ g6 ∧ k ≠ bt ∧ k ≠ b5 ∧ k ≠ b3 ∧ k ≠ b4 ∧ k ≠ d ∧ k ≠ d + 1 ∧ w.heap.size ≤ k ∧ AwayA y k
  s3 : b11 ≠ b12 ∧ b11 ≠ g6 ∧ b11 ≠ bt ∧ b11 ≠ b5 ∧ b11 ≠ b3 ∧ b11 ≠ b4 ∧ b11 ≠ d ∧ b11 ≠ d + 1 ∧ AwayA y b11
  s4 : bt ≠ b12 ∧ bt ≠ g6 ∧ bt ≠ b5 ∧ bt ≠ b3 ∧ bt ≠ b4 ∧ bt ≠ d ∧ bt ≠ d + 1 ∧ w.heap.size ≤ bt ∧ AwayA y bt
  s5 : b12 ≠ d + 1 ∧ g6 ≠ d + 1 ∧ b5 ≠ d + 1 ∧ b3 ≠ d + 1 ∧ b4 ≠ d + 1 ∧ w.heap.size ≤ d ∧ AwayA y (d + 1)
  n1 : M.W.length = m ∧ m ≤ 64 ∧ s ≤ m ∧ t ≤ s
section
variable {w W V : World} {b b11 b12 g6 bt b5 b3 b4 d K m s t : Nat} {y : Av} {M M' : Qu} {tv : Value}
theorem argN_same (h : ArgN W y.sa y.sn y.sc y.l) (hs : 0 < y.sn → ∀ g o, y.sa = some ⟨g, o, none⟩ → g < W.heap.size → V.heap[g]? = W.heap[g]?) (hz : W.heap.size ≤ V.heap.size) : ArgN V y.sa y.sn y.sc y.l := by
  obtain ⟨h1, h2, h3, h4, h5⟩ := h
  refine ⟨h1, h2, h3, h4, fun hp => ?_⟩
  obtain ⟨g, o, e1, e2, e3⟩ := h5 hp
  exact ⟨g, o, e1, Nat.lt_of_lt_of_le e2 hz, fun i x hx => (World.cell?_of_block (a := ⟨g, o + i, none⟩) (hs hp g o e1 e2)).trans (e3 i x hx)⟩
theorem DJ.below (h : DJ w W b b11 b12 g6 bt b5 b3 b4 d y M K m s t M' tv) (hb : Below W.heap.size W V) : DJ w V b b11 b12 g6 bt b5 b3 b4 d y M K m s t M' tv :=
  ⟨h.q.below hb, h.W', h.E', h.k11.below hb h.k11.lt, h.k12.below hb h.k12.lt, h.k6.below hb h.k6.lt, argN_same h.ar (fun _ g _ _ hg => hb.block g hg) hb.size, h.kt.below hb h.kt.lt, h.tr.below hb, h.k5.below hb h.k5.lt, h.k3.below hb h.k3.lt, h.k4.below hb h.k4.lt, h.kp.trans (Keep.below (S := fun k => k ∈ M.bl b ∨ k = b11) hb) (fun _ hj _ => hj), h.bl, h.s1, h.s2, h.s3, h.s4, h.s5, h.n1⟩
/-- another block is turned: the loop's record -/
theorem DJ.putObj (h : DJ w W b b11 b12 g6 bt b5 b3 b4 d y M K m s t M' tv) (o : Obj) : DJ w (W.putObj (d + 1) o) b b11 b12 g6 bt b5 b3 b4 d y M K m s t M' tv := by
  have hs : ∀ k, k ≠ d + 1 → (W.putObj (d + 1) o).heap[k]? = W.heap[k]? := fun k hk => World.putObj_heap_other (by omega)
  refine ⟨h.q.same fun k hk => hs k (h.s1 k hk).2.2.2.2.2.2.2.2.1, h.W', h.E', (hs _ h.s3.2.2.2.2.2.2.2.1).trans h.k11, (hs _ h.s5.1).trans h.k12, (hs _ h.s5.2.1).trans h.k6, argN_same h.ar (fun hp g o' e _ => hs g (fun e' => h.s5.2.2.2.2.2.2 hp o' (by rw [← e']; exact e))) (by simp), (hs _ h.s4.2.2.2.2.2.2.1).trans h.kt, h.tr.same fun g hg => hs g (h.s2 g hg).2.2.2.2.2.2.2.2.1, (hs _ h.s5.2.2.1).trans h.k5, (hs _ h.s5.2.2.2.1).trans h.k3, (hs _ h.s5.2.2.2.2.1).trans h.k4, ?_, h.bl, h.s1, h.s2, h.s3, h.s4, h.s5, h.n1⟩
  refine ⟨h.kp.os, h.kp.tape, h.kp.output, by simpa using h.kp.size, fun k hk hn => (hs k (by have := h.s5.2.2.2.2.2.1; omega)).trans (h.kp.block k hk hn)⟩
end
/-- one more is stepped -/
theorem DJ.step {w W : World} {b b11 b12 g6 bt b5 b3 b4 d K m s : Nat} {y : Av} {M M' : Qu} {tv : Value} (h : DJ w W b b11 b12 g6 bt b5 b3 b4 d y M K m s s M' tv) (hd : d + 1 < W.heap.size) {x : Int} (hx : M.W[s]? = some x) :
    Calls Try.prog 15 #[.pointer (some ⟨b, 0, none⟩), fnV 20 #[.pointer (some ⟨b12, 0, none⟩)]] W fun e V => ∃ M2, e = .returned (.tuple #[.agg (qd (x, hw (ansR y.l s), ansR y.l s)).toArray, iv 0]) ∧ DJ w V b b11 b12 g6 bt b5 b3 b4 d y M K m (s + 1) s M2 tv ∧ V.heap[d]? = W.heap[d]? ∧ V.heap[d + 1]? = W.heap[d + 1]? ∧ W.heap.size ≤ V.heap.size := by
  have hsl : s < m := by rw [← h.n1.1]; exact (List.getElem?_eq_some_iff.1 hx).1
  have hx' : M'.W[0]? = some x := by rw [h.W', List.getElem?_drop]; exact hx
  have hbM : b ∈ M'.bl b := by simp [Qu.bl]
  have hnb := h.s1 b hbM
  have lt11 := h.k11.lt
  refine (step_yes (K' := K) (S0 := fun k => k = b11) (R := fun r M2 A V => r = ansR y.l s ∧ M2 = M' ∧ Blk V b11 3 [iv ((s : Int) + 1)]) h.q hx' (enters_of Try.func20 (by kernel_rfl) rfl) (fun e => by omega) (fun e => by omega) ?_ ?_).mono ?_
  · rintro r M2 A V ⟨_, rfl, _⟩
    exact ⟨hx', fun k hk => .inl hk⟩
  · intro A hq hk hs
    have hb : ∀ k, k ≠ b → k < W.heap.size → A.heap[k]? = W.heap[k]? := fun k hk' hl => hk.block k hl hk'
    refine (try20 (s := s) (y := y) x (hk.blk h.k12 (fun e => hnb.2.1 e.symm)) (hk.blk h.k11 (fun e => hnb.1 e.symm)) (hk.blk h.k6 (fun e => hnb.2.2.1 e.symm)) (argN_same h.ar (fun hp g o e hg => hb g (fun e' => hnb.2.2.2.2.2.2.2.2.2.2 hp o (by rw [← e']; exact e)) hg) hk.size) (by have := h.n1; omega) (fun e => h.s3.2.1 e.symm) (fun hp b' o e e' => h.s3.2.2.2.2.2.2.2.2 hp o (by rw [← e']; exact e))).mono ?_
    rintro e V ⟨rfl, k1, k2⟩
    exact ⟨_, M', rfl, hq.keep k2 (fun k hk e => (h.s1 k hk).1 e), k2, rfl, rfl, k1⟩
  · rintro e V ⟨A, V1, r, M2, v, u, rfl, k1, k2, k3, ⟨rfl, rfl, k4⟩, k5, k6, k7⟩
    have e1 := k1.size
    have e2 := k3.size
    have e3 := k7.size
    have hch : ∀ k, k < W.heap.size → k ∉ M2.bl b → k ≠ b11 → V.heap[k]? = W.heap[k]? := fun k hk m1 m2 => by
      have f1 := k1.block k hk (fun e => m1 (by rw [e]; simp [Qu.bl]))
      have f2 := k3.block k (by omega) (fun e => m2 e)
      have f3 := k7.block k (by omega) (fun e => by rcases e with e | e; exact m1 e; omega)
      rw [f3, f2, f1]
    have nM : ∀ k ∈ Qu.bl ⟨v, u, M2.W.eraseIdx 0, M2.E ++ [(x, hw (ansR y.l s), ansR y.l s)]⟩ b, k ∈ M2.bl b ∨ W.heap.size + 2 ≤ k := fun k hk => (k6 k hk).imp id (fun e => by omega)
    have bk : ∀ {k : Nat} {T : TypeId} {L : List Value}, Blk W k T L → k ∉ M2.bl b → k ≠ b11 → Blk V k T L := fun hB m1 m2 => (hch _ hB.lt m1 m2).trans hB
    have l12 := h.k12.lt
    have l6 := h.k6.lt
    have lt_ := h.kt.lt
    have l5 := h.k5.lt
    have l3 := h.k3.lt
    have l4 := h.k4.lt
    have n12 : b12 ∉ M2.bl b := fun e => (h.s1 _ e).2.1 rfl
    have n6 : g6 ∉ M2.bl b := fun e => (h.s1 _ e).2.2.1 rfl
    have nt : bt ∉ M2.bl b := fun e => (h.s1 _ e).2.2.2.1 rfl
    have n5 : b5 ∉ M2.bl b := fun e => (h.s1 _ e).2.2.2.2.1 rfl
    have n3 : b3 ∉ M2.bl b := fun e => (h.s1 _ e).2.2.2.2.2.1 rfl
    have n4 : b4 ∉ M2.bl b := fun e => (h.s1 _ e).2.2.2.2.2.2.1 rfl
    have nd : d ∉ M2.bl b := fun e => (h.s1 _ e).2.2.2.2.2.2.2.1 rfl
    have nd1 : d + 1 ∉ M2.bl b := fun e => (h.s1 _ e).2.2.2.2.2.2.2.2.1 rfl
    refine ⟨_, rfl, ⟨k5, ?_, ?_, ?_, bk h.k12 n12 h.s3.1.symm, bk h.k6 n6 h.s3.2.1.symm, ?_, bk h.kt nt h.s3.2.2.1.symm, ?_, bk h.k5 n5 h.s3.2.2.2.1.symm, bk h.k3 n3 h.s3.2.2.2.2.1.symm, bk h.k4 n4 h.s3.2.2.2.2.2.1.symm, ?_, ?_, ?_, h.s2, h.s3, h.s4, h.s5, ⟨h.n1.1, h.n1.2.1, hsl, by omega⟩⟩, hch d (by omega) nd h.s3.2.2.2.2.2.2.1.symm, hch (d + 1) hd nd1 h.s3.2.2.2.2.2.2.2.1.symm, by omega⟩
    · show M2.W.eraseIdx 0 = M.W.drop (s + 1)
      rw [h.W', List.drop_eq_getElem_cons (by have := h.n1; omega)]
      rfl
    · show M2.E ++ [(x, hw (ansR y.l s), ansR y.l s)] = M.E ++ (dr (ansR y.l) 0 M.W).take (s + 1)
      have := dr_at (ansR y.l) 0 M.W s x hx
      rw [Nat.zero_add] at this
      rw [h.E', take_succ_at this, List.append_assoc]
    · have := k7.blk k4 (fun e => by rcases e with e | e; exact (h.s1 _ e).1 rfl; omega)
      simpa using this
    · exact argN_same h.ar (fun hp g o e hg => hch g hg (fun e' => (h.s1 g e').2.2.2.2.2.2.2.2.2.2 hp o e) (fun e' => h.s3.2.2.2.2.2.2.2.2 hp o (by rw [← e']; exact e))) (by omega)
    · exact h.tr.same fun g hg => hch g (h.tr.lt hg) (fun e => (h.s1 g e).2.2.2.2.2.2.2.2.2.1 hg) (h.s2 g hg).1
    · refine ⟨k7.os.trans (k3.os.trans (k1.os.trans h.kp.os)), k7.tape.trans (k3.tape.trans (k1.tape.trans h.kp.tape)), k7.output.trans (k3.output.trans (k1.output.trans h.kp.output)), by have := h.kp.size; omega, fun k hk hn => ?_⟩
      have hk' := h.kp.size
      refine (hch k (by omega) (fun e => ?_) (fun e => hn (.inr e))).trans (h.kp.block k hk hn)
      rcases h.bl k e with e' | e'
      · exact hn (.inl e')
      · omega
    · intro k hk
      rcases nM k hk with e | e
      · exact h.bl k e
      · have := h.kp.size; exact .inr (by omega)
    · intro k hk
      rcases nM k hk with e | e
      · exact h.s1 k e
      · refine ⟨by omega, by omega, by omega, by omega, by omega, by omega, by omega, by omega, by omega, fun e' => by have := h.tr.lt e'; omega, fun hp o e' => ?_⟩
        obtain ⟨g, o', f1, f2, _⟩ := h.ar.2.2.2.2 hp
        rw [f1] at e'
        cases e'
        omega
#print axioms DJ.step
end Go.Proofs.Ytipipckbcelphaa.Oct
