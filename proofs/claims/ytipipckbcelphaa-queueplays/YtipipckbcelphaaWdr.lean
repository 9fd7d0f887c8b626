/-
  Layer 21 (queue): Drain whole.
-/
import Derived.Test.YtipipckbcelphaaWdj
namespace Go.Proofs.Ytipipckbcelphaa.Oct
open Go.RowKit Go.Shelf
attribute [local go_sem] Oper.semAt_some
set_option linter.unusedSimpArgs false
set_option linter.unusedVariables false

theorem DJ.told {w W W2 : World} {b b11 b12 g6 bt b5 b3 b4 d K m s : Nat} {y : Av} {M M' : Qu} {tv tv' : Value} {o : Obj} {x : Int × Int × Int} (h : DJ w W b b11 b12 g6 bt b5 b3 b4 d y M K m (s + 1) s M' tv) (hd : d + 1 < W.heap.size) (hx : (dr (ansR y.l) 0 M.W)[s]? = some x)
    (hg : (W.alloc o).grownBy W2 tv.ownBlock) (ho : Ow W2 38 3 tv' (s + 1) (qdC ((dr (ansR y.l) 0 M.W).take s) ++ qd x)) (hb : ∃ g', tv'.ownBlock = some g' ∧ (tv.ownBlock = some g' ∨ g' = (W.alloc o).heap.size)) :
    DJ w (W2.setCell ⟨bt, 0, none⟩ tv') b b11 b12 g6 bt b5 b3 b4 d y M K m (s + 1) (s + 1) M' tv' ∧ (W2.setCell ⟨bt, 0, none⟩ tv').heap[d]? = W.heap[d]? ∧ (W2.setCell ⟨bt, 0, none⟩ tv').heap[d + 1]? = W.heap[d + 1]? := by
  have hsz : (W.alloc o).heap.size = W.heap.size + 1 := by simp
  have hs : ∀ k, k < W.heap.size → k ≠ bt → tv.ownBlock ≠ some k → (W2.setCell ⟨bt, 0, none⟩ tv').heap[k]? = W.heap[k]? := fun k hk h1 h2 => by
    rw [(grown_setCell W2 bt 0 tv').block k (by have := hg.size; omega) (fun e => h1 (by cases e; rfl)), hg.block k (by omega) (fun e => h2 e.symm), Below.heap_alloc W o k hk]
  have bk : ∀ {k : Nat} {T : TypeId} {L : List Value}, Blk W k T L → k ≠ bt → tv.ownBlock ≠ some k → Blk (W2.setCell ⟨bt, 0, none⟩ tv') k T L := fun hB m1 m2 => (hs _ hB.lt m1 m2).trans hB
  have hbt2 : Blk W2 bt 28 [tv] := (h.kt.alloc o).kept hg (fun e => (h.s2 bt e.symm).2.2.2.1 rfl)
  have hnew : ∀ g, tv'.ownBlock = some g → tv.ownBlock = some g ∨ g = W.heap.size + 1 := fun g hg' => by
    obtain ⟨g', e1, e2⟩ := hb
    rw [hg'] at e1
    cases e1
    rcases e2 with e2 | e2
    · exact .inl e2
    · right; omega
  have l11 := h.k11.lt
  have l12 := h.k12.lt
  have l6 := h.k6.lt
  have lt_ := h.kt.lt
  have l5 := h.k5.lt
  have l3 := h.k3.lt
  have l4 := h.k4.lt
  have nt : ∀ k, (∀ j, tv.ownBlock = some j → j ≠ k) → tv.ownBlock ≠ some k := fun k hk e => hk k e rfl
  have hsa : AwayA y (W.heap.size + 1) := fun hp o' e => by
    obtain ⟨g, o'', f1, f2, _⟩ := h.ar.2.2.2.2 hp
    rw [f1] at e
    cases e
    omega
  refine ⟨⟨h.q.same fun k hk => hs k (h.q.lt k hk) (h.s1 k hk).2.2.2.1 (h.s1 k hk).2.2.2.2.2.2.2.2.2.1, h.W', h.E', bk h.k11 h.s3.2.2.1 (nt _ fun j hj => (h.s2 j hj).1), bk h.k12 h.s4.1.symm (nt _ fun j hj => (h.s2 j hj).2.1), bk h.k6 h.s4.2.1.symm (nt _ fun j hj => (h.s2 j hj).2.2.1), ?_, hbt2.set 0 tv', ?_, bk h.k5 h.s4.2.2.1.symm (nt _ fun j hj => (h.s2 j hj).2.2.2.2.1), bk h.k3 h.s4.2.2.2.1.symm (nt _ fun j hj => (h.s2 j hj).2.2.2.2.2.1), bk h.k4 h.s4.2.2.2.2.1.symm (nt _ fun j hj => (h.s2 j hj).2.2.2.2.2.2.1), ?_, h.bl, ?_, ?_, h.s3, h.s4, h.s5, ⟨h.n1.1, h.n1.2.1, h.n1.2.2.1, Nat.le_refl _⟩⟩, ?_, ?_⟩
  · exact argN_same h.ar (fun hp g o' e hl => hs g hl (fun e' => h.s4.2.2.2.2.2.2.2.2 hp o' (by rw [← e']; exact e)) (fun e' => (h.s2 g e').2.2.2.2.2.2.2.2.2.2 hp o' e)) (by have := hg.size; simp; omega)
  · rw [take_succ_at hx, qdC_app]
    refine ho.same fun g hg' => (grown_setCell W2 bt 0 tv').block g (ho.lt hg') (fun e => ?_)
    cases e
    rcases hnew bt hg' with e | e
    · exact (h.s2 bt e).2.2.2.1 rfl
    · omega
  · have hk0 := h.kp.size
    refine ⟨hg.os.trans h.kp.os, hg.tape.trans h.kp.tape, hg.output.trans h.kp.output, by have := hg.size; simp; omega, fun k hk hn => (hs k (by omega) (fun e => by have := h.s4.2.2.2.2.2.2.2.1; omega) (fun e => by have := (h.s2 k e).2.2.2.2.2.2.2.2.2.1; omega)).trans (h.kp.block k hk hn)⟩
  · intro k hk
    have h1 := h.s1 k hk
    refine ⟨h1.1, h1.2.1, h1.2.2.1, h1.2.2.2.1, h1.2.2.2.2.1, h1.2.2.2.2.2.1, h1.2.2.2.2.2.2.1, h1.2.2.2.2.2.2.2.1, h1.2.2.2.2.2.2.2.2.1, fun e => ?_, h1.2.2.2.2.2.2.2.2.2.2⟩
    rcases hnew k e with e' | e'
    · exact h1.2.2.2.2.2.2.2.2.2.1 e'
    · have := h.q.lt k hk; omega
  · intro k hk
    rcases hnew k hk with e' | e'
    · exact h.s2 k e'
    · subst e'
      have hk0 := h.kp.size
      exact ⟨by omega, by omega, by omega, by omega, by omega, by omega, by omega, by omega, by omega, by omega, hsa⟩
  · exact hs d (by omega) (fun e => h.s4.2.2.2.2.2.1 e.symm) (nt _ fun j hj => (h.s2 j hj).2.2.2.2.2.2.2.1)
  · exact hs (d + 1) hd (fun e => h.s4.2.2.2.2.2.2.1 e.symm) (nt _ fun j hj => (h.s2 j hj).2.2.2.2.2.2.2.2.1)
set_option maxRecDepth 100000 in
set_option maxHeartbeats 4000000 in
/-- the iterator: all are stepped and told -/
theorem iter_all {w : World} {b b11 b12 g6 bt b5 b3 b4 d K m n0 : Nat} {y : Av} {M : Qu} (J : Nat → World → Prop) (W : World) (hm : m ≤ 64) (hml : M.W.length = m)
    (hJ : ∀ s A, J s A → (∃ M' tv, DJ w A b b11 b12 g6 bt b5 b3 b4 d y M K m s s M' tv) ∧ d + 2 ≤ A.heap.size)
    (hJ2 : ∀ s s' A B, J s A → (∃ M' tv, DJ w B b b11 b12 g6 bt b5 b3 b4 d y M K m s' s' M' tv) → B.heap[d]? = A.heap[d]? → B.heap[d + 1]? = A.heap[d + 1]? → J s' B)
    (hY : ∀ (s : Nat) (x : Int × Int × Int) A B, J s A → ((∃ M' tv, DJ w B b b11 b12 g6 bt b5 b3 b4 d y M K m (s + 1) s M' tv) ∧ (dr (ansR y.l) 0 M.W)[s]? = some x ∧ d + 1 < B.heap.size) → B.heap[d]? = A.heap[d]? → B.heap[d + 1]? = A.heap[d + 1]? → YieldAt Fence.wide (n0 - 1) Try.prog (d + 1) #[.agg #[iv x.1, iv x.2.1, iv x.2.2]] B fun e C => e = .returned (.bool true) ∧ J (s + 1) C) (h0 : J 0 W) :
    CallsIn Fence.wide n0 Try.prog 47 #[.func (.yield (d + 1)) #[] #[], .pointer (some ⟨b5, 0, none⟩), .pointer (some ⟨b3, 0, none⟩), .pointer (some ⟨b4, 0, none⟩)] W fun e B => (∃ v, e = .returned v) ∧ ∃ s, J s B ∧ s = m := by
  refine callsIn_of_wp Try.func47 rfl trivial ?_ rfl
  simp only [Try.ntmps47, List.size_toArray, List.length_cons, List.length_nil, Nat.reduceAdd, Nat.reduceSub, Array.replicate_succ, Array.replicate_zero, List.push_toArray, List.append_toArray, List.nil_append, List.cons_append]
  have hz38 := zero38
  have c5 : W.cell? ⟨b5, 0, none⟩ = some (iv (m : Int)) := by obtain ⟨⟨M', tv, h⟩, _⟩ := hJ 0 W h0; exact h.k5.cell rfl
  have H0 : Hid (J 0 W) := h0
  have q0 : (m : Int) ≤ 64 := by omega
  clear h0
  gi_wp2
  gi_loopw [8] (fun u wr => ∃ s : Nat, u = iv s ∧ Hid (s ≤ m ∧ J s wr)) (fun u _ => m - (intOf u).toNat)
  case atStart => exact ⟨0, rfl, Nat.zero_le _, H0.out⟩
  case round =>
    obtain ⟨s, rfl, HS⟩ := hrel
    clear c5
    by_cases hs : s = m
    · have q1 : ¬ ((s : Int) < (m : Int)) := by omega
      have HF : Hid (J s wr ∧ s = m) := ⟨HS.out.2, hs⟩
      clear hs HS
      gi_wp2
      go_end0
      exact ⟨⟨_, rfl⟩, HF.out.2 ▸ HF.out.1⟩
    · have HQ : Hid (s < m) := by have := HS.out.1; show _ < _; omega
      have q1 : (s : Int) < (m : Int) := by have := HQ.out; omega
      obtain ⟨⟨M', tv, hD⟩, hsz⟩ := hJ s wr HS.out.2
      obtain ⟨x, hx⟩ : ∃ x, M.W[s]? = some x := ⟨_, List.getElem?_eq_getElem (by rw [hml]; exact HQ.out)⟩
      have HST := hD.step (by omega) hx
      have c3 : wr.cell? ⟨b3, 0, none⟩ = some (.pointer (some ⟨b, 0, none⟩)) := hD.k3.cell rfl
      have c4 : wr.cell? ⟨b4, 0, none⟩ = some (fnV 20 #[.pointer (some ⟨b12, 0, none⟩)]) := hD.k4.cell rfl
      have HX : Hid ((dr (ansR y.l) 0 M.W)[s]? = some (x, hw (ansR y.l s), ansR y.l s) ∧ d + 2 ≤ wr.heap.size) := ⟨by have := dr_at (ansR y.l) 0 M.W s x hx; rwa [Nat.zero_add] at this, hsz⟩
      clear hs hD hsz hx
      gi_wp2_with (refine ⟨trivial, (fun h => by cases h), ?_⟩; gi_at_call 15; refine (callsIn_wide.2 HST).mono ?_; rintro e W3 ⟨M2, rfl, hD3, hd3, hd4, hz3⟩; rw [show (qd (x, hw (ansR y.l s), ansR y.l s)).toArray = #[iv x, iv (hw (ansR y.l s)), iv (ansR y.l s)] from rfl]; have HD3 : Hid (DJ w W3 b b11 b12 g6 bt b5 b3 b4 d y M K m (s + 1) s M2 tv ∧ W3.heap[d]? = wr.heap[d]? ∧ W3.heap[d + 1]? = wr.heap[d + 1]? ∧ wr.heap.size ≤ W3.heap.size) := ⟨hD3, hd3, hd4, hz3⟩; clear hD3 hd3 hd4 hz3)
      obtain ⟨fn, tms, asg, bdy, hy, hR⟩ : YieldAt Fence.wide (n0 - 1) Try.prog (d + 1) #[.agg #[.int .i64 x, .int .i64 (hw (ansR y.l s)), .int .i64 (ansR y.l s)]] (W3.alloc (.cells #[.int .i64 x, .int .i64 (hw (ansR y.l s)), .int .i64 (ansR y.l s)] 38)) fun e C => e = .returned (.bool true) ∧ J (s + 1) C := by
        have hD := HD3.out
        have hX := HX.out
        have hb : Below W3.heap.size W3 (W3.alloc (.cells #[.int .i64 x, .int .i64 (hw (ansR y.l s)), .int .i64 (ansR y.l s)] 38)) := (Below.refl _ W3).alloc (Nat.le_refl _) _
        refine hY s (x, hw (ansR y.l s), ansR y.l s) wr _ HS.out.2 ⟨⟨M2, tv, hD.1.below hb⟩, hX.1, ?_⟩ ?_ ?_
        · have := hb.size; have := hD.2.2.2; omega
        · exact (hb.block d (by have := hD.2.2.2; omega)).trans hD.2.1
        · exact (hb.block (d + 1) (by have := hD.2.2.2; omega)).trans hD.2.2.1
      first | rw [hy] | erw [hy]
      refine ⟨(fun h => by cases h), hR.mono ?_⟩
      rintro e C ⟨rfl, hJ3⟩
      have HJ3 : Hid (s + 1 ≤ m ∧ J (s + 1) C) := ⟨HQ.out, hJ3⟩
      have q2 : (s : Int) + 1 ≤ 64 := by have := HQ.out; omega
      have q3 : 0 ≤ (s : Int) := Int.natCast_nonneg s
      clear hy hR hJ3 c3 c4
      gi_wp2
      refine ⟨⟨s + 1, ?_, HJ3.out⟩, ?_⟩
      · show Value.int .i64 _ = Value.int .i64 _; congr 1
      · have := HQ.out
        show m - ((s : Int) + 1).toNat < m - ((s : Int)).toNat
        omega
#print axioms iter_all
end Go.Proofs.Ytipipckbcelphaa.Oct
