/-
  Layer 21 (queue): QueueOrder: what its loop keeps; the try.
-/
import Derived.Test.YtipipckbcelphaaWor
namespace Go.Proofs.Ytipipckbcelphaa.Oct
open Go.RowKit Go.Shelf
set_option linter.unusedSimpArgs false
set_option linter.unusedVariables false

theorem wpList_ap {ops : Array Oper} {rest : List Oper} {o : Oper} {a : Act} {w w' : World} {Q : Exit → Act → World → Prop} (hgd : o.guard = none) (t : TypeId) (s x : Operand) (hop : o.op = .call { callee := .builtin .append, args := #[s, x], argTypes := #[t, t] }) (v u v' : Value) (hs : a.eval s = v) (hx : a.eval x = u) (hr : (Builtin.append_ #[t, t] o.type #[v, u]).run Try.prog w = .ok v' w') (hk : wpList Try.prog ops Q rest (a.put o.dst v') w') : wpList Try.prog ops Q (o :: rest) a w := by
  refine wpList_plain hgd fun K hK => ?_
  unfold Oper.wp execOp
  simp only [hop, resolve, invoke, builtin, Sem.run_bind, Sem.run_pure, Result.andThen_ok, List.map_toArray, List.map_cons, List.map_nil, hs, hx, hr]
  exact hK _ _ hk
/-- what the law's loop keeps -/
structure OI (w W : World) (b b5 : Nat) (M : Qu) (K : Nat) (pv : Value) (P : List Int) (tv : Value) (Tr : List Int) : Prop where
  q : QAt W b M .nilFunc K
  bel : Below w.heap.size w W
  k5 : Blk W b5 27 [tv]
  tr : Ow W 3 1 tv Tr.length (ivs Tr)
  pr : OT w.heap.size W 3 pv (ivs P)
  old : ∀ k ∈ M.bl b, w.heap.size ≤ k
  o5 : w.heap.size ≤ b5
  ot : ∀ g, tv.ownBlock = some g → w.heap.size ≤ g
  s1 : b5 ∉ M.bl b
  s2 : ∀ g, tv.ownBlock = some g → g ∉ M.bl b ∧ g ≠ b5
  s3 : ∀ g, pv.ownBlock = some g → g ∉ M.bl b ∧ g ≠ b5 ∧ tv.ownBlock ≠ some g
section
variable {w W V : World} {b b5 K K' : Nat} {M M' : Qu} {pv tv pv' : Value} {P Tr P' : List Int}
theorem OI.below (h : OI w W b b5 M K pv P tv Tr) (hb : Below W.heap.size W V) : OI w V b b5 M K pv P tv Tr :=
  ⟨h.q.below hb, h.bel.trans (hb.mono h.bel.size), h.k5.below hb h.k5.lt, h.tr.below hb, h.pr.below hb, h.old, h.o5, h.ot, h.s1, h.s2, h.s3⟩
theorem OI.more (h : OI w W b b5 M K pv P tv Tr) (hK : K ≤ K') (hf : K' ≤ 3000000000000) : OI w W b b5 M K' pv P tv Tr := ⟨h.q.more hK hf, h.bel, h.k5, h.tr, h.pr, h.old, h.o5, h.ot, h.s1, h.s2, h.s3⟩
theorem OI.call (h : OI w W b b5 M K pv P tv Tr) (hq : QAt V b M' .nilFunc K') (ha : QAfter W b M M' V) : OI w V b b5 M' K' pv P tv Tr := by
  have hb := ha.below h.bel.size h.old
  have hn : ∀ g, g < W.heap.size → g ∉ M.bl b → g ∉ M'.bl b := fun g hl hg e => (ha.1 g e).elim hg (fun e => by omega)
  refine ⟨hq, h.bel.trans hb.1, ha.2.blk h.k5 h.s1, h.tr.same fun g hg => ha.2.block g (h.tr.lt hg) (h.s2 g hg).1, h.pr.same fun g hg => ha.2.block g (h.pr.lt hg).2 (h.s3 g hg).1, hb.2, h.o5, h.ot, hn b5 h.k5.lt h.s1, fun g hg => ⟨hn g (h.tr.lt hg) (h.s2 g hg).1, (h.s2 g hg).2⟩, fun g hg => ⟨hn g (h.pr.lt hg).2 (h.s3 g hg).1, (h.s3 g hg).2⟩⟩
/-- put is another row now -/
theorem OI.pset (h : OI w W b b5 M K pv P tv Tr) (hg : W.grownBy V pv.ownBlock) (ho : OT w.heap.size V 3 pv' (ivs P')) (hb : pv'.ownBlock = pv.ownBlock ∨ pv'.ownBlock = some W.heap.size) : OI w V b b5 M K pv' P' tv Tr := by
  have hs : ∀ k, k < W.heap.size → pv.ownBlock ≠ some k → V.heap[k]? = W.heap[k]? := fun k hk hn => hg.block k hk (fun e => hn e.symm)
  have hbel : Below w.heap.size W V := ⟨hg.os, hg.tape, hg.output, hg.size, fun k hk => hs k (Nat.lt_of_lt_of_le hk h.bel.size) (fun e => by have := (h.pr.lt e).1; omega)⟩
  refine ⟨h.q.same fun k hk => hs k (h.q.lt k hk) (fun e => (h.s3 k e).1 hk), h.bel.trans hbel, (hs b5 h.k5.lt (fun e => (h.s3 b5 e).2.1 rfl)).trans h.k5, h.tr.same fun g hg' => hs g (h.tr.lt hg') (fun e => (h.s3 g e).2.2 hg'), ho, h.old, h.o5, h.ot, h.s1, h.s2, fun g hg' => ?_⟩
  rcases hb with e | e
  · exact h.s3 g (by rw [← e]; exact hg')
  · rw [e] at hg'
    cases hg'
    exact ⟨fun e => by have := h.q.lt _ e; omega, fun e => by have := h.k5.lt; omega, fun e => by have := h.tr.lt e; omega⟩
end
set_option maxRecDepth 100000 in
set_option maxHeartbeats 1000000 in
theorem try27 {A : World} {b5 g7 : Nat} {tv : Value} {Tr : List Int} {y : Av} {x : Int} (h5 : Blk A b5 27 [tv]) (ht : Ow A 3 1 tv Tr.length (ivs Tr)) (h7 : Blk A g7 32 y.cells) (hn : Tr.length + 1 ≤ 4000000000000) (h57 : g7 ≠ b5) (h1 : tv.ownBlock ≠ some b5) (h2 : tv.ownBlock ≠ some g7) :
    Calls Try.prog 27 #[iv x, .pointer (some ⟨b5, 0, none⟩), .pointer (some ⟨g7, 0, none⟩)] A fun e V => ∃ tv', e = .returned (iv y.ans) ∧ Blk V b5 27 [tv'] ∧ Ow V 3 1 tv' (Tr ++ [x]).length (ivs (Tr ++ [x])) ∧ Keep (fun k => k = b5 ∨ tv.ownBlock = some k) A V ∧ (tv'.ownBlock = tv.ownBlock ∨ ∀ g, tv'.ownBlock = some g → A.heap.size ≤ g) := by
  obtain ⟨a, c, hv, _⟩ := ht.read
  obtain ⟨n, hn'⟩ : ∃ n, Tr.length = n := ⟨_, rfl⟩
  rw [hn'] at hv
  have HT : Hid (Ow A 3 1 tv n (ivs Tr) ∧ Blk A b5 27 [tv] ∧ Blk A g7 32 y.cells ∧ Tr.length = n ∧ n + 1 ≤ 4000000000000 ∧ g7 ≠ b5 ∧ tv.ownBlock ≠ some b5 ∧ tv.ownBlock ≠ some g7 ∧ tv = .slice a n c) := ⟨by rw [← hn']; exact ht, h5, h7, hn', by omega, h57, h1, h2, hv⟩
  have c5 : A.cell? ⟨b5, 0, none⟩ = some (.slice a n c) := by rw [← hv]; exact h5.cell rfl
  have hbs := run_bs27 x
  obtain ⟨i0, hi0, hs1, hby, z, hz, hzs⟩ := sized3
  have HI0 : Hid (Try.prog.info? 3 = some i0 ∧ i0.zero = some z ∧ i0.size = 1 ∧ i0.bytes ≤ 24 ∧ z.cells.size = 1) := ⟨hi0, hz, hs1, by omega, hzs⟩
  clear h5 ht h7 hn h57 h1 h2 hv hn' hi0 hs1 hby hz hzs
  go_enter Try.func27, Try.ntmps27
  go_wp2_with (with_reducible change wpList _ _ _ ({ dst := some 8, op := _, type := _, pos := _, after := _, guard := _ } :: _) _ _; refine Hid.out ?_)
  show wpList _ _ _ _ _ _
  refine wpList_append_ow rfl (.tmp 5) (.tmp 7) 27 rfl _ 3 i0 z 1 Try.underlying27 HI0.out.1 HI0.out.2.1 HI0.out.2.2.1 HI0.out.2.2.2.1 HI0.out.2.2.2.2 (by omega) tv n (ivs Tr) (HT.out.1.below (below_al A _)) A.heap.size 1 1 [iv x] (by rw [HT.out.2.2.2.2.2.2.2.2]; rfl) rfl rfl (range_new A [iv x] 3) (by intro u hu; simp at hu; subst hu; rfl) (by omega) HT.out.2.2.2.2.1 ?_
  intro v5 w5 ho5 hg5 hg6
  simp only [Act.put, List.setIfInBounds_toArray, List.set_cons_zero, List.set_cons_succ]
  have hal := below_al A (.cells #[iv x] 3)
  have ho : Ow w5 3 1 v5 (Tr ++ [x]).length (ivs (Tr ++ [x])) := by
    have := ho5.out
    rw [← HT.out.2.2.2.1] at this
    simpa [ivs] using this
  have h5w : Blk w5 b5 27 [tv] := (HT.out.2.1.alloc _).kept hg5.out (fun e => HT.out.2.2.2.2.2.2.1 e.symm)
  have h7w : Blk w5 g7 32 y.cells := (HT.out.2.2.1.alloc _).kept hg5.out (fun e => HT.out.2.2.2.2.2.2.2.1 e.symm)
  obtain ⟨a5, c5', hv5, _⟩ := ho.read
  obtain ⟨n1, hn1⟩ : ∃ n1, (Tr ++ [x]).length = n1 := ⟨_, rfl⟩
  rw [hn1] at hv5
  subst hv5
  have d1 : w5.cell? ⟨b5, 0, none⟩ = some tv := h5w.cell rfl
  have d2 : w5.frozen? ⟨b5, 0, none⟩ = false := h5w.free 0
  have hne : ∀ g, (Value.slice a5 n1 c5').ownBlock = some g → g ≠ b5 := fun g hg e => by
    obtain ⟨g', e1, e2⟩ := hg6.out
    rw [hg] at e1
    cases e1
    rcases e2 with e2 | e2
    · exact HT.out.2.2.2.2.2.2.1 (by rw [e2, e])
    · have := HT.out.2.1.lt; simp at e2; omega
  have d7 : (w5.setCell ⟨b5, 0, none⟩ (.slice a5 n1 c5')).cell? ⟨g7, 2, none⟩ = some (iv y.ans) := (h7w.other (by exact HT.out.2.2.2.2.2.1) _).cell rfl
  have HF : Hid (Blk (w5.setCell ⟨b5, 0, none⟩ (.slice a5 n1 c5')) b5 27 [.slice a5 n1 c5'] ∧ Ow (w5.setCell ⟨b5, 0, none⟩ (.slice a5 n1 c5')) 3 1 (.slice a5 n1 c5') (Tr ++ [x]).length (ivs (Tr ++ [x])) ∧ Keep (fun k => k = b5 ∨ tv.ownBlock = some k) A (w5.setCell ⟨b5, 0, none⟩ (.slice a5 n1 c5')) ∧ ((Value.slice a5 n1 c5').ownBlock = tv.ownBlock ∨ ∀ g, (Value.slice a5 n1 c5').ownBlock = some g → A.heap.size ≤ g)) := by
    refine ⟨h5w.set 0 _, ho.same fun g hg => (grown_setCell w5 b5 0 _).block g (ho.lt hg) (fun e => hne g hg (by cases e; rfl)), ?_, ?_⟩
    · exact (Keep.below hal).trans ((Keep.grownO (S := fun k => k = b5 ∨ tv.ownBlock = some k) hg5.out (fun k hk => .inr hk)).trans (Keep.grown (S := fun k => k = b5 ∨ tv.ownBlock = some k) (grown_setCell w5 b5 0 _) (.inl rfl)) (fun _ hj _ => hj)) (fun _ hj _ => hj)
    · obtain ⟨g', e1, e2⟩ := hg6.out
      rcases e2 with e2 | e2
      · exact .inl (by rw [e1, e2])
      · right
        intro g hg
        rw [e1] at hg
        cases hg
        rw [e2]; simp
  clear ho5 hg5 hg6 ho h5w h7w hal hne c5 hn1
  go_wp2
  go_ret
  exact ⟨_, rfl, HF.out⟩
#print axioms try27
/-- Step with that try -/
theorem step27 {w W : World} {b b5 g7 K : Nat} {M : Qu} {pv tv : Value} {P Tr : List Int} {y : Av} {x : Int} (h : OI w W b b5 M K pv P tv Tr) (h7 : Blk W g7 32 y.cells) (hw7 : w.heap.size ≤ g7) (n1 : g7 ∉ M.bl b) (n2 : g7 ≠ b5) (n3 : tv.ownBlock ≠ some g7) (n4 : pv.ownBlock ≠ some g7) (hx : M.W[0]? = some x) (hn : Tr.length + 1 ≤ 4000000000000) :
    Calls Try.prog 15 #[.pointer (some ⟨b, 0, none⟩), fnV 27 #[.pointer (some ⟨b5, 0, none⟩), .pointer (some ⟨g7, 0, none⟩)]] W fun e V => ∃ z1 z2 tv' M', (∃ v u E', M' = ⟨v, u, M.W.eraseIdx 0, E'⟩) ∧ e = .returned (.tuple #[.agg (qd (x, z1, z2)).toArray, iv 0]) ∧ OI w V b b5 M' K pv P tv' (Tr ++ [x]) := by
  have hbb : b5 ≠ b := fun e => h.s1 (by rw [e]; simp [Qu.bl])
  have n1b : g7 ≠ b := fun e => n1 (by rw [e]; simp [Qu.bl])
  have ntb : tv.ownBlock ≠ some b := fun e => (h.s2 b e).1 (by simp [Qu.bl])
  refine (step_yes (K' := K) (S0 := fun k => k = b5 ∨ tv.ownBlock = some k) (R := fun r M' A V => M' = M ∧ ∃ tv', Blk V b5 27 [tv'] ∧ Ow V 3 1 tv' (Tr ++ [x]).length (ivs (Tr ++ [x])) ∧ (tv'.ownBlock = tv.ownBlock ∨ ∀ g, tv'.ownBlock = some g → A.heap.size ≤ g)) h.q hx (enters_of Try.func27 (by kernel_rfl) rfl) (fun e => ?_) (fun e => ?_) ?_ ?_).mono ?_
  · rcases e with e | e
    · have := h.k5.lt; omega
    · have := h.tr.lt e; omega
  · rcases e with e | e
    · have := h.k5.lt; omega
    · have := h.tr.lt e; omega
  · rintro r M' A V ⟨rfl, _⟩
    exact ⟨hx, fun k hk => .inl hk⟩
  · intro A hq hk hs
    refine (try27 (x := x) (hk.blk h.k5 hbb) (h.tr.same fun g hg => hk.block g (h.tr.lt hg) (fun e => ntb (by rw [← show g = b from e]; exact hg))) (hk.blk h7 n1b) hn n2 (fun e => (h.s2 b5 e).2 rfl) n3).mono ?_
    rintro e V ⟨tv', rfl, k1, k2, k3, k4⟩
    refine ⟨y.ans, M, rfl, hq.keep k3 (fun k hk e => ?_), k3, rfl, tv', k1, k2, k4⟩
    rcases e with e | e
    · exact h.s1 (by rw [← e]; exact hk)
    · exact (h.s2 k e).1 hk
  · rintro e V ⟨A, V1, r, M', v, u, rfl, k1, k2, k3, ⟨rfl, tv', t1, t2, t3⟩, k5, k6, k7⟩
    have hA := k1.size
    have h1 := k3.size
    have h2 := k7.size
    have hch : ∀ k, k < W.heap.size → k ∉ M'.bl b → k ≠ b5 → tv.ownBlock ≠ some k → V.heap[k]? = W.heap[k]? := fun k hk m1 m2 m3 => by
      have e1 := k1.block k hk (fun e => m1 (by rw [e]; simp [Qu.bl]))
      have e2 := k3.block k (by omega) (fun e => by rcases e with e | e; exact m2 e; exact m3 e)
      have e3 := k7.block k (by omega) (fun e => by rcases e with e | e; exact m1 e; omega)
      rw [e3, e2, e1]
    have hnew : ∀ g, tv'.ownBlock = some g → (tv.ownBlock = some g ∧ g < W.heap.size ∨ W.heap.size + 2 ≤ g) ∧ g < V1.heap.size := fun g hg => by
      refine ⟨?_, t2.lt hg⟩
      rcases t3 with e | e
      · rw [e] at hg; exact .inl ⟨hg, h.tr.lt hg⟩
      · have := e g hg; exact .inr (by omega)
    have hM2 : ∀ k ∈ Qu.bl ⟨v, u, M'.W.eraseIdx 0, M'.E ++ [(x, hw r, r)]⟩ b, k ∈ M'.bl b ∨ V1.heap.size ≤ k := k6
    have hnM : ∀ k, k < V1.heap.size → k ∉ M'.bl b → k ∉ Qu.bl ⟨v, u, M'.W.eraseIdx 0, M'.E ++ [(x, hw r, r)]⟩ b := fun k hk m1 e => by
      rcases hM2 k e with e | e
      · exact m1 e
      · omega
    refine ⟨hw r, r, tv', _, ⟨v, u, _, rfl⟩, rfl, ⟨k5, ?_, ?_, ?_, ?_, ?_, h.o5, ?_, hnM b5 (by have := h.k5.lt; omega) h.s1, ?_, ?_⟩⟩
    · refine h.bel.trans ⟨k7.os.trans (k3.os.trans k1.os), k7.tape.trans (k3.tape.trans k1.tape), k7.output.trans (k3.output.trans k1.output), by omega, fun k hk => hch k (Nat.lt_of_lt_of_le hk h.bel.size) (fun e => by have := h.old k e; omega) (fun e => by have := h.o5; omega) (fun e => by have := h.ot k e; omega)⟩
    · exact k7.blk t1 (fun e => by rcases e with e | e; exact h.s1 e; have := h.k5.lt; omega)
    · exact t2.same fun g hg => k7.block g (t2.lt hg) (fun e => by
        rcases e with e | e
        · rcases (hnew g hg).1 with h3 | h3
          · exact (h.s2 g h3.1).1 e
          · have := h.q.lt g e; omega
        · rcases (hnew g hg).1 with h3 | h3 <;> omega)
    · exact h.pr.same fun g hg => hch g (h.pr.lt hg).2 (h.s3 g hg).1 (h.s3 g hg).2.1 (h.s3 g hg).2.2
    · intro k hk
      rcases hM2 k hk with e | e
      · exact h.old k e
      · have := h.bel.size; omega
    · intro g hg
      rcases (hnew g hg).1 with h3 | h3
      · exact h.ot g h3.1
      · have := h.bel.size; omega
    · intro g hg
      have h4 := hnew g hg
      refine ⟨hnM g h4.2 (fun e => ?_), fun e => ?_⟩
      · rcases h4.1 with h3 | h3
        · exact (h.s2 g h3.1).1 e
        · have := h.q.lt g e; omega
      · rcases h4.1 with h3 | h3
        · exact (h.s2 g h3.1).2 e
        · have := h.k5.lt; omega
    · intro g hg
      have h5 := (h.pr.lt hg).2
      refine ⟨hnM g (by omega) (h.s3 g hg).1, (h.s3 g hg).2.1, fun e => ?_⟩
      rcases (hnew g e).1 with h3 | h3
      · exact (h.s3 g hg).2.2 h3.1
      · omega
#print axioms step27
end Go.Proofs.Ytipipckbcelphaa.Oct
