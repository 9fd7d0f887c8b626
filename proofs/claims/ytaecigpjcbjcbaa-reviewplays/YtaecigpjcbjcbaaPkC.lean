/-
  Layer 20 (review): the document's board: Proposal.
  Layer 20 (review): the document's board: Proposal.
  Layer 20 (review): Say.
-/
import Derived.Test.YtaecigpjcbjcbaaPkB
/- Layer 20 (review): the document's board: Proposal. -/
namespace Go.Proofs.Ytaecigpjcbjcbaa.Oct
open Go.RowKit
set_option linter.unusedSimpArgs false
set_option linter.unusedVariables false

/-- what was said, who voted so, by what was done -/
def talkD (D : List Dd) (x : Int) : List (BA × BA) := (D.filter fun d => d.id == x && d.k == 4).map fun d => (d.u, d.t)
def votD (E D : List Dd) (x s : Int) : List BA := D.foldl (fun l d => if d.id = x ∧ d.k < 3 ∧ ofD E x d.u = s then withB d.u l else l) []
theorem votD_snoc (E D : List Dd) (d : Dd) (x s : Int) : votD E (D ++ [d]) x s = if d.id = x ∧ d.k < 3 ∧ ofD E x d.u = s then withB d.u (votD E D x s) else votD E D x s := by unfold votD; rw [List.foldl_append]; rfl
theorem talkD_snoc (D : List Dd) (d : Dd) (x : Int) : talkD (D ++ [d]) x = if d.id = x ∧ d.k = 4 then talkD D x ++ [(d.u, d.t)] else talkD D x := by
  unfold talkD
  rw [List.filter_append, List.map_append]
  by_cases h : d.id = x ∧ d.k = 4
  · rw [if_pos h]; simp [h.1, h.2]
  · rw [if_neg h]
    have : (d.id == x && d.k == 4) = false := by
      by_cases h1 : d.id = x
      · have : ¬ d.k = 4 := fun e => h ⟨h1, e⟩
        simp [this]
      · simp [h1]
    simp [this]
theorem withB_len (s : BA) : ∀ l, (withB s l).length ≤ l.length + 1
  | [] => by simp [withB]
  | x :: l => by
    unfold withB
    have := withB_len s l
    split
    · simp; omega
    · split <;> simp
theorem votD_len (E : List Dd) (x s : Int) (D : List Dd) : (votD E D x s).length ≤ D.length := by
  unfold votD
  suffices h : ∀ (D : List Dd) (l : List BA), (D.foldl (fun l d => if d.id = x ∧ d.k < 3 ∧ ofD E x d.u = s then withB d.u l else l) l).length ≤ l.length + D.length by simpa using h D []
  intro D
  induction D with
  | nil => intro l; simp
  | cons d D ih =>
    intro l
    rw [List.foldl_cons]
    refine Nat.le_trans (ih _) ?_
    split
    · have := withB_len d.u l; rw [List.length_cons]; omega
    · rw [List.length_cons]; omega
theorem talkD_len (D : List Dd) (x : Int) : (talkD D x).length ≤ D.length := by
  unfold talkD; rw [List.length_map]; exact List.length_filter_le _ _
theorem TS.same {w w' : World} {v : Value} {l : List BA} (h : TS w v l) (hs : ∀ g, v.ownBlock = some g → w'.heap[g]? = w.heap[g]?) : TS w' v l := by
  rcases h with h | ⟨g, c, rfl, h1, h2, h3, h4⟩
  · exact .inl h
  · have e := hs g rfl
    refine .inr ⟨g, c, rfl, h1, h2, ?_, fun i x hx => ?_⟩
    · rw [Array.getElem?_eq_getElem h3] at e
      exact (Array.getElem?_eq_some_iff.1 e).1
    · have := h4 i x hx
      unfold World.cell? at this ⊢
      simp only [e]
      exact this
theorem TS.blk {w : World} {v : Value} {l : List BA} (h : TS w v l) {g : Nat} (hg : v.ownBlock = some g) : g < w.heap.size := by
  rcases h with ⟨rfl, _⟩ | ⟨g', c, rfl, h1, h2, h3, h4⟩
  · cases hg
  · cases hg; exact h3
/-- what the loop of Proposal keeps -/
structure PI (w wr : World) (b q B0 : Nat) (lv dv : Value) (R : Rb) (p : Pp) (ly ln : List BA) (lt : List (BA × BA)) : Prop where
  bel : Below w.heap.size w wr
  box : Blk wr b 30 [lv, dv]
  res : Blk wr (b + 1) 43 Pp.zero.cells
  brd : RBt wr lv dv R
  pat : p.patch.length = 32
  pp : Blk wr q 43 p.cells
  yes : TS wr (.slice p.y.a p.y.n p.y.c) ly
  no : TS wr (.slice p.n.a p.n.n p.n.c) ln
  talk : wr.ownsRow B0 50 2 (.slice p.t.a p.t.n p.t.c) lt.length (talkC lt)
  yB : ∀ g, (Value.slice p.y.a p.y.n p.y.c).ownBlock = some g → B0 ≤ g
  nB : ∀ g, (Value.slice p.n.a p.n.n p.n.c).ownBlock = some g → B0 ≤ g
  ap : ∀ g, (Value.slice p.t.a p.t.n p.t.c).ownBlock = some g → (Value.slice p.y.a p.y.n p.y.c).ownBlock ≠ some g ∧ (Value.slice p.n.a p.n.n p.n.c).ownBlock ≠ some g
  rB : (∀ g, lv.ownBlock = some g → g < b) ∧ (∀ g, dv.ownBlock = some g → g < b)
  lo : b + 1 < q ∧ q < B0 ∧ B0 ≤ wr.heap.size ∧ w.heap.size = b
section
variable {w wr wr' : World} {b q B0 : Nat} {lv dv : Value} {R : Rb} {p : Pp} {ly ln : List BA} {lt : List (BA × BA)}
theorem PI.below (h : PI w wr b q B0 lv dv R p ly ln lt) (hb : Below wr.heap.size wr wr') : PI w wr' b q B0 lv dv R p ly ln lt :=
  ⟨below_tr h.bel hb, h.box.below hb h.box.lt, h.res.below hb h.res.lt, h.brd.below hb, h.pat, h.pp.below hb h.pp.lt, h.yes.below hb, h.no.below hb, ownsRow_below h.talk hb, h.yB, h.nB, h.ap, h.rB, h.lo.1, h.lo.2.1, Nat.le_trans h.lo.2.2.1 hb.size, h.lo.2.2.2⟩
theorem talkC_app (a c : List (BA × BA)) : talkC (a ++ c) = talkC a ++ talkC c := by simp [talkC]
/-- a remark -/
theorem PI.talked (h : PI w wr b q B0 lv dv R p ly ln lt) {u t : BA} {v' : Value} {V1 V2 : World} (ho : V1.ownsRow B0 50 2 v' (lt.length + 1) (talkC lt ++ [.string u, .string t])) (hg : wr.grownBy V1 (Value.slice p.t.a p.t.n p.t.c).ownBlock) (hp : v'.ownBlock = (Value.slice p.t.a p.t.n p.t.c).ownBlock ∨ v'.ownBlock = some wr.heap.size)
    (hb : Blk V2 q 43 (p.cells.set 38 v')) (hg2 : V1.grownBy V2 (some q)) : ∃ s : Sl, PI w V2 b q B0 lv dv R { p with t := s } ly ln (lt ++ [(u, t)]) := by
  obtain ⟨s, rfl⟩ := own_sl ho
  have hlo := h.lo
  have htB := own_new h.talk
  have hvB := own_new ho
  have k1 : Below B0 wr V1 := grown_below h.talk hg hlo.2.2.1
  have hs12 : ∀ g, g < B0 → g ≠ q → V2.heap[g]? = wr.heap[g]? := fun g h1 h2 => (hg2.block g (by have := k1.size; omega) (fun e => by cases e; exact h2 rfl)).trans (k1.block g h1)
  have hsy : ∀ (v : Value) (l : List BA), TS wr v l → (∀ g, v.ownBlock = some g → B0 ≤ g) → (∀ g, (Value.slice p.t.a p.t.n p.t.c).ownBlock = some g → v.ownBlock ≠ some g) → TS V2 v l := fun v l h1 h2 h3 => h1.same fun g hg' => by
    have e1 : V1.heap[g]? = wr.heap[g]? := hg.block g (h1.blk hg') (fun e => h3 g e.symm hg')
    have e2 : V2.heap[g]? = V1.heap[g]? := hg2.block g (by have := h1.blk hg'; have := k1.size; omega) (fun e => by cases e; have := h2 q hg'; omega)
    exact e2.trans e1
  have hbw : Below w.heap.size w V2 := by
    have e1 : Below w.heap.size w V1 := h.bel.trans (k1.mono (by omega))
    exact e1.grown hg2 e1.size (fun j hj => by cases hj; omega)
  refine ⟨s, hbw, (hs12 b (by omega) (by omega)).trans h.box, (hs12 (b + 1) (by omega) (by omega)).trans h.res, ?_, h.pat, ?_, hsy _ _ h.yes h.yB (fun g e => (h.ap g e).1), hsy _ _ h.no h.nB (fun g e => (h.ap g e).2), ?_, h.yB, h.nB, ?_, h.rB, hlo.1, hlo.2.1, ?_, hlo.2.2.2⟩
  · refine h.brd.same (fun g hg' => ?_) (fun g hg' => ?_)
    · exact hs12 g (by have := h.rB.1 g hg'; omega) (by have := h.rB.1 g hg'; omega)
    · exact hs12 g (by have := h.rB.2 g hg'; omega) (by have := h.rB.2 g hg'; omega)
  · rw [← Pp.set_t h.pat]; exact hb
  · have : V2.ownsRow B0 50 2 (.slice s.a s.n s.c) (lt.length + 1) (talkC lt ++ [.string u, .string t]) := own_sameR ho fun g h1 h2 => hg2.block g h2 (fun e => by cases e; omega)
    rw [List.length_append, talkC_app]
    exact this
  · intro g hg'
    rcases hp with e | e
    · rw [e] at hg'; exact h.ap g hg'
    · rw [e] at hg'
      cases hg'
      exact ⟨fun e2 => by have := h.yes.blk e2; omega, fun e2 => by have := h.no.blk e2; omega⟩
  · have := k1.size; have := hg2.size; omega
/-- a vote for it -/
theorem PI.yesed (h : PI w wr b q B0 lv dv R p ly ln lt) {v' : Value} {l' : List BA} {V1 V2 : World} (ht : TS V1 v' l') (hb1 : Below wr.heap.size wr V1) (hn : New wr (.slice p.y.a p.y.n p.y.c) v')
    (hb : Blk V2 q 43 (p.cells.set 36 v')) (hg2 : V1.grownBy V2 (some q)) : ∃ s : Sl, PI w V2 b q B0 lv dv R { p with y := s } l' ln lt := by
  obtain ⟨s, rfl, _⟩ := ht.sl
  have hlo := h.lo
  have h1 := h.below hb1
  have hs12 : ∀ g, g < V1.heap.size → g ≠ q → V2.heap[g]? = V1.heap[g]? := fun g h1 h2 => hg2.block g h1 (fun e => by cases e; exact h2 rfl)
  have hvB : ∀ g, (Value.slice s.a s.n s.c).ownBlock = some g → B0 ≤ g := by
    intro g hg
    rcases hn with e | e
    · rw [e] at hg; exact h.yB g hg
    · have := e g hg; omega
  have hsv : ∀ (v : Value) (l : List BA), TS V1 v l → (∀ g, v.ownBlock = some g → B0 ≤ g) → TS V2 v l := fun v l h1 h2 => h1.same fun g hg' => hs12 g (h1.blk hg') (fun e => by subst e; have := h2 g hg'; omega)
  have hbw : Below w.heap.size w V2 := h1.bel.grown hg2 h1.bel.size (fun j hj => by cases hj; omega)
  refine ⟨s, hbw, (hs12 b h1.box.lt (by omega)).trans h1.box, (hs12 (b + 1) h1.res.lt (by omega)).trans h1.res, ?_, h.pat, ?_, hsv _ _ ht hvB, hsv _ _ h1.no h.nB, ?_, hvB, h.nB, ?_, h.rB, hlo.1, hlo.2.1, ?_, hlo.2.2.2⟩
  · refine h1.brd.same (fun g hg' => hs12 g (h1.brd.l.lt hg') (by have := h.rB.1 g hg'; omega)) (fun g hg' => hs12 g (h1.brd.d.lt hg') (by have := h.rB.2 g hg'; omega))
  · rw [← Pp.set_y h.pat]; exact hb
  · exact own_sameR h1.talk fun g h2 h3 => hs12 g h3 (by omega)
  · intro g hg'
    have h2 := h.ap g hg'
    have h3 := h.talk.lt g hg'
    refine ⟨fun e => by
      rcases hn with e2 | e2
      · rw [e2] at e; exact h2.1 e
      · have := e2 g e; omega, h2.2⟩
  · have := hg2.size; have := hb1.size; omega
/-- a vote against it -/
theorem PI.noed (h : PI w wr b q B0 lv dv R p ly ln lt) {v' : Value} {l' : List BA} {V1 V2 : World} (ht : TS V1 v' l') (hb1 : Below wr.heap.size wr V1) (hn : New wr (.slice p.n.a p.n.n p.n.c) v')
    (hb : Blk V2 q 43 (p.cells.set 37 v')) (hg2 : V1.grownBy V2 (some q)) : ∃ s : Sl, PI w V2 b q B0 lv dv R { p with n := s } ly l' lt := by
  obtain ⟨s, rfl, _⟩ := ht.sl
  have hlo := h.lo
  have h1 := h.below hb1
  have hs12 : ∀ g, g < V1.heap.size → g ≠ q → V2.heap[g]? = V1.heap[g]? := fun g h1 h2 => hg2.block g h1 (fun e => by cases e; exact h2 rfl)
  have hvB : ∀ g, (Value.slice s.a s.n s.c).ownBlock = some g → B0 ≤ g := by
    intro g hg
    rcases hn with e | e
    · rw [e] at hg; exact h.nB g hg
    · have := e g hg; omega
  have hsv : ∀ (v : Value) (l : List BA), TS V1 v l → (∀ g, v.ownBlock = some g → B0 ≤ g) → TS V2 v l := fun v l h1 h2 => h1.same fun g hg' => hs12 g (h1.blk hg') (fun e => by subst e; have := h2 g hg'; omega)
  have hbw : Below w.heap.size w V2 := h1.bel.grown hg2 h1.bel.size (fun j hj => by cases hj; omega)
  refine ⟨s, hbw, (hs12 b h1.box.lt (by omega)).trans h1.box, (hs12 (b + 1) h1.res.lt (by omega)).trans h1.res, ?_, h.pat, ?_, hsv _ _ h1.yes h.yB, hsv _ _ ht hvB, ?_, h.yB, hvB, ?_, h.rB, hlo.1, hlo.2.1, ?_, hlo.2.2.2⟩
  · refine h1.brd.same (fun g hg' => hs12 g (h1.brd.l.lt hg') (by have := h.rB.1 g hg'; omega)) (fun g hg' => hs12 g (h1.brd.d.lt hg') (by have := h.rB.2 g hg'; omega))
  · rw [← Pp.set_n h.pat]; exact hb
  · exact own_sameR h1.talk fun g h2 h3 => hs12 g h3 (by omega)
  · intro g hg'
    have h2 := h.ap g hg'
    have h3 := h.talk.lt g hg'
    refine ⟨h2.1, fun e => by
      rcases hn with e2 | e2
      · rw [e2] at e; exact h2.2 e
      · have := e2 g e; omega⟩
  · have := hg2.size; have := hb1.size; omega
end
end Go.Proofs.Ytaecigpjcbjcbaa.Oct

/- Layer 20 (review): the document's board: Proposal. -/
namespace Go.Proofs.Ytaecigpjcbjcbaa.Oct
open Go.RowKit
set_option linter.unusedSimpArgs false
set_option linter.unusedVariables false

/-- a proposal as the document tells it -/
def RTold (w : World) (R : Rb) (x : Int) (p : Pp) : Prop := if thereR R x = true then ∃ (m : Mk) (y n t : Sl), R.L[(x - 1).toNat]? = some m ∧ m.h.length = 32 ∧ p = ⟨x, m.au, m.ch, m.h, openR R x, y, n, t⟩ ∧ TS w (.slice y.a y.n y.c) (votD R.D R.D x 1) ∧ TS w (.slice n.a n.n n.c) (votD R.D R.D x 2) ∧ SV w (.slice t.a t.n t.c) (talkD R.D x).length 2 (talkC (talkD R.D x)) else p = Pp.zero
theorem wpList_b0R {ops : Array Oper} {rest : List Oper} {o : Oper} {a : Act} {w : World} {Q : Exit → Act → World → Prop} (hg : o.guard = none) (t : TypeId) (hop : o.op = Op.build t #[]) (v : Value) (hrun : ∀ W, (Instr.build t #[]).run Try.prog W = .ok v W)
    (hK : wpList Try.prog ops Q rest (a.put o.dst v) w) : wpList Try.prog ops Q (o :: rest) a w := by
  refine wpList_plain hg fun K hK' => ?_
  unfold Oper.wp execOp
  simp [hop, hrun, Result.andThen]
  exact hK' _ _ hK
theorem rret43 {R : Ending → World → Prop} {fn : Func} {pt : Tmp} {a : Act} {w : World} {g : Nat} {X : List Value} (hr : fn.results = #[.cell pt 43]) (hd : a.defers = []) (hp : a.tmps.getD pt undef = .pointer (some ⟨g, 0, none⟩)) (hl : X.length = 39)
    (hb : Blk w g 43 X) (hR : R (.returned (.agg X.toArray)) w) : bodyPost Try.prog fn R .ret a w :=
  bodyPost_ret (results_cell_row hr _ w g 43 X.toArray (0, 0) _ hp hb Try.underlying43 rfl (by rw [List.size_toArray, hl]; exact size43)) hd hR
def Mk.zero : Mk := ⟨⟨#[]⟩, ⟨#[]⟩, List.replicate 32 0⟩
set_option maxRecDepth 100000 in
theorem zero92 (W : World) : (zeroValue 92).run Try.prog W = .ok (.agg Mk.zero.cells.toArray) W := by kernel_rfl
theorem info50 : ∃ (i : TypeInfo) (z : Value), Try.prog.info? 50 = some i ∧ i.zero = some z ∧ i.size = 2 ∧ i.bytes ≤ 1000 ∧ z.cells.size = 2 := by
  have h : (Try.prog.info? 50).map (fun i => (i.size, decide (i.bytes ≤ 1000), i.zero.map (·.cells.size))) = some (2, true, some 2) := by kernel_rfl
  obtain ⟨i, hi, he⟩ := Option.map_eq_some_iff.1 h
  simp only [Prod.mk.injEq] at he
  obtain ⟨z, hz, hz2⟩ := Option.map_eq_some_iff.1 he.2.2
  exact ⟨i, z, hi, hz, he.1, by simpa using he.2.1, hz2⟩
theorem run_bs41 (u t : BA) (W : World) : (Instr.buildSlice 41 1 #[(0, .agg #[.string u, .string t])]).run Try.prog W = .ok (.slice (some ⟨W.heap.size, 0, none⟩) 1 1) (W.alloc (.cells #[.string u, .string t] 50)) := by kernel_rfl
theorem rx_pair {V : World} {nb : Nat} {u t : BA} (h : Blk V nb 50 [.string u, .string t]) : Rx V (some ⟨nb, 0, none⟩) 1 2 [.string u, .string t] := ⟨rfl, by intro v hv; simp at hv; rcases hv with rfl | rfl <;> rfl, fun _ => ⟨nb, 0, rfl, fun j v hj => by rw [Nat.zero_add]; exact h.cell hj⟩⟩
theorem size41 : (Try.prog.info? 41).map (·.size) = some 1 := by kernel_rfl
theorem size40 : (Try.prog.info? 40).map (·.size) = some 1 := by kernel_rfl
theorem take_next {D : List Dd} {i : Nat} {d : Dd} {x : Int} (hd : D[i]? = some d) (h : ¬ d.id = x ∨ (¬ d.k = 4 ∧ ¬ d.k < 3)) : (∀ E s, votD E (D.take (i + 1)) x s = votD E (D.take i) x s) ∧ talkD (D.take (i + 1)) x = talkD (D.take i) x := by
  rw [take_snoc hd]
  refine ⟨fun E s => ?_, ?_⟩
  · rw [votD_snoc, if_neg]
    rintro ⟨h1, h2, _⟩
    rcases h with h | h
    · exact h h1
    · exact h.2 h2
  · rw [talkD_snoc, if_neg]
    rintro ⟨h1, h2⟩
    rcases h with h | h
    · exact h h1
    · exact h.1 h2
theorem vote_next {D E : List Dd} {i : Nat} {d : Dd} {x r : Int} (hd : D[i]? = some d) (h1 : d.id = x) (h2 : d.k < 3) (hr : ofD E x d.u = r) : (∀ s, votD E (D.take (i + 1)) x s = if r = s then withB d.u (votD E (D.take i) x s) else votD E (D.take i) x s) ∧ talkD (D.take (i + 1)) x = talkD (D.take i) x := by
  rw [take_snoc hd]
  refine ⟨fun s => ?_, ?_⟩
  · rw [votD_snoc, hr]
    by_cases h : r = s
    · rw [if_pos h, if_pos ⟨h1, h2, h⟩]
    · rw [if_neg h, if_neg (fun e => h e.2.2)]
  · rw [talkD_snoc, if_neg]
    rintro ⟨_, e⟩
    omega
theorem talk_next {D : List Dd} {i : Nat} {d : Dd} {x : Int} (hd : D[i]? = some d) (h1 : d.id = x) (h2 : d.k = 4) : (∀ E s, votD E (D.take (i + 1)) x s = votD E (D.take i) x s) ∧ talkD (D.take (i + 1)) x = talkD (D.take i) x ++ [(d.u, d.t)] := by
  rw [take_snoc hd]
  refine ⟨fun E s => ?_, ?_⟩
  · rw [votD_snoc, if_neg]
    rintro ⟨_, e, _⟩
    omega
  · rw [talkD_snoc, if_pos ⟨h1, h2⟩]
set_option maxRecDepth 100000 in
set_option maxHeartbeats 4000000 in
theorem rprop_is {w : World} {lv dv : Value} {R : Rb} (h : RBt w lv dv R) (x : Int) : Calls Try.prog 19 #[.agg #[lv, dv], iv x] w (fun e w' => ∃ p : Pp, e = .returned (.agg p.cells.toArray) ∧ Hid (RTold w' R x p ∧ p.patch.length = 32) ∧ Below w.heap.size w w') := by
  obtain ⟨nl, hnl⟩ : ∃ m, R.L.length = m := ⟨_, rfl⟩
  obtain ⟨nd, hnd⟩ : ∃ m, R.D.length = m := ⟨_, rfl⟩
  obtain ⟨la, lc, rfl, _⟩ := h.l
  obtain ⟨da, dc, rfl, _⟩ := h.d
  rw [hnl, hnd] at h ⊢
  obtain ⟨b, hb⟩ : ∃ b, w.heap.size = b := ⟨_, rfl⟩
  obtain ⟨Z, hZ⟩ : ∃ Z, Pp.zero.cells = Z := ⟨_, rfl⟩
  have hz43 := zero43
  rw [hZ] at hz43
  have HZ : Hid (Pp.zero.cells = Z) := hZ
  obtain ⟨Z2, hZ2⟩ : ∃ Z, Mk.zero.cells = Z := ⟨_, rfl⟩
  have hz92 := zero92
  rw [hZ2] at hz92
  have HZ2 : Hid (Mk.zero.cells = Z2) := hZ2
  have hz94 := zero94
  clear hZ hZ2
  obtain ⟨A, hA⟩ : ∃ A, (w.alloc (.cells #[.slice la nl lc, .slice da nd dc] 30)).alloc (.cells Z.toArray 43) = A := ⟨_, rfl⟩
  have hB : Below w.heap.size w A := by rw [← hA]; exact ((Below.refl _ w).alloc (Nat.le_refl _) _).alloc (by simp) _
  have h2 : Blk A b 30 [.slice la nl lc, .slice da nd dc] := by rw [← hA, ← hb]; exact (Blk.new w _ _).alloc _
  have h4 : Blk A (b + 1) 43 Z := by
    rw [← hA, ← hb]
    have := Blk.new (w.alloc (.cells #[.slice la nl lc, .slice da nd dc] 30)) Z.toArray 43
    rwa [World.size_alloc] at this
  have HB4 : Hid (Blk A (b + 1) 43 Z) := h4
  have HRB : Hid ((∀ g, (Value.slice la nl lc).ownBlock = some g → g < b) ∧ (∀ g, (Value.slice da nd dc).ownBlock = some g → g < b)) := ⟨fun g hg => by rw [← hb]; exact h.l.lt hg, fun g hg => by rw [← hb]; exact h.d.lt hg⟩
  have HA0 : Hid (RBt w (.slice la nl lc) (.slice da nd dc) R) := h
  have HA : Hid (Below w.heap.size w A ∧ Blk A b 30 [.slice la nl lc, .slice da nd dc] ∧ RBt A (.slice la nl lc) (.slice da nd dc) R ∧ True) := ⟨hB, h2, h.below hB, trivial⟩
  have HN : Hid (R.L.length = nl ∧ R.D.length = nd ∧ w.heap.size = b) := ⟨hnl, hnd, hb⟩
  have ql : (nl : Int) ≤ 1000 := by have := h.nl; omega
  have qd : (nd : Int) ≤ 1000 := by have := h.nd; omega
  clear h hnl hnd hB h2 h4
  go_enter Try.func19, Try.ntmps19
  obtain ⟨th, hth⟩ : ∃ t, thereR R x = t := ⟨_, rfl⟩
  have HT0 : Hid (thereR R x = th) := hth
  obtain ⟨op, hop⟩ : ∃ t, openR R x = t := ⟨_, rfl⟩
  have HOR : Hid (openR R x = op) := hop
  clear hth hop
  have HCV := rthere_is HA.out.2.2.1 x
  rw [HT0.out] at HCV
  have c0A : A.cell? ⟨b, 0, none⟩ = some (.slice la nl lc) := HA.out.2.1.cell rfl
  have c1A : A.cell? ⟨b, 1, none⟩ = some (.slice da nd dc) := HA.out.2.1.cell rfl
  go_wp2_with (with_reducible change wpList _ _ _ ({ dst := some 9, op := _, type := _, pos := _, after := _, guard := _ } :: _) _ _; refine Hid.out ?_)
  show wpList _ _ _ _ _ _
  refine wpList_load_row rfl 30 (.tmp 2) rfl b rfl 30 #[.slice la nl lc, .slice da nd dc] (0, 0) _ HA.out.2.1 Try.underlying30 rfl size30 ?_
  simp only [Act.put, List.setIfInBounds_toArray, List.set_cons_zero, List.set_cons_succ]
  go_wp2_with fail
  refine HCV.mono ?_
  rintro e V ⟨rfl, hbV⟩
  have HV : Hid (Below w.heap.size w V ∧ Blk V b 30 [.slice la nl lc, .slice da nd dc] ∧ RBt V (.slice la nl lc) (.slice da nd dc) R ∧ True) := ⟨below_tr HA.out.1 hbV, HA.out.2.1.below hbV HA.out.2.1.lt, HA.out.2.2.1.below hbV, trivial⟩
  have HB5 : Hid (Blk V (b + 1) 43 Z) := HB4.out.below hbV HB4.out.lt
  clear hb hA hbV
  clear c0A c1A
  clear HCV
  cases th
  · go_wp2_with (with_reducible change wpList _ _ _ ({ dst := some 13, op := _, type := _, pos := _, after := _, guard := _ } :: _) _ _; refine Hid.out ?_)
    show wpList _ _ _ _ _ _
    refine wpList_b0R rfl 43 rfl (.agg Z.toArray) (by intro W; rw [← HZ.out]; exact run_build43_0 W) ?_
    simp only [Act.put, List.setIfInBounds_toArray, List.set_cons_zero, List.set_cons_succ]
    go_wp2_with (with_reducible change wpList _ _ _ ({ dst := none, op := Op.store 43 _ _, type := _, pos := _, after := _, guard := _ } :: _) _ _; refine Hid.out ?_)
    show wpList _ _ _ _ _ _
    refine wpList_store_blk rfl 43 (.tmp 4) (.tmp 13) rfl (b + 1) 0 43 Z Z rfl rfl HB5.out (by omega) (by rw [← HZ.out, zero_len]; exact size43) (by rw [← HZ.out]; exact Pp.one _) ?_
    intro V2 hb5 hg5
    have HE : Hid (Blk V2 (b + 1) 43 Z ∧ Below w.heap.size w V2) := by
      refine ⟨?_, HV.out.1.grown hg5.out HV.out.1.size (fun j hj => by cases hj; have := HN.out.2.2; omega)⟩
      have := hb5.out
      rw [List.take_zero, List.nil_append, List.drop_of_length_le (by omega), List.append_nil] at this
      exact this
    clear hb5 hg5
    go_wp2_with fail
    refine rret43 rfl rfl rfl (by rw [← HZ.out, zero_len]) HE.out.1 ?_
    refine ⟨Pp.zero, by rw [HZ.out], ⟨?_, by simp [Pp.zero]⟩, HE.out.2⟩
    unfold RTold
    rw [if_neg (by rw [HT0.out]; simp)]
  · obtain ⟨j, hx, hjl⟩ := there_nat HT0.out
    obtain ⟨xx, hxx⟩ : ∃ y : Int, (j : Int) + 1 = y := ⟨_, rfl⟩
    have q2 : j < nl := by rw [← HN.out.1]; exact hjl
    obtain ⟨g1, m, ha, hg1, hm, hl, hra⟩ := HV.out.2.2.1.made q2
    subst ha
    have q1 : (j : Int) < (nl : Int) := by omega
    have q3 : x - 1 = (j : Int) := by omega
    have q4 : -9223372036854775808 ≤ x ∧ x ≤ 9223372036854775807 := by omega
    obtain ⟨q41, q42⟩ := q4
    have HM : Hid (R.L[j]? = some m ∧ m.h.length = 32 ∧ V.rangeAt g1 (j * 34) m.cells ∧ x = (j : Int) + 1) := ⟨hm, hl, hra, hx⟩
    have c0V : V.cell? ⟨b, 0, none⟩ = some (.slice (some ⟨g1, 0, none⟩) nl lc) := HV.out.2.1.cell rfl
    clear hm hra hjl hl hx hxx
    go_wp2_with (with_reducible change wpList _ _ _ ({ dst := some 19, op := _, type := _, pos := _, after := _, guard := _ } :: _) _ _; refine Hid.out ?_)
    show wpList _ _ _ _ _ _
    refine wpList_load_want rfl 92 (.tmp 18) rfl g1 (j * 34) (by first | rfl | (simp; omega)) m.cells _ HM.out.2.2.1 Try.underlying92 rfl (by rw [Mk.len HM.out.2.1]; exact size92) ?_
    simp only [Act.put, List.setIfInBounds_toArray, List.set_cons_zero, List.set_cons_succ]
    obtain ⟨g5, hg5⟩ : ∃ g, V.heap.size = g := ⟨_, rfl⟩
    have HG5 : Hid (V.heap.size = g5) := hg5
    go_wp2_with (with_reducible change wpList _ _ _ ({ dst := none, op := Op.store 92 _ _, type := _, pos := _, after := _, guard := _ } :: _) _ _; refine Hid.out ?_)
    show wpList _ _ _ _ _ _
    refine wpList_store_blk rfl 92 (.tmp 5) (.tmp 19) rfl g5 0 92 Z2 m.cells rfl rfl (by rw [← HG5.out]; simpa using Blk.new V Z2.toArray 92) (by rw [← HZ2.out, Mk.len HM.out.2.1, Mk.len (by simp [Mk.zero])]; omega) (by rw [Mk.len HM.out.2.1]; exact size92) (Mk.one _) ?_
    intro V2 hb6 hg6
    have h0 : Below V.heap.size V V2 := (below_al V _).grown hg6.out (below_al V _).size (fun j hj => by cases hj; exact Nat.le_of_eq HG5.out)
    have hbk : Blk V2 g5 92 m.cells := by
      have := hb6.out
      rw [List.take_zero, List.nil_append, List.drop_of_length_le (by rw [← HZ2.out, Mk.len HM.out.2.1, Mk.len (by simp [Mk.zero])]; omega), List.append_nil] at this
      exact this
    have HV2 : Hid (Below w.heap.size w V2 ∧ Blk V2 b 30 [.slice (some ⟨g1, 0, none⟩) nl lc, .slice da nd dc] ∧ RBt V2 (.slice (some ⟨g1, 0, none⟩) nl lc) (.slice da nd dc) R ∧ Blk V2 (b + 1) 43 Z ∧ b + 1 < V2.heap.size) := ⟨below_tr HV.out.1 h0, HV.out.2.1.below h0 HV.out.2.1.lt, HV.out.2.2.1.below h0, HB5.out.below h0 HB5.out.lt, (HB5.out.below h0 HB5.out.lt).lt⟩
    have HG : Hid (g5 < V2.heap.size ∧ V2.rangeAt g5 2 (U m.h) ∧ m.h.length = 32) := ⟨hbk.lt, (Mk.cell hbk.range0).2.2, HM.out.2.1⟩
    have k0 : V2.cell? ⟨g5, 0, none⟩ = some (.string m.au) := hbk.cell rfl
    have k1 : V2.cell? ⟨g5, 1, none⟩ = some (.string m.ch) := hbk.cell rfl
    have HOP : Hid (∀ V, Below V2.heap.size V2 V → Calls Try.prog 38 #[.agg #[.slice (some ⟨g1, 0, none⟩) nl lc, .slice da nd dc], iv x] V fun e V2 => e = .returned (.bool op) ∧ Below V.heap.size V V2) := fun V hV => by
      have := rIsOpen_is (HV2.out.2.2.1.below hV) x
      rwa [HOR.out] at this
    have HB2 : Hid (Blk V2 b 30 [.slice (some ⟨g1, 0, none⟩) nl lc, .slice da nd dc]) := HV2.out.2.1
    clear hb6 hg6 h0 hbk c0V hg5
    go_wp2_with fail
    refine rpr4 HG k0 k1 HB2 HOP ?_
    intro V3 q hq1 hq2 hq3
    obtain ⟨B0, hB0⟩ : ∃ B, V3.heap.size = B := ⟨_, rfl⟩
    have HP : Hid (PI w V3 b q B0 (.slice (some ⟨g1, 0, none⟩) nl lc) (.slice da nd dc) R ⟨x, m.au, m.ch, m.h, op, ⟨none, 0, 0⟩, ⟨none, 0, 0⟩, ⟨none, 0, 0⟩⟩ [] [] []) := by
      refine ⟨below_tr HV2.out.1 hq3, HV2.out.2.1.below hq3 HV2.out.2.1.lt, ?_, HV2.out.2.2.1.below hq3, HM.out.2.1, hq1, .inl ⟨rfl, rfl⟩, .inl ⟨rfl, rfl⟩, ⟨rfl, .inl ⟨rfl, rfl⟩⟩, fun g e => (by cases e), fun g e => (by cases e), fun g e => (by cases e), HRB.out, ?_, ?_, ?_, HN.out.2.2⟩
      · rw [HZ.out]; exact HV2.out.2.2.2.1.below hq3 HV2.out.2.2.2.1.lt
      · have := HV2.out.2.2.2.2; omega
      · rw [← hB0]; exact hq1.lt
      · omega
    clear hq1 hq2 hq3 hB0 HG k0 k1 HB2 HOP HV HB5 HB4 HA HV2 HG5
    go_wp2
    go_loopw [7] (fun u wr => ∃ (i : Nat) (y n t : Sl), u = iv i ∧ Hid (i ≤ nd) ∧ Hid (PI w wr b q B0 (.slice (some ⟨g1, 0, none⟩) nl lc) (.slice da nd dc) R ⟨x, m.au, m.ch, m.h, op, y, n, t⟩ (votD R.D (R.D.take i) x 1) (votD R.D (R.D.take i) x 2) (talkD (R.D.take i) x))) (fun u _ => nd - (intOf u).toNat)
    case atStart => exact ⟨0, ⟨none, 0, 0⟩, ⟨none, 0, 0⟩, ⟨none, 0, 0⟩, rfl, Nat.zero_le _, HP.out⟩
    case round =>
      obtain ⟨i, y, n, t, rfl, HIl, HI⟩ := hrel
      have c1 : wr.cell? ⟨b, 1, none⟩ = some (.slice da nd dc) := HI.out.box.cell rfl
      by_cases hi : i = nd
      · have q5 : (nd : Int) ≤ (i : Int) := by omega
        have HTK : Hid (R.D.take i = R.D) := by show _ = _; rw [hi, ← HN.out.2.1, List.take_length]
        obtain ⟨cp, hcp⟩ : ∃ c, Pp.cells ⟨x, m.au, m.ch, m.h, op, y, n, t⟩ = c := ⟨_, rfl⟩
        have HCP : Hid (Pp.cells ⟨x, m.au, m.ch, m.h, op, y, n, t⟩ = cp ∧ Blk wr q 43 cp ∧ cp.length = 39 ∧ (∀ v ∈ cp, v.oneCell' = true)) := by
          rw [← hcp]; exact ⟨rfl, HI.out.pp, Pp.length HI.out.pat, Pp.one _⟩
        clear hi hcp
        go_wp2_with (with_reducible change wpList _ _ _ ({ dst := some 94, op := _, type := _, pos := _, after := _, guard := _ } :: _) _ _; refine Hid.out ?_)
        show wpList _ _ _ _ _ _
        refine wpList_load_row rfl 43 (.tmp 6) rfl q rfl 43 cp.toArray (0, 0) _ HCP.out.2.1 Try.underlying43 rfl (by rw [List.size_toArray, HCP.out.2.2.1]; exact size43) ?_
        simp only [Act.put, List.setIfInBounds_toArray, List.set_cons_zero, List.set_cons_succ]
        go_wp2_with (with_reducible change wpList _ _ _ ({ dst := none, op := Op.store 43 _ _, type := _, pos := _, after := _, guard := _ } :: _) _ _; refine Hid.out ?_)
        show wpList _ _ _ _ _ _
        refine wpList_store_blk rfl 43 (.tmp 4) (.tmp 94) rfl (b + 1) 0 43 Pp.zero.cells cp rfl rfl HI.out.res (by rw [HCP.out.2.2.1, zero_len]; omega) (by rw [HCP.out.2.2.1]; exact size43) HCP.out.2.2.2 ?_
        intro V4 hb5 hg5
        have HE : Hid (Blk V4 (b + 1) 43 cp ∧ Below w.heap.size w V4 ∧ TS V4 (.slice y.a y.n y.c) (votD R.D R.D x 1) ∧ TS V4 (.slice n.a n.n n.c) (votD R.D R.D x 2) ∧ SV V4 (.slice t.a t.n t.c) (talkD R.D x).length 2 (talkC (talkD R.D x))) := by
          have hh := HI.out
          rw [HTK.out] at hh
          have hlo := hh.lo
          have hs : ∀ g, B0 ≤ g → g < wr.heap.size → V4.heap[g]? = wr.heap[g]? := fun g h1 h2 => hg5.out.block g h2 (fun e => by cases e; omega)
          refine ⟨?_, hh.bel.grown hg5.out hh.bel.size (fun j hj => by cases hj; omega), hh.yes.same (fun g hg => hs g (hh.yB g hg) (hh.yes.blk hg)), hh.no.same (fun g hg => hs g (hh.nB g hg) (hh.no.blk hg)), SV.own (own_sameR hh.talk hs) (talk_one _)⟩
          have := hb5.out
          rw [List.take_zero, List.nil_append, List.drop_of_length_le (by rw [HCP.out.2.2.1, zero_len]; omega), List.append_nil] at this
          exact this
        have HPT : Hid (m.h.length = 32) := HI.out.pat
        clear hb5 hg5 HI
        go_wp2_with fail
        refine rret43 rfl rfl rfl HCP.out.2.2.1 HE.out.1 ?_
        refine ⟨⟨x, m.au, m.ch, m.h, op, y, n, t⟩, by rw [HCP.out.1], ⟨?_, HPT.out⟩, HE.out.2.1⟩
        unfold RTold
        rw [if_pos HT0.out]
        exact ⟨m, y, n, t, by rw [show (x - 1).toNat = j by rw [HM.out.2.2.2]; omega]; exact HM.out.1, HPT.out, by rw [HOR.out], HE.out.2.2⟩
      · have q6 : i < nd := by have := HIl.out; omega
        have q5 : (i : Int) < (nd : Int) := by omega
        have HI2 : Hid (i < nd) := q6
        obtain ⟨g, d, ha, hg, hd, hk, hra⟩ := HI.out.brd.deed q6
        subst ha
        have HG : Hid (wr.rangeAt g (i * 4) d.cells) := hra
        have HD : Hid (R.D[i]? = some d ∧ (1 ≤ d.k ∧ d.k ≤ 5)) := ⟨hd, hk⟩
        obtain ⟨q8, hq8⟩ : ∃ q, wr.heap.size = q := ⟨_, rfl⟩
        have HQ : Hid (wr.heap.size = q8) := hq8
        clear hi hd hra hk
        go_wp2_with (with_reducible change wpList _ _ _ ({ dst := some 42, op := _, type := _, pos := _, after := _, guard := _ } :: _) _ _; refine Hid.out ?_)
        show wpList _ _ _ _ _ _
        refine wpList_load_want rfl 94 (.tmp 41) rfl g (i * 4) rfl d.cells _ HG.out Try.underlying94 rfl size94 ?_
        simp only [Act.put, List.setIfInBounds_toArray, List.set_cons_zero, List.set_cons_succ]
        go_wp2_with (with_reducible change wpList _ _ _ ({ dst := none, op := Op.store 94 _ _, type := _, pos := _, after := _, guard := _ } :: _) _ _; refine Hid.out ?_)
        show wpList _ _ _ _ _ _
        refine wpList_store_blk rfl 94 (.tmp 8) (.tmp 42) rfl q8 0 94 [iv 0, iv 0, .string ⟨#[]⟩, .string ⟨#[]⟩] d.cells rfl rfl (by rw [← HQ.out]; simpa using Blk.new wr #[iv 0, iv 0, .string ⟨#[]⟩, .string ⟨#[]⟩] 94) (by simp [Dd.cells]) size94 (Dd.one d) ?_
        intro V hb5 hg5
        have h0 : Below wr.heap.size wr V := (below_al wr _).grown hg5.out (below_al wr _).size (fun j hj => by cases hj; exact Nat.le_of_eq HQ.out)
        have HV : Hid (PI w V b q B0 (.slice (some ⟨g1, 0, none⟩) nl lc) (.slice (some ⟨g, 0, none⟩) nd dc) R ⟨x, m.au, m.ch, m.h, op, y, n, t⟩ (votD R.D (R.D.take i) x 1) (votD R.D (R.D.take i) x 2) (talkD (R.D.take i) x)) := HI.out.below h0
        have HBK : Hid (Blk V q8 94 d.cells ∧ B0 ≤ q8) := by
          refine ⟨?_, by have := HI.out.lo; have := HQ.out; omega⟩
          have := hb5.out
          simpa [Dd.cells] using this
        obtain ⟨k0, k1, k2, k3⟩ := Dd.cell HBK.out.1.range0
        rw [Nat.zero_add] at k1 k2 k3
        clear hb5 hg5 h0 c1 hq8 HI
        obtain ⟨dk, did, du, dt⟩ := d
        dsimp only at k0 k1 k2 k3
        by_cases he : did = x
        · have e1 : (did == x) = true := by simpa using he
          have e1' : (did != x) = false := by simpa using he
          by_cases h4 : dk = 4
          · subst h4
            have HTN : Hid ((∀ E s, votD E (R.D.take (i + 1)) x s = votD E (R.D.take i) x s) ∧ talkD (R.D.take (i + 1)) x = talkD (R.D.take i) x ++ [(du, dt)]) := talk_next HD.out.1 he rfl
            have c38 : V.cell? ⟨q, 38, none⟩ = some (.slice t.a t.n t.c) := HV.out.pp.cell (Pp.tail HV.out.pat 3)
            obtain ⟨i0, z0, f0, f1, f2, f3, f4⟩ := info50
            have HI0 : Hid (Try.prog.info? 50 = some i0 ∧ i0.zero = some z0 ∧ i0.size = 2 ∧ i0.bytes ≤ 1000 ∧ z0.cells.size = 2) := ⟨f0, f1, f2, f3, f4⟩
            have hbs := run_bs41 du dt
            have HLN : Hid ((talkD (R.D.take i) x).length + 1 ≤ 1000000) := by
              have h1 := talkD_len (R.D.take i) x
              rw [List.length_take] at h1
              have := HV.out.brd.nd
              show _ ≤ _
              omega
            have HW : Hid (PI w (V.alloc (.cells #[.string du, .string dt] 50)) b q B0 (.slice (some ⟨g1, 0, none⟩) nl lc) (.slice (some ⟨g, 0, none⟩) nd dc) R ⟨x, m.au, m.ch, m.h, op, y, n, t⟩ (votD R.D (R.D.take i) x 1) (votD R.D (R.D.take i) x 2) (talkD (R.D.take i) x)) := HV.out.below (below_al V _)
            clear he f0 f1 f2 f3 f4
            go_wp2_with (with_reducible change wpList _ _ _ ({ dst := some 58, op := _, type := _, pos := _, after := _, guard := _ } :: _) _ _; refine Hid.out ?_)
            show wpList _ _ _ _ _ _
            refine wpList_append_g rfl (.tmp 51) (.tmp 57) 41 rfl _ 50 i0 z0 2 B0 Try.underlying41 HI0.out.1 HI0.out.2.1 HI0.out.2.2.1 HI0.out.2.2.2.1 HI0.out.2.2.2.2 (by omega) (.slice t.a t.n t.c) _ _ HW.out.talk (some ⟨V.heap.size, 0, none⟩) 1 1 [.string du, .string dt] rfl rfl (rx_pair (by simpa using Blk.new V #[.string du, .string dt] 50)) HW.out.lo.2.2.1 HLN.out ?_
            intro v5 V5 ho hg5 hp5
            have HX5 : Hid (Blk V5 q8 94 [iv 4, iv did, .string du, .string dt] ∧ Blk V5 q 43 (Pp.cells ⟨x, m.au, m.ch, m.h, op, y, n, t⟩)) := ⟨(HBK.out.1.alloc _).kept hg5.out (own_ne HW.out.talk (HBK.out.1.alloc _) (by decide)), HW.out.pp.kept hg5.out (own_ne HW.out.talk HW.out.pp (by decide))⟩
            go_wp2_with (with_reducible change wpList _ _ _ ({ dst := none, op := Op.store 41 _ _, type := _, pos := _, after := _, guard := _ } :: _) _ _; refine Hid.out ?_)
            show wpList _ _ _ _ _ _
            refine wpList_st1 rfl 41 (.tmp 59) (.tmp 58) rfl q 38 v5 43 (Pp.cells ⟨x, m.au, m.ch, m.h, op, y, n, t⟩) rfl rfl HX5.out.2 (by rw [Pp.length HV.out.pat]; omega) size41 (own_slice ho.out).1 (own_slice ho.out).2 ?_
            intro V6 hb6 hg6
            obtain ⟨s, hs⟩ := HW.out.talked ho.out hg5.out hp5.out hb6.out hg6.out
            have HF : Hid (PI w V6 b q B0 (.slice (some ⟨g1, 0, none⟩) nl lc) (.slice (some ⟨g, 0, none⟩) nd dc) R ⟨x, m.au, m.ch, m.h, op, y, n, s⟩ (votD R.D (R.D.take (i + 1)) x 1) (votD R.D (R.D.take (i + 1)) x 2) (talkD (R.D.take (i + 1)) x)) := by
              show PI w V6 b q B0 (.slice (some ⟨g1, 0, none⟩) nl lc) (.slice (some ⟨g, 0, none⟩) nd dc) R ⟨x, m.au, m.ch, m.h, op, y, n, s⟩ (votD R.D (R.D.take (i + 1)) x 1) (votD R.D (R.D.take (i + 1)) x 2) (talkD (R.D.take (i + 1)) x)
              rw [HTN.out.1, HTN.out.1, HTN.out.2]
              exact hs
            have HB6 : Hid (Blk V6 q8 94 [iv 4, iv did, .string du, .string dt]) := HX5.out.1.kept hg6.out (fun e => by cases e; have := HBK.out.2; have := HW.out.lo; omega)
            have k06 : V6.cell? ⟨q8, 0, none⟩ = some (iv 4) := HB6.out.cell rfl
            clear ho hg5 hp5 hb6 hg6 hs HX5 HW HV HI0 c38
            simp only [Act.put, List.setIfInBounds_toArray, List.set_cons_zero, List.set_cons_succ]
            go_wp2
            go_roundw
            case rel => exact ⟨i + 1, y, n, s, by simp, HI2.out, HF.out⟩
            case measure =>
              have := HI2.out
              simp only [intOf]
              omega
          · have e4 : (dk == 4) = false := by simpa using h4
            by_cases h3 : dk < 3
            · obtain ⟨r, hr⟩ : ∃ r, ofD R.D x du = r := ⟨_, rfl⟩
              have HR : Hid (ofD R.D x du = r) := hr
              have HVN : Hid ((∀ s, votD R.D (R.D.take (i + 1)) x s = if r = s then withB du (votD R.D (R.D.take i) x s) else votD R.D (R.D.take i) x s) ∧ talkD (R.D.take (i + 1)) x = talkD (R.D.take i) x) := vote_next HD.out.1 he h3 hr
              clear hr he h4
              have HC1 := rOf_is HV.out.brd x du
              rw [HR.out] at HC1
              go_wp2_with (with_reducible change wpList _ _ _ ({ dst := some 64, op := _, type := _, pos := _, after := _, guard := _ } :: _) _ _; refine Hid.out ?_)
              show wpList _ _ _ _ _ _
              refine wpList_load_want rfl 30 (.tmp 2) rfl b 0 rfl [.slice (some ⟨g1, 0, none⟩) nl lc, .slice (some ⟨g, 0, none⟩) nd dc] _ (by have := HV.out.box.range0; exact this) Try.underlying30 rfl size30 ?_
              simp only [Act.put, List.setIfInBounds_toArray, List.set_cons_zero, List.set_cons_succ]
              go_wp2_with fail
              refine HC1.mono ?_
              rintro e V1 ⟨rfl, hb1⟩
              have HV1 : Hid (PI w V1 b q B0 (.slice (some ⟨g1, 0, none⟩) nl lc) (.slice (some ⟨g, 0, none⟩) nd dc) R ⟨x, m.au, m.ch, m.h, op, y, n, t⟩ (votD R.D (R.D.take i) x 1) (votD R.D (R.D.take i) x 2) (talkD (R.D.take i) x)) := HV.out.below hb1
              have HBV1 : Hid (Blk V1 q8 94 [iv dk, iv did, .string du, .string dt]) := HBK.out.1.below hb1 HBK.out.1.lt
              have k0V1 : V1.cell? ⟨q8, 0, none⟩ = some (iv dk) := HBV1.out.cell rfl
              have k2V1 : V1.cell? ⟨q8, 2, none⟩ = some (.string du) := HBV1.out.cell rfl
              clear HC1 hb1 k0 k1 k2 k3
              by_cases r1 : r = 1
              · subst r1
                have c36 : V1.cell? ⟨q, 36, none⟩ = some (.slice y.a y.n y.c) := HV1.out.pp.cell (Pp.tail HV1.out.pat 1)
                have HCW := with_new du _ _ V1 HV1.out.yes (by have h1 := votD_len R.D x 1 (R.D.take i); rw [List.length_take] at h1; have := HV1.out.brd.nd; omega)
                go_wp2_with fail
                refine HCW.mono ?_
                rintro e V2 ⟨v5, rfl, ht5, hb5, hn5⟩
                have HX5 : Hid (Blk V2 q8 94 [iv dk, iv did, .string du, .string dt] ∧ Blk V2 q 43 (Pp.cells ⟨x, m.au, m.ch, m.h, op, y, n, t⟩)) := ⟨HBV1.out.below hb5 HBV1.out.lt, HV1.out.pp.below hb5 HV1.out.pp.lt⟩
                have HSL : Hid (v5.cells = #[v5] ∧ v5.oneCell' = true) := by
                  obtain ⟨s, rfl, _⟩ := ht5.sl
                  exact ⟨rfl, rfl⟩
                go_wp2_with (with_reducible change wpList _ _ _ ({ dst := none, op := Op.store 40 _ _, type := _, pos := _, after := _, guard := _ } :: _) _ _; refine Hid.out ?_)
                show wpList _ _ _ _ _ _
                refine wpList_st1 rfl 40 (.tmp 76) (.tmp 75) rfl q 36 v5 43 (Pp.cells ⟨x, m.au, m.ch, m.h, op, y, n, t⟩) rfl rfl HX5.out.2 (by rw [Pp.length HV1.out.pat]; omega) size40 HSL.out.1 HSL.out.2 ?_
                intro V3 hb6 hg6
                obtain ⟨s, hs⟩ := HV1.out.yesed ht5 hb5 hn5 hb6.out hg6.out
                have HV3 : Hid (PI w V3 b q B0 (.slice (some ⟨g1, 0, none⟩) nl lc) (.slice (some ⟨g, 0, none⟩) nd dc) R ⟨x, m.au, m.ch, m.h, op, s, n, t⟩ (withB du (votD R.D (R.D.take i) x 1)) (votD R.D (R.D.take i) x 2) (talkD (R.D.take i) x)) := hs
                have HBV3 : Hid (Blk V3 q8 94 [iv dk, iv did, .string du, .string dt]) := HX5.out.1.kept hg6.out (fun e => by cases e; have := HBK.out.2; have := HV1.out.lo; omega)
                have k0V3 : V3.cell? ⟨q8, 0, none⟩ = some (iv dk) := HBV3.out.cell rfl
                have k2V3 : V3.cell? ⟨q8, 2, none⟩ = some (.string du) := HBV3.out.cell rfl
                clear HCW ht5 hb5 hn5 hb6 hg6 hs HX5 HSL c36
                clear k0V1 k2V1
                simp only [Act.put, List.setIfInBounds_toArray, List.set_cons_zero, List.set_cons_succ]
                have HC3 := rOf_is HV3.out.brd x du
                rw [HR.out] at HC3
                go_wp2_with (with_reducible change wpList _ _ _ ({ dst := some 81, op := _, type := _, pos := _, after := _, guard := _ } :: _) _ _; refine Hid.out ?_)
                show wpList _ _ _ _ _ _
                refine wpList_load_want rfl 30 (.tmp 2) rfl b 0 rfl [.slice (some ⟨g1, 0, none⟩) nl lc, .slice (some ⟨g, 0, none⟩) nd dc] _ (by have := HV3.out.box.range0; exact this) Try.underlying30 rfl size30 ?_
                simp only [Act.put, List.setIfInBounds_toArray, List.set_cons_zero, List.set_cons_succ]
                go_wp2_with fail
                refine HC3.mono ?_
                rintro e V4 ⟨rfl, hb3⟩
                have HV4 : Hid (PI w V4 b q B0 (.slice (some ⟨g1, 0, none⟩) nl lc) (.slice (some ⟨g, 0, none⟩) nd dc) R ⟨x, m.au, m.ch, m.h, op, s, n, t⟩ (withB du (votD R.D (R.D.take i) x 1)) (votD R.D (R.D.take i) x 2) (talkD (R.D.take i) x)) := HV3.out.below hb3
                have HF : Hid (PI w V4 b q B0 (.slice (some ⟨g1, 0, none⟩) nl lc) (.slice (some ⟨g, 0, none⟩) nd dc) R ⟨x, m.au, m.ch, m.h, op, s, n, t⟩ (votD R.D (R.D.take (i + 1)) x 1) (votD R.D (R.D.take (i + 1)) x 2) (talkD (R.D.take (i + 1)) x)) := by
                  show PI w V4 b q B0 (.slice (some ⟨g1, 0, none⟩) nl lc) (.slice (some ⟨g, 0, none⟩) nd dc) R ⟨x, m.au, m.ch, m.h, op, s, n, t⟩ (votD R.D (R.D.take (i + 1)) x 1) (votD R.D (R.D.take (i + 1)) x 2) (talkD (R.D.take (i + 1)) x)
                  rw [HVN.out.1, HVN.out.1, HVN.out.2]
                  simpa using HV4.out
                clear k0V3 k2V3
                clear HC3 hb3
                go_wp2
                go_roundw
                case rel => exact ⟨i + 1, s, n, t, by simp, HI2.out, HF.out⟩
                case measure =>
                  have := HI2.out
                  simp only [intOf]
                  omega
              · have e5 : (r == 1) = false := by simpa using r1
                have HC3 := rOf_is HV1.out.brd x du
                rw [HR.out] at HC3
                go_wp2_with (with_reducible change wpList _ _ _ ({ dst := some 81, op := _, type := _, pos := _, after := _, guard := _ } :: _) _ _; refine Hid.out ?_)
                show wpList _ _ _ _ _ _
                refine wpList_load_want rfl 30 (.tmp 2) rfl b 0 rfl [.slice (some ⟨g1, 0, none⟩) nl lc, .slice (some ⟨g, 0, none⟩) nd dc] _ (by have := HV1.out.box.range0; exact this) Try.underlying30 rfl size30 ?_
                simp only [Act.put, List.setIfInBounds_toArray, List.set_cons_zero, List.set_cons_succ]
                go_wp2_with fail
                refine HC3.mono ?_
                rintro e V4 ⟨rfl, hb3⟩
                have HV4 : Hid (PI w V4 b q B0 (.slice (some ⟨g1, 0, none⟩) nl lc) (.slice (some ⟨g, 0, none⟩) nd dc) R ⟨x, m.au, m.ch, m.h, op, y, n, t⟩ (votD R.D (R.D.take i) x 1) (votD R.D (R.D.take i) x 2) (talkD (R.D.take i) x)) := HV1.out.below hb3
                have HBV4 : Hid (Blk V4 q8 94 [iv dk, iv did, .string du, .string dt]) := HBV1.out.below hb3 HBV1.out.lt
                have k0V4 : V4.cell? ⟨q8, 0, none⟩ = some (iv dk) := HBV4.out.cell rfl
                have k2V4 : V4.cell? ⟨q8, 2, none⟩ = some (.string du) := HBV4.out.cell rfl
                clear k0V1 k2V1
                clear HC3 hb3
                by_cases r2 : r = 2
                · subst r2
                  have c37 : V4.cell? ⟨q, 37, none⟩ = some (.slice n.a n.n n.c) := HV4.out.pp.cell (Pp.tail HV4.out.pat 2)
                  have HCW := with_new du _ _ V4 HV4.out.no (by have h1 := votD_len R.D x 2 (R.D.take i); rw [List.length_take] at h1; have := HV4.out.brd.nd; omega)
                  go_wp2_with fail
                  refine HCW.mono ?_
                  rintro e V5 ⟨v5, rfl, ht5, hb5, hn5⟩
                  have HX5 : Hid (Blk V5 q8 94 [iv dk, iv did, .string du, .string dt] ∧ Blk V5 q 43 (Pp.cells ⟨x, m.au, m.ch, m.h, op, y, n, t⟩)) := ⟨HBV4.out.below hb5 HBV4.out.lt, HV4.out.pp.below hb5 HV4.out.pp.lt⟩
                  have HSL : Hid (v5.cells = #[v5] ∧ v5.oneCell' = true) := by
                    obtain ⟨s, rfl, _⟩ := ht5.sl
                    exact ⟨rfl, rfl⟩
                  go_wp2_with (with_reducible change wpList _ _ _ ({ dst := none, op := Op.store 40 _ _, type := _, pos := _, after := _, guard := _ } :: _) _ _; refine Hid.out ?_)
                  show wpList _ _ _ _ _ _
                  refine wpList_st1 rfl 40 (.tmp 93) (.tmp 92) rfl q 37 v5 43 (Pp.cells ⟨x, m.au, m.ch, m.h, op, y, n, t⟩) rfl rfl HX5.out.2 (by rw [Pp.length HV4.out.pat]; omega) size40 HSL.out.1 HSL.out.2 ?_
                  intro V6 hb6 hg6
                  obtain ⟨s, hs⟩ := HV4.out.noed ht5 hb5 hn5 hb6.out hg6.out
                  have HV6 : Hid (PI w V6 b q B0 (.slice (some ⟨g1, 0, none⟩) nl lc) (.slice (some ⟨g, 0, none⟩) nd dc) R ⟨x, m.au, m.ch, m.h, op, y, s, t⟩ (votD R.D (R.D.take i) x 1) (withB du (votD R.D (R.D.take i) x 2)) (talkD (R.D.take i) x)) := hs
                  have HBV6 : Hid (Blk V6 q8 94 [iv dk, iv did, .string du, .string dt]) := HX5.out.1.kept hg6.out (fun e => by cases e; have := HBK.out.2; have := HV4.out.lo; omega)
                  have k0V6 : V6.cell? ⟨q8, 0, none⟩ = some (iv dk) := HBV6.out.cell rfl
                  have k2V6 : V6.cell? ⟨q8, 2, none⟩ = some (.string du) := HBV6.out.cell rfl
                  clear HCW ht5 hb5 hn5 hb6 hg6 hs HX5 HSL c37
                  clear k0V4 k2V4
                  simp only [Act.put, List.setIfInBounds_toArray, List.set_cons_zero, List.set_cons_succ]
                  have HF : Hid (PI w V6 b q B0 (.slice (some ⟨g1, 0, none⟩) nl lc) (.slice (some ⟨g, 0, none⟩) nd dc) R ⟨x, m.au, m.ch, m.h, op, y, s, t⟩ (votD R.D (R.D.take (i + 1)) x 1) (votD R.D (R.D.take (i + 1)) x 2) (talkD (R.D.take (i + 1)) x)) := by
                    show PI w V6 b q B0 (.slice (some ⟨g1, 0, none⟩) nl lc) (.slice (some ⟨g, 0, none⟩) nd dc) R ⟨x, m.au, m.ch, m.h, op, y, s, t⟩ (votD R.D (R.D.take (i + 1)) x 1) (votD R.D (R.D.take (i + 1)) x 2) (talkD (R.D.take (i + 1)) x)
                    rw [HVN.out.1, HVN.out.1, HVN.out.2]
                    simpa using HV6.out
                  clear k0V6 k2V6
                  go_wp2
                  go_roundw
                  case rel => exact ⟨i + 1, y, s, t, by simp, HI2.out, HF.out⟩
                  case measure =>
                    have := HI2.out
                    simp only [intOf]
                    omega
                · have e6 : (r == 2) = false := by simpa using r2
                  have HF : Hid (PI w V4 b q B0 (.slice (some ⟨g1, 0, none⟩) nl lc) (.slice (some ⟨g, 0, none⟩) nd dc) R ⟨x, m.au, m.ch, m.h, op, y, n, t⟩ (votD R.D (R.D.take (i + 1)) x 1) (votD R.D (R.D.take (i + 1)) x 2) (talkD (R.D.take (i + 1)) x)) := by
                    show PI w V4 b q B0 (.slice (some ⟨g1, 0, none⟩) nl lc) (.slice (some ⟨g, 0, none⟩) nd dc) R ⟨x, m.au, m.ch, m.h, op, y, n, t⟩ (votD R.D (R.D.take (i + 1)) x 1) (votD R.D (R.D.take (i + 1)) x 2) (talkD (R.D.take (i + 1)) x)
                    rw [HVN.out.1, HVN.out.1, HVN.out.2, if_neg r1, if_neg r2]
                    exact HV4.out
                  clear r1 r2
                  clear k0V4 k2V4
                  go_wp2
                  go_roundw
                  case rel => exact ⟨i + 1, y, n, t, by simp, HI2.out, HF.out⟩
                  case measure =>
                    have := HI2.out
                    simp only [intOf]
                    omega
            · have h3' : 3 ≤ dk := by omega
              have HT : Hid (¬ did = x ∨ (¬ dk = 4 ∧ ¬ dk < 3)) := .inr ⟨h4, h3⟩
              have HF : Hid (PI w V b q B0 (.slice (some ⟨g1, 0, none⟩) nl lc) (.slice (some ⟨g, 0, none⟩) nd dc) R ⟨x, m.au, m.ch, m.h, op, y, n, t⟩ (votD R.D (R.D.take (i + 1)) x 1) (votD R.D (R.D.take (i + 1)) x 2) (talkD (R.D.take (i + 1)) x)) := by
                show PI w V b q B0 (.slice (some ⟨g1, 0, none⟩) nl lc) (.slice (some ⟨g, 0, none⟩) nd dc) R ⟨x, m.au, m.ch, m.h, op, y, n, t⟩ (votD R.D (R.D.take (i + 1)) x 1) (votD R.D (R.D.take (i + 1)) x 2) (talkD (R.D.take (i + 1)) x)
                rw [(take_next HD.out.1 HT.out).1, (take_next HD.out.1 HT.out).1, (take_next HD.out.1 HT.out).2]
                exact HV.out
              clear he h4 h3
              go_wp2
              go_roundw
              case rel => exact ⟨i + 1, y, n, t, by simp, HI2.out, HF.out⟩
              case measure =>
                have := HI2.out
                simp only [intOf]
                omega
        · have e1 : (did == x) = false := by simpa using he
          have e1' : (did != x) = true := by simpa using he
          have HT : Hid (¬ did = x ∨ (¬ dk = 4 ∧ ¬ dk < 3)) := .inl he
          have HF : Hid (PI w V b q B0 (.slice (some ⟨g1, 0, none⟩) nl lc) (.slice (some ⟨g, 0, none⟩) nd dc) R ⟨x, m.au, m.ch, m.h, op, y, n, t⟩ (votD R.D (R.D.take (i + 1)) x 1) (votD R.D (R.D.take (i + 1)) x 2) (talkD (R.D.take (i + 1)) x)) := by
            show PI w V b q B0 (.slice (some ⟨g1, 0, none⟩) nl lc) (.slice (some ⟨g, 0, none⟩) nd dc) R ⟨x, m.au, m.ch, m.h, op, y, n, t⟩ (votD R.D (R.D.take (i + 1)) x 1) (votD R.D (R.D.take (i + 1)) x 2) (talkD (R.D.take (i + 1)) x)
            rw [(take_next HD.out.1 HT.out).1, (take_next HD.out.1 HT.out).1, (take_next HD.out.1 HT.out).2]
            exact HV.out
          clear he
          go_wp2
          go_roundw
          case rel => exact ⟨i + 1, y, n, t, by simp, HI2.out, HF.out⟩
          case measure =>
            have := HI2.out
            simp only [intOf]
            omega
end Go.Proofs.Ytaecigpjcbjcbaa.Oct

/- Layer 20 (review): Say. -/
namespace Go.Proofs.Ytaecigpjcbjcbaa.Oct
open Go.RowKit
set_option linter.unusedSimpArgs false
set_option linter.unusedVariables false

def Br.said (M : Br) (i : Nat) (p : Pr) (v : Value) (u t : BA) : Br := { M with props := M.props.set i { p with tv := v, talk := p.talk ++ [(u, t)] } }
theorem Ow.put {w : World} {e sz n g : Nat} {v : Value} {cs : List Value} (h : Ow w e sz v n cs) (hg : v.ownBlock = some g) (k : Nat) (x : Value) : Ow (w.setCell ⟨g, k, none⟩ x) e sz v n (cs.set k x) := by
  refine ⟨by rw [List.length_set]; exact h.1, ?_⟩
  rcases h.2 with ⟨rfl, _⟩ | ⟨g', cap, cur, rfl, hB, hb, hn, hc, hsz, ht⟩
  · cases hg
  · cases hg
    have hb' : Blk w g' e cur.toList := by unfold Blk; rw [hb]
    refine .inr ⟨g', cap, (cur.toList.set k x).toArray, rfl, hB, hb'.set k x, hn, hc, by simpa using hsz, ?_⟩
    rw [List.toList_toArray, List.take_set, ht]
theorem cut_at2 {α : Type} {l : List α} {i : Nat} {p : α} (h : l[i]? = some p) : ∃ A B, l = A ++ p :: B ∧ A.length = i := by
  obtain ⟨h1, h2⟩ := List.getElem?_eq_some_iff.1 h
  refine ⟨l.take i, l.drop (i + 1), ?_, by rw [List.length_take]; omega⟩
  rw [← h2, ← List.drop_eq_getElem_cons h1, List.take_append_drop]
theorem nodup_swap {X Y T : List Nat} {k : Nat} (h : (X ++ (T ++ Y)).Nodup) (hN : ∀ j ∈ X ++ (T ++ Y), j ≠ k) : (X ++ (k :: Y)).Nodup := by
  have h1 : (X ++ Y).Nodup := h.sublist ((List.Sublist.refl X).append (List.sublist_append_right T Y))
  rw [List.perm_middle.nodup_iff, List.nodup_cons]
  refine ⟨fun hm => hN k ?_ rfl, h1⟩
  rcases List.mem_append.1 hm with hm | hm
  · exact List.mem_append.2 (.inl hm)
  · exact List.mem_append.2 (.inr (List.mem_append.2 (.inr hm)))
theorem propC_app (A B : List Pr) : propC (A ++ B) = propC A ++ propC B := by simp [propC]
theorem Pr.set_t {p : Pr} (h : p.patch.length = 32) (v : Value) (l : List (BA × BA)) : p.cells.set 35 v = ({ p with tv := v, talk := l } : Pr).cells := by
  simp only [Pr.cells, List.set_cons_succ]
  rw [List.set_append_right _ _ (by rw [U_length, h]; omega), U_length, h]
  rfl
theorem BAt.said {w w1 : World} {b K i g : Nat} {M : Br} {p : Pr} {u t : BA} {v' : Value} (h : BAt w b M K) (hi : M.props[i]? = some p) (hnt : p.talk.length + 1 ≤ 32) (hK : K + 1 ≤ 1000) (hpv : M.pv.ownBlock = some g)
    (ho : Ow w1 50 2 v' (p.talk.length + 1) (talkC p.talk ++ [.string u, .string t])) (hg : w.grownBy w1 p.tv.ownBlock) (hp : v'.ownBlock = p.tv.ownBlock ∨ ∃ k, v'.ownBlock = some k ∧ w.heap.size ≤ k) :
    BAt (w1.setCell ⟨g, i * 36 + 35, none⟩ v') b (M.said i p v' u t) (K + 1) ∧ BAfter w b M (M.said i p v' u t) (w1.setCell ⟨g, i * 36 + 35, none⟩ v') := by
  obtain ⟨p1, p2, p3, p4⟩ := h.parts
  obtain ⟨A, B, hAB, hA⟩ := cut_at2 hi
  have hmem : p ∈ M.props := List.mem_of_getElem? hi
  have hlt := h.lt
  have hgl : g < w.heap.size := h.prow.lt hpv
  have htvm : ∀ k, p.tv.ownBlock = some k → k ∈ M.props.flatMap Pr.bl := fun k hk => List.mem_flatMap.2 ⟨p, hmem, by simp [Pr.bl, hk]⟩
  have hgt : p.tv.ownBlock ≠ some g := fun e => (p2 g hpv).2 (htvm g e)
  have hnd : p.bl.Nodup := by
    rw [hAB, List.flatMap_append, List.flatMap_cons, List.nodup_append] at p4
    exact (List.nodup_append.1 p4.2.1).1
  have hvt : p.tv.ownBlock ≠ some p.vb := fun e => by
    unfold Pr.bl at hnd
    rw [List.nodup_cons] at hnd
    exact hnd.1 (by simp [e])
  have hs1 : ∀ j, j < w.heap.size → p.tv.ownBlock ≠ some j → w1.heap[j]? = w.heap[j]? := fun j hj hne => hg.block j hj (fun e => hne e.symm)
  have hs2 : ∀ j, j ≠ g → (w1.setCell ⟨g, i * 36 + 35, none⟩ v').heap[j]? = w1.heap[j]? := fun j hne => by
    by_cases hj : j < w1.heap.size
    · exact (grown_setCell w1 g (i * 36 + 35) v').block j hj (fun e => by cases e; exact hne rfl)
    · have hz : (w1.setCell ⟨g, i * 36 + 35, none⟩ v').heap.size = w1.heap.size := by simp [World.setCell]; try (split <;> simp)
      rw [Array.getElem?_eq_none (by omega), Array.getElem?_eq_none (by omega)]
  have hs : ∀ j, j < w.heap.size → p.tv.ownBlock ≠ some j → j ≠ g → (w1.setCell ⟨g, i * 36 + 35, none⟩ v').heap[j]? = w.heap[j]? := fun j h1 h2 h3 => (hs2 j h3).trans (hs1 j h1 h2)
  have hbl : (M.said i p v' u t).props = A ++ { p with tv := v', talk := p.talk ++ [(u, t)] } :: B := by
    show M.props.set i _ = _
    rw [hAB, List.set_append_right _ _ (by omega), hA]
    simp
  have hlen : (M.said i p v' u t).props.length = M.props.length := List.length_set
  have hvg : v'.ownBlock ≠ some g := fun e => by
    rcases hp with e2 | ⟨k, e2, e3⟩
    · exact hgt (by rw [← e2]; exact e)
    · rw [e2] at e; cases e; omega
  have hpl : ∀ q ∈ M.props, q.patch.length = 32 := fun q hq => (h.each q hq).patch
  have hmn : ∀ k ∈ (M.said i p v' u t).bl b, k ∈ M.bl b ∨ w.heap.size ≤ k := by
    intro k hk
    have hbm : M.bl b = b :: (M.pv.ownBlock.toList ++ (M.ov.ownBlock.toList ++ (A ++ p :: B).flatMap Pr.bl)) := by unfold Br.bl; rw [hAB]
    have hbs : (M.said i p v' u t).bl b = b :: (M.pv.ownBlock.toList ++ (M.ov.ownBlock.toList ++ (A ++ { p with tv := v', talk := p.talk ++ [(u, t)] } :: B).flatMap Pr.bl)) := by unfold Br.bl; rw [hbl]; rfl
    rw [hbs] at hk
    rw [hbm]
    simp only [List.flatMap_append, List.flatMap_cons, Pr.bl, List.mem_cons, List.mem_append, Option.mem_toList] at hk ⊢
    rcases hk with hk | hk | hk | hk | (hk | hk) | hk
    · exact .inl (.inl hk)
    · exact .inl (.inr (.inl hk))
    · exact .inl (.inr (.inr (.inl hk)))
    · exact .inl (.inr (.inr (.inr (.inl hk))))
    · exact .inl (.inr (.inr (.inr (.inr (.inl (.inl hk))))))
    · rcases hp with e2 | ⟨k', e2, e3⟩
      · rw [e2] at hk
        exact .inl (.inr (.inr (.inr (.inr (.inl (.inr hk))))))
      · rw [e2] at hk; cases hk; exact .inr e3
    · exact .inl (.inr (.inr (.inr (.inr (.inr hk)))))
  refine ⟨⟨?_, ?_, ?_, ?_, ?_, ?_, h.nopn, ?_, hK⟩, hmn, ?_⟩
  · exact (hs b h.blk.lt (fun e => p1.2.2 (htvm b e)) (fun e => p1.1 (by rw [e]; simp [hpv]))).trans h.blk
  · have h1 : Ow w1 87 36 M.pv M.props.length (propC M.props) := h.prow.same fun k hk => hs1 k (h.prow.lt hk) (fun e => (p2 k hk).2 (htvm k e))
    have h2 := h1.put hpv (i * 36 + 35) v'
    show Ow _ 87 36 M.pv (M.said i p v' u t).props.length (propC (M.said i p v' u t).props)
    rw [hlen, hbl]
    have e : (propC M.props).set (i * 36 + 35) v' = propC (A ++ { p with tv := v', talk := p.talk ++ [(u, t)] } :: B) := by
      have hlA : (propC A).length = i * 36 := by rw [propC_length (fun q hq => hpl q (by rw [hAB]; simp [hq])), hA]
      rw [hAB, propC_app, propC_app, List.set_append_right _ _ (by omega), hlA, show i * 36 + 35 - i * 36 = 35 by omega]
      show propC A ++ (p.cells ++ propC B).set 35 v' = propC A ++ (({ p with tv := v', talk := p.talk ++ [(u, t)] } : Pr).cells ++ propC B)
      rw [List.set_append_left _ _ (by rw [Pr.length (hpl p hmem)]; omega), Pr.set_t (hpl p hmem)]
    rw [← e]
    exact h2
  · exact h.orow.same fun k hk => hs k (h.orow.lt hk) (fun e => p3 k hk (htvm k e)) (fun e => (p2 g hpv).1 (by rw [← e]; exact hk))
  · intro q hq
    obtain ⟨j, hj⟩ := List.mem_iff_getElem?.1 hq
    change (M.props.set i _)[j]? = some q at hj
    rw [List.getElem?_set] at hj
    have hil : i < M.props.length := (List.getElem?_eq_some_iff.1 hi).1
    by_cases hij : i = j
    · subst hij
      rw [if_pos rfl, if_pos hil] at hj
      cases hj
      have hpp := h.each p hmem
      refine ⟨hpp.patch, hpp.votes.same (hs p.vb hpp.votes.lt hvt (fun e => (p2 g hpv).2 (by rw [← e]; exact List.mem_flatMap.2 ⟨p, hmem, by simp [Pr.bl]⟩))), Nat.le_succ_of_le hpp.nvotes, ?_, ?_⟩
      · show Ow _ 50 2 v' (p.talk ++ [(u, t)]).length (talkC (p.talk ++ [(u, t)]))
        rw [List.length_append, talkC_app]
        exact ho.same fun k hk => hs2 k (fun e => hvg (by rw [← e]; exact hk))
      · show (p.talk ++ [(u, t)]).length ≤ 32
        rw [List.length_append]
        exact hnt
    · rw [if_neg hij] at hj
      have hpp := h.each q (List.mem_of_getElem? hj)
      have hp' := hpp.same (w' := w1.setCell ⟨g, i * 36 + 35, none⟩ v') fun k hk => hs k (hpp.lt k hk) (fun e => nodup_flat Pr.bl M.props j i q p p4 hj hi (Ne.symm hij) k hk (by simp [Pr.bl, e])) (fun e => (p2 g hpv).2 (by rw [← e]; exact List.mem_flatMap.2 ⟨q, List.mem_of_getElem? hj, hk⟩))
      exact ⟨hp'.patch, hp'.votes, Nat.le_succ_of_le hp'.nvotes, hp'.talk, hp'.ntalk⟩
  · have hap := h.apart
    have hbm : M.bl b = (b :: (M.pv.ownBlock.toList ++ (M.ov.ownBlock.toList ++ (A.flatMap Pr.bl ++ [p.vb])))) ++ (p.tv.ownBlock.toList ++ B.flatMap Pr.bl) := by
      unfold Br.bl; rw [hAB]; simp [Pr.bl, List.append_assoc]
    have hbs : (M.said i p v' u t).bl b = (b :: (M.pv.ownBlock.toList ++ (M.ov.ownBlock.toList ++ (A.flatMap Pr.bl ++ [p.vb])))) ++ (v'.ownBlock.toList ++ B.flatMap Pr.bl) := by
      unfold Br.bl; rw [hbl]; simp [Pr.bl, List.append_assoc, Br.said]
    rw [hbs]
    rcases hp with e2 | ⟨k', e2, e3⟩
    · rw [e2, ← hbm]; exact hap
    · rw [e2]
      show ((b :: (M.pv.ownBlock.toList ++ (M.ov.ownBlock.toList ++ (A.flatMap Pr.bl ++ [p.vb])))) ++ (k' :: B.flatMap Pr.bl)).Nodup
      refine nodup_swap (T := p.tv.ownBlock.toList) (by rw [← hbm]; exact hap) (fun j hj => ?_)
      rw [← hbm] at hj
      have := hlt j hj
      omega
  · show (M.said i p v' u t).props.length ≤ K + 1
    rw [hlen]; exact Nat.le_succ_of_le h.nprops
  · intro x hx
    have := h.opn x hx
    show _ ∧ x ≤ (M.said i p v' u t).props.length
    rw [hlen]; exact this
  · refine (Keep.grownO hg (fun k hk => ?_)).trans (Keep.grown (S := fun k => k ∈ M.bl b) (grown_setCell _ _ _ _) ?_) (fun _ hj _ => hj)
    · show k ∈ M.bl b
      unfold Br.bl
      exact List.mem_cons_of_mem _ (List.mem_append.2 (.inr (List.mem_append.2 (.inr (htvm k hk)))))
    · show g ∈ M.bl b
      unfold Br.bl
      exact List.mem_cons_of_mem _ (List.mem_append.2 (.inl (by simp [hpv])))
theorem Ow.blk {w : World} {e sz n g : Nat} {v : Value} {cs : List Value} (h : Ow w e sz v n cs) (hg : v.ownBlock = some g) : ∃ L, Blk w g e L ∧ n * sz ≤ L.length := by
  rcases h.2 with ⟨rfl, _⟩ | ⟨g', cap, cur, rfl, hB, hb, hn, hc, hsz, ht⟩
  · cases hg
  · cases hg
    refine ⟨cur.toList, by unfold Blk; rw [hb], ?_⟩
    rw [Array.length_toList, hsz]
    exact Nat.mul_le_mul_right _ hn
theorem wpList_st1w {ops : Array Oper} {rest : List Oper} {o : Oper} {a : Act} {w : World} {Q : Exit → Act → World → Prop} (hg : o.guard = none) (t : TypeId) (x y : Operand) (hop : o.op = .store t x y) (b k : Nat) (v : Value) (T : TypeId) (L : List Value) (hx : a.eval x = .pointer (some ⟨b, k, none⟩)) (hy : a.eval y = v) (hb : Blk w b T L) (hkl : k < L.length)
    (hi : (Try.prog.info? t).map (·.size) = some 1) (h1 : v.cells = #[v]) (h2 : v.oneCell' = true) (hk : wpList Try.prog ops Q rest (a.put o.dst undef) (w.setCell ⟨b, k, none⟩ v)) : wpList Try.prog ops Q (o :: rest) a w := by
  refine wpList_plain hg fun K hK => ?_
  obtain ⟨i, hi2, hi3⟩ := Option.map_eq_some_iff.1 hi
  obtain ⟨u, hu⟩ : ∃ u, L[k]? = some u := ⟨_, List.getElem?_eq_getElem hkl⟩
  have hc := hb.cell hu
  have hf := hb.free k
  unfold Oper.wp execOp
  simp [hop, hx, hy, Instr.storeAt, Instr.sureAddr, storeVar, sizeOf, typeInfo, hi2, hi3, h1, storeCells, run_store _ _ _ _ _ h2, stored, hc, hf, Addr.add_lit, Result.andThen]
  exact hK _ _ hk
def SayP (w : World) (b K : Nat) (M : Br) (x : Int) (u t : BA) (e : Ending) (w' : World) : Prop :=
  ∃ M', BAt w' b M' (K + 1) ∧ BAfter w b M M' w' ∧ ((M.at? x = none ∧ M' = M ∧ e = .returned (iv 111)) ∨ (∃ (p : Pr) (i : Nat), M.at? x = some p ∧ x = (i : Int) + 1 ∧ M.props[i]? = some p ∧
    (((200 < t.size ∨ 32 ≤ p.talk.length) ∧ M' = M ∧ e = .returned (iv 3)) ∨ (¬ (200 < t.size ∨ 32 ≤ p.talk.length) ∧ (∃ v, M' = M.said i p v u t) ∧ e = .returned (iv 0)))))
set_option maxRecDepth 100000 in
set_option maxHeartbeats 1000000 in
theorem say_is {w : World} {b K : Nat} {M : Br} (h : BAt w b M K) (hK : K + 1 ≤ 1000) (x : Int) (u t : BA) (hu : u.size ≤ 140737488355328) (ht : t.size ≤ 140737488355328) :
    Calls Try.prog 30 #[.pointer (some ⟨b, 0, none⟩), iv x, .string u, .string t] w (SayP w b K M x u t) := by
  have HF := find_is h x
  have HA : Hid (BAt w b M K) := h
  have HK : Hid (K + 1 ≤ 1000) := hK
  obtain ⟨ts, hts⟩ : ∃ n, t.size = n := ⟨_, rfl⟩
  have HTS : Hid (t.size = ts) := hts
  have qt : (ts : Int) ≤ 140737488355328 := by omega
  clear h hK hu ht
  go_enter Try.func30, Try.ntmps30
  go_wp2_with fail
  refine HF.mono ?_
  rintro e w1 ⟨⟨h1, rfl⟩ | ⟨p, g, i, h1, h3, h4, h5, rfl⟩, rfl⟩
  · have H : Hid (M.at? x = none) := h1
    clear h1 HF
    go_wp2
    go_ret
    exact ⟨M, HA.out.more HK.out, BAfter.refl _ _ _, .inl ⟨H.out, rfl, rfl⟩⟩
  · obtain ⟨a1, a2, a3, a4, a5, a6, a7, a8, a9⟩ := HA.out.where h4 h5
    have HI : Hid (M.at? x = some p ∧ x = (i : Int) + 1 ∧ M.props[i]? = some p ∧ M.pv.ownBlock = some g) := ⟨h1, h3, h4, h5⟩
    have hpt := (HA.out.each p (List.mem_of_getElem? h4)).talk
    obtain ⟨ta, hta⟩ := own_sl hpt
    obtain ⟨tn, htn⟩ : ∃ n, p.talk.length = n := ⟨_, rfl⟩
    have HTN : Hid (p.talk.length = tn ∧ ta.n = tn ∧ p.tv = .slice ta.a ta.n ta.c ∧ tn ≤ 32) := by
      refine ⟨htn, ?_, hta, by rw [← htn]; exact (HA.out.each p (List.mem_of_getElem? h4)).ntalk⟩
      obtain ⟨a, cap, hv, _⟩ := hpt.read
      rw [hta] at hv
      injection hv with e1 e2 e3
      rw [e2, htn]
    have c35 : w.cell? ⟨g, i * 36 + 35, none⟩ = some (.slice ta.a tn ta.c) := by rw [a5, hta, HTN.out.2.1]
    have qn : (tn : Int) ≤ 32 := by have := HTN.out.2.2.2; omega
    clear h1 h3 h4 h5 HF a1 a2 a3 a4 a5 a6 a7 a8 a9 hpt hta htn
    by_cases ht2 : (200 : Int) < (ts : Int)
    · have H : Hid (200 < t.size ∨ 32 ≤ p.talk.length) := .inl (by rw [HTS.out]; omega)
      go_wp2
      go_ret
      exact ⟨M, HA.out.more HK.out, BAfter.refl _ _ _, .inr ⟨p, i, HI.out.1, HI.out.2.1, HI.out.2.2.1, .inl ⟨H.out, rfl, rfl⟩⟩⟩
    · have ht3 : (ts : Int) ≤ 200 := by omega
      have HT3 : Hid (ts ≤ 200) := by show _ ≤ _; omega
      clear ht2
      by_cases hn2 : (32 : Int) ≤ (tn : Int)
      · have H : Hid (200 < t.size ∨ 32 ≤ p.talk.length) := .inr (by rw [HTN.out.1]; omega)
        go_wp2
        go_ret
        exact ⟨M, HA.out.more HK.out, BAfter.refl _ _ _, .inr ⟨p, i, HI.out.1, HI.out.2.1, HI.out.2.2.1, .inl ⟨H.out, rfl, rfl⟩⟩⟩
      · have hn3 : (tn : Int) < 32 := by omega
        have H : Hid (¬ (200 < t.size ∨ 32 ≤ p.talk.length)) := by
          rintro (h | h)
          · rw [HTS.out] at h; have := HT3.out; omega
          · rw [HTN.out.1] at h; omega
        have HN3 : Hid (tn + 1 ≤ 32) := by show _ ≤ _; omega
        clear hn2
        obtain ⟨i0, z0, f0, f1, f2, f3, f4⟩ := info50
        have HI0 : Hid (Try.prog.info? 50 = some i0 ∧ i0.zero = some z0 ∧ i0.size = 2 ∧ i0.bytes ≤ 1000 ∧ z0.cells.size = 2) := ⟨f0, f1, f2, f3, f4⟩
        have hbs := run_bs41 u t
        have HW : Hid (BAt (w.alloc (.cells #[.string u, .string t] 50)) b M K) := HA.out.below (below_al w _)
        have HOT : Hid ((w.alloc (.cells #[.string u, .string t] 50)).ownsRow 0 50 2 (.slice ta.a tn ta.c) tn (talkC p.talk)) := by
          have h1 := (HW.out.each p (List.mem_of_getElem? HI.out.2.2.1)).talk
          have h2 := HTN.out
          rw [h2.2.2.1, h2.1, h2.2.1] at h1
          exact h1
        clear f0 f1 f2 f3 f4
        go_wp2_with (with_reducible change wpList _ _ _ ({ dst := some 42, op := _, type := _, pos := _, after := _, guard := _ } :: _) _ _; refine Hid.out ?_)
        show wpList _ _ _ _ _ _
        refine wpList_append_g rfl (.tmp 37) (.tmp 41) 41 rfl _ 50 i0 z0 2 0 Try.underlying41 HI0.out.1 HI0.out.2.1 HI0.out.2.2.1 HI0.out.2.2.2.1 HI0.out.2.2.2.2 (by omega) (.slice ta.a tn ta.c) _ _ HOT.out (some ⟨w.heap.size, 0, none⟩) 1 1 [.string u, .string t] rfl rfl (rx_pair (by simpa using Blk.new w #[.string u, .string t] 50)) (Nat.zero_le _) (by have := HN3.out; omega) ?_
        intro v5 V5 ho hg5 hp5
        have HS : Hid (BAt (V5.setCell ⟨g, i * 36 + 35, none⟩ v5) b (M.said i p v5 u t) (K + 1) ∧ BAfter w b M (M.said i p v5 u t) (V5.setCell ⟨g, i * 36 + 35, none⟩ v5)) := by
          have h2 := HTN.out
          have htv : p.tv = .slice ta.a tn ta.c := by rw [h2.2.2.1, h2.2.1]
          have h3 := HW.out.said (u := u) (t := t) (v' := v5) (w1 := V5) HI.out.2.2.1 (by rw [h2.1]; exact HN3.out) HK.out HI.out.2.2.2 (by rw [h2.1]; exact ho.out) (by rw [htv]; exact hg5.out) (by rw [htv]; exact hp5.out.imp id (fun e => ⟨_, e, Nat.le_refl _⟩))
          exact ⟨h3.1, BAfter.first (below_al w _) h3.2⟩
        obtain ⟨L, hL, hkl⟩ : ∃ L, Blk V5 g 87 L ∧ i * 36 + 35 < L.length := by
          obtain ⟨L, hL, hkl⟩ := HW.out.prow.blk HI.out.2.2.2
          have hil : i < M.props.length := (List.getElem?_eq_some_iff.1 HI.out.2.2.1).1
          exact ⟨L, hL.kept hg5.out (own_ne HOT.out hL (by decide)), by omega⟩
        have HL : Hid (Blk V5 g 87 L ∧ i * 36 + 35 < L.length) := ⟨hL, hkl⟩
        have HSL : Hid (v5.cells = #[v5] ∧ v5.oneCell' = true) := own_slice ho.out
        clear hg5 hp5 hL hkl ho
        go_wp2_with (with_reducible change wpList _ _ _ ({ dst := none, op := Op.store 41 _ _, type := _, pos := _, after := _, guard := _ } :: _) _ _; refine Hid.out ?_)
        show wpList _ _ _ _ _ _
        refine wpList_st1w rfl 41 (.tmp 44) (.tmp 42) rfl g (i * 36 + 35) v5 87 L rfl rfl HL.out.1 HL.out.2 size41 HSL.out.1 HSL.out.2 ?_
        obtain ⟨V6, hV6⟩ : ∃ V, V5.setCell ⟨g, i * 36 + 35, none⟩ v5 = V := ⟨_, rfl⟩
        have HS6 : Hid (BAt V6 b (M.said i p v5 u t) (K + 1) ∧ BAfter w b M (M.said i p v5 u t) V6) := by rw [← hV6]; exact HS.out
        rw [hV6]
        clear hV6 HS
        go_wp2
        go_ret
        exact ⟨_, HS6.out.1, HS6.out.2, .inr ⟨p, i, HI.out.1, HI.out.2.1, HI.out.2.2.1, .inr ⟨H.out, ⟨v5, rfl⟩, rfl⟩⟩⟩
end Go.Proofs.Ytaecigpjcbjcbaa.Oct
