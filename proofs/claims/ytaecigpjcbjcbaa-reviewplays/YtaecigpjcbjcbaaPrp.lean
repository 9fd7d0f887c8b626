/-
  Layer 20 (review): Proposal: its drawn region.
-/
import Derived.Test.YtaecigpjcbjcbaaCln
namespace Go.Proofs.Ytaecigpjcbjcbaa.Oct
open Go.RowKit
set_option linter.unusedSimpArgs false
set_option linter.unusedVariables false

set_option maxRecDepth 100000 in
theorem run_build43 (x : Int) (au ch : BA) (h : Hs) (hl : h.length = 32) (op : Bool) (y n t : Sl) (W : World) : (Instr.build 43 #[(0, iv x), (1, .string au), (2, .string ch), (3, .agg (U h).toArray), (4, .bool op), (5, .slice y.a y.n y.c), (6, .slice n.a n.n n.c), (7, .slice t.a t.n t.c)]).run Try.prog W = .ok (.agg (Pp.cells ⟨x, au, ch, h, op, y, n, t⟩).toArray) W := by
  obtain ⟨a0, l0, rfl, h0⟩ := uncons hl
  obtain ⟨a1, l1, rfl, h1⟩ := uncons h0
  obtain ⟨a2, l2, rfl, h2⟩ := uncons h1
  obtain ⟨a3, l3, rfl, h3⟩ := uncons h2
  obtain ⟨a4, l4, rfl, h4⟩ := uncons h3
  obtain ⟨a5, l5, rfl, h5⟩ := uncons h4
  obtain ⟨a6, l6, rfl, h6⟩ := uncons h5
  obtain ⟨a7, l7, rfl, h7⟩ := uncons h6
  obtain ⟨a8, l8, rfl, h8⟩ := uncons h7
  obtain ⟨a9, l9, rfl, h9⟩ := uncons h8
  obtain ⟨a10, l10, rfl, h10⟩ := uncons h9
  obtain ⟨a11, l11, rfl, h11⟩ := uncons h10
  obtain ⟨a12, l12, rfl, h12⟩ := uncons h11
  obtain ⟨a13, l13, rfl, h13⟩ := uncons h12
  obtain ⟨a14, l14, rfl, h14⟩ := uncons h13
  obtain ⟨a15, l15, rfl, h15⟩ := uncons h14
  obtain ⟨a16, l16, rfl, h16⟩ := uncons h15
  obtain ⟨a17, l17, rfl, h17⟩ := uncons h16
  obtain ⟨a18, l18, rfl, h18⟩ := uncons h17
  obtain ⟨a19, l19, rfl, h19⟩ := uncons h18
  obtain ⟨a20, l20, rfl, h20⟩ := uncons h19
  obtain ⟨a21, l21, rfl, h21⟩ := uncons h20
  obtain ⟨a22, l22, rfl, h22⟩ := uncons h21
  obtain ⟨a23, l23, rfl, h23⟩ := uncons h22
  obtain ⟨a24, l24, rfl, h24⟩ := uncons h23
  obtain ⟨a25, l25, rfl, h25⟩ := uncons h24
  obtain ⟨a26, l26, rfl, h26⟩ := uncons h25
  obtain ⟨a27, l27, rfl, h27⟩ := uncons h26
  obtain ⟨a28, l28, rfl, h28⟩ := uncons h27
  obtain ⟨a29, l29, rfl, h29⟩ := uncons h28
  obtain ⟨a30, l30, rfl, h30⟩ := uncons h29
  obtain ⟨a31, l31, rfl, h31⟩ := uncons h30
  obtain rfl := List.eq_nil_of_length_eq_zero h31
  kernel_rfl
def Pp.zero : Pp := ⟨0, ⟨#[]⟩, ⟨#[]⟩, List.replicate 32 0, false, ⟨none, 0, 0⟩, ⟨none, 0, 0⟩, ⟨none, 0, 0⟩⟩
set_option maxRecDepth 100000 in
theorem zero43 (W : World) : (zeroValue 43).run Try.prog W = .ok (.agg Pp.zero.cells.toArray) W := by kernel_rfl
set_option maxRecDepth 100000 in
theorem run_build43_0 (W : World) : (Instr.build 43 #[]).run Try.prog W = .ok (.agg Pp.zero.cells.toArray) W := by kernel_rfl
theorem zero_len : Pp.zero.cells.length = 39 := Pp.length (by simp [Pp.zero])
theorem size43 : (Try.prog.info? 43).map (·.size) = some 39 := by kernel_rfl
theorem own_base {w : World} {B B' e sz n : Nat} {v : Value} {cs : List Value} (h : w.ownsRow B e sz v n cs) (hB : B' ≤ B) : w.ownsRow B' e sz v n cs := by
  refine ⟨h.1, ?_⟩
  rcases h.2 with hn | ⟨g, cap, cur, rfl, h1, hr⟩
  · exact .inl hn
  · exact .inr ⟨g, cap, cur, rfl, Nat.le_trans hB h1, hr⟩
theorem own_sl {w : World} {B e sz n : Nat} {v : Value} {cs : List Value} (h : w.ownsRow B e sz v n cs) : ∃ s : Sl, v = .slice s.a s.n s.c := by
  rcases h.2 with ⟨rfl, _⟩ | ⟨g, cap, cur, rfl, _⟩
  · exact ⟨⟨none, 0, 0⟩, rfl⟩
  · exact ⟨⟨_, _, _⟩, rfl⟩
theorem yl_build8 {o : Oper} {a : Act} (V : World) (t : TypeId) (x0 x1 x2 x3 x4 x5 x6 x7 : Operand) (u0 u1 u2 u3 u4 u5 u6 u7 v : Value) (hop : o.op = .build t #[(0, x0), (1, x1), (2, x2), (3, x3), (4, x4), (5, x5), (6, x6), (7, x7)]) (h0 : a.eval x0 = u0) (h1 : a.eval x1 = u1) (h2 : a.eval x2 = u2) (h3 : a.eval x3 = u3) (h4 : a.eval x4 = u4) (h5 : a.eval x5 = u5) (h6 : a.eval x6 = u6) (h7 : a.eval x7 = u7)
    (hrun : ∀ W, (Instr.build t #[(0, u0), (1, u1), (2, u2), (3, u3), (4, u4), (5, u5), (6, u6), (7, u7)]).run Try.prog W = .ok v W) : (execOp a.eval o).run Try.prog V = .ok (.value v) V := by
  unfold execOp
  simp [hop, h0, h1, h2, h3, h4, h5, h6, h7, hrun, Result.andThen]
theorem step_stN {ops : Array Oper} {o : Oper} {a : Act} {w : World} {K : Act → World → Prop} {Q : Exit → Act → World → Prop} {E : Prop} (hw : Region.wanted o (yielded ops a.tmps) = true) (t : TypeId) (x y : Operand) (hop : o.op = .store t x y) (b : Nat) (cs : List Value) (T : TypeId) (L : List Value) (hx : a.eval x = .pointer (some ⟨b, 0, none⟩)) (hy : a.eval y = .agg cs.toArray) (hb : Blk w b T L) (hkl : cs.length = L.length)
    (hi : (Try.prog.info? t).map (·.size) = some cs.length) (h1 : ∀ v ∈ cs, v.oneCell' = true) (hk : ∀ V, Hid (V.rangeAt b 0 cs) → Hid (w.grownBy V (some b)) → K (a.put o.dst undef) V) : if Region.wanted o (yielded ops a.tmps) = true then Oper.wp Try.prog o a w K Q else E := by
  rw [if_pos hw]
  refine wp_store_mid t x y hop b 0 cs.toArray hx hy (by simpa using hb.there 0 cs.length (by omega)) (by simpa using hi) (all_oneCell_toArray h1) ?_
  have e := Blk.setCells cs 0 w L hb (by omega)
  refine hk _ ?_ e.2
  have := World.rangeAt_setCells_same w b 0 cs (hb.there 0 cs.length (by omega))
  show World.rangeAt _ _ _ _
  simpa using this
theorem isOpen_b {w : World} {b K : Nat} {M : Br} {r : Bool} (h : BAt w b M K) (x : Int) (hr : hasN M.opn x = r) : Calls Try.prog 40 #[.pointer (some ⟨b, 0, none⟩), iv x] w fun e w' => e = .returned (.bool r) ∧ Below w.heap.size w w' := by
  subst hr
  refine (isOpen_is h x).mono ?_
  rintro e w' ⟨rfl, rfl⟩
  exact ⟨rfl, Below.refl _ _⟩
/-- who voted so, as a row of the call's own -/
def Names (B : Nat) (w : World) (s : Sl) (l : List Hs) : Prop := w.ownsRow B 9 1 (.slice s.a s.n s.c) l.length (l.map hv)
theorem Names.below {B : Nat} {w w' : World} {s : Sl} {l : List Hs} (h : Names B w s l) (hb : Below w.heap.size w w') : Names B w' s l := ownsRow_below h hb
theorem sortK_len (l : List Hs) : (sortK l).length = l.length := by unfold sortK; simp
theorem voters_s {w : World} {B b K g i : Nat} {M : Br} {p : Pr} (h : BAt w b M K) (hi : M.props[i]? = some p) (hg : M.pv.ownBlock = some g) (so : Int) (hB : B ≤ w.heap.size) :
    Calls Try.prog 41 #[.pointer (some ⟨g, i * 36, none⟩), iv so] w fun e w' => ∃ s : Sl, e = .returned (.slice s.a s.n s.c) ∧ Hid (Names B w' s (sortK (whoV p.votes so))) ∧ Below w.heap.size w w' := by
  obtain ⟨a1, a2, a3, a4, a5, a6, a7, a8, a9⟩ := h.where hi hg
  refine (voters_is a4 a8 (by have := (h.each p (List.mem_of_getElem? hi)).nvotes; have := h.few; omega) so).mono ?_
  rintro e w' ⟨v, rfl, h1, h2⟩
  obtain ⟨s, rfl⟩ := own_sl h1
  refine ⟨s, rfl, ?_, h2⟩
  show w'.ownsRow B 9 1 _ _ _
  rw [sortK_len]
  exact own_base h1 hB
theorem clone_s {w : World} {B b K i : Nat} {M : Br} {p : Pr} (h : BAt w b M K) (hi : M.props[i]? = some p) (hB : B ≤ w.heap.size) {ta : Sl} (ht : p.tv = .slice ta.a ta.n ta.c) :
    Calls Try.prog 42 #[.slice ta.a ta.n ta.c] w fun e w' => ∃ s : Sl, e = .returned (.slice s.a s.n s.c) ∧ Hid (w'.ownsRow B 50 2 (.slice s.a s.n s.c) p.talk.length (talkC p.talk)) ∧ Below w.heap.size w w' := by
  have hp := h.each p (List.mem_of_getElem? hi)
  rw [← ht]
  refine (clone42_is hp.talk (talk_one _) (by have := hp.ntalk; omega)).mono ?_
  rintro e w' ⟨v, rfl, h1, h2⟩
  obtain ⟨s, rfl⟩ := own_sl h1
  exact ⟨s, rfl, own_base h1 hB, h2⟩
theorem own_kept {w w' : World} {B e sz n q T : Nat} {v : Value} {cs L : List Value} (h : w.ownsRow B e sz v n cs) (hg : w.grownBy w' (some q)) (hne : e ≠ T) (hq : Blk w q T L) : w'.ownsRow B e sz v n cs := by
  refine ⟨h.1, ?_⟩
  rcases h.2 with hn | ⟨g, cap, cur, rfl, h1, hb, hr⟩
  · exact .inl hn
  · refine .inr ⟨g, cap, cur, rfl, h1, (hg.block g (lt_of_block hb) (fun hk => ?_)).trans hb, hr⟩
    cases hk
    rw [show w.heap[q]? = some (.cells L.toArray T (0, 0)) from hq] at hb
    cases hb
    exact hne rfl
/-- what the region leaves -/
def Tld (w : World) (p : Pr) (x : Int) (r : Bool) (q : Nat) (y n t : Sl) (V : World) : Prop :=
  V.rangeAt q 0 (Pp.cells ⟨x, p.author, p.channel, p.patch, r, y, n, t⟩) ∧ Names w.heap.size V y (sortK (whoV p.votes 1)) ∧ Names w.heap.size V n (sortK (whoV p.votes 2)) ∧ V.ownsRow w.heap.size 50 2 (.slice t.a t.n t.c) p.talk.length (talkC p.talk) ∧ Below w.heap.size w V
set_option maxRecDepth 100000 in
set_option maxHeartbeats 4000000 in
theorem told4 {Q : Exit → Act → World → Prop} {x2 x3 x5 x7 x8 x9 x10 x11 x12 x13 x14 x15 x16 x17 x18 x19 x20 x21 x22 x23 x24 x25 x26 x27 x28 x29 x30 x31 x32 x33 x34 x35 x36 x37 x38 x39 x40 x41 x42 : Value} {ds : List Deferred} {A : World} {w : World} {b g i q K : Nat} {x : Int} {M : Br} {p : Pr} {r : Bool} {ta : Sl}
    (HWA : Hid (Below w.heap.size w A)) (HA : Hid (BAt w b M K)) (HI : Hid (M.props[i]? = some p ∧ M.pv.ownBlock = some g)) (HL : Hid (g < w.heap.size ∧ w.rangeAt g (i * 36 + 2) (U p.patch) ∧ p.patch.length = 32)) (g0 : w.cell? ⟨g, i * 36, none⟩ = some (.string p.author)) (g1 : w.cell? ⟨g, i * 36 + 1, none⟩ = some (.string p.channel)) (g35 : w.cell? ⟨g, i * 36 + 35, none⟩ = some (.slice ta.a ta.n ta.c)) (ht : Hid (p.tv = .slice ta.a ta.n ta.c)) (hr : Hid (hasN M.opn x = r)) (HQ : Hid (w.heap.size ≤ q)) (HQB : Hid (Blk A q 43 Pp.zero.cells))
    (hQ : ∀ V1 y n t, Tld w p x r q y n t V1 → Q .normal { tmps := #[.pointer (some ⟨b, 0, none⟩), iv x, x2, x3, .pointer (some ⟨q, 0, none⟩), .bool true, .pointer (some ⟨g, i * 36, none⟩), x7, x8, x9, x10, x11, x12, x13, x14, x15, x16, iv x, .pointer (some ⟨g, i * 36, none⟩), .pointer (some ⟨g, i * 36, none⟩), .pointer (some ⟨g, i * 36, none⟩), .string p.author, .pointer (some ⟨g, i * 36, none⟩), .pointer (some ⟨g, i * 36, none⟩), .pointer (some ⟨g, i * 36 + 1, none⟩), .string p.channel, .pointer (some ⟨g, i * 36, none⟩), .pointer (some ⟨g, i * 36, none⟩), .pointer (some ⟨g, i * 36 + 2, none⟩), .agg (U p.patch).toArray, .pointer (some ⟨b, 0, none⟩), iv x, .bool r, .pointer (some ⟨g, i * 36, none⟩), .slice y.a y.n y.c, .pointer (some ⟨g, i * 36, none⟩), .slice n.a n.n n.c, .pointer (some ⟨g, i * 36, none⟩), .pointer (some ⟨g, i * 36, none⟩), .pointer (some ⟨g, i * 36 + 35, none⟩), .slice ta.a ta.n ta.c, .slice t.a t.n t.c, .agg (Pp.cells ⟨x, p.author, p.channel, p.patch, r, y, n, t⟩).toArray], defers := ds } V1) :
    (Code.region 4 #[{ dst := some 17, op := Op.move (Operand.tmp 1), type := 3, pos := "review.go:109", after := #[], guard := none }, { dst := some 18, op := Op.move (Operand.tmp 6), type := 82, pos := "review.go:109", after := #[], guard := none }, { dst := some 19, op := Op.nilCheck (Operand.tmp 18), type := 0, pos := "review.go:109", after := #[{ on := 1, ground := Ground.data }], guard := none }, { dst := some 20, op := Op.fieldAddr 87 (Operand.tmp 19) 0, type := 0, pos := "review.go:109", after := #[{ on := 2, ground := Ground.data }], guard := none }, { dst := some 21, op := Op.load 9 (Operand.tmp 20), type := 9, pos := "review.go:109", after := #[{ on := 3, ground := Ground.data }], guard := none }, { dst := some 22, op := Op.move (Operand.tmp 6), type := 82, pos := "review.go:109", after := #[], guard := none }, { dst := some 23, op := Op.nilCheck (Operand.tmp 22), type := 0, pos := "review.go:109", after := #[{ on := 5, ground := Ground.data }], guard := none }, { dst := some 24, op := Op.fieldAddr 87 (Operand.tmp 23) 1, type := 0, pos := "review.go:109", after := #[{ on := 6, ground := Ground.data }], guard := none }, { dst := some 25, op := Op.load 9 (Operand.tmp 24), type := 9, pos := "review.go:109", after := #[{ on := 7, ground := Ground.data }], guard := none }, { dst := some 26, op := Op.move (Operand.tmp 6), type := 82, pos := "review.go:109", after := #[], guard := none }, { dst := some 27, op := Op.nilCheck (Operand.tmp 26), type := 0, pos := "review.go:109", after := #[{ on := 9, ground := Ground.data }], guard := none }, { dst := some 28, op := Op.fieldAddr 87 (Operand.tmp 27) 2, type := 0, pos := "review.go:109", after := #[{ on := 10, ground := Ground.data }], guard := none }, { dst := some 29, op := Op.load 32 (Operand.tmp 28), type := 32, pos := "review.go:109", after := #[{ on := 11, ground := Ground.data }], guard := none }, { dst := some 30, op := Op.move (Operand.tmp 0), type := 25, pos := "review.go:109", after := #[], guard := none }, { dst := some 31, op := Op.move (Operand.tmp 1), type := 3, pos := "review.go:109", after := #[], guard := none }, { dst := some 32, op := Op.call { callee := Callee.value (Operand.func 40), args := #[Operand.tmp 30, Operand.tmp 31], argTypes := #[25, 3] }, type := 4, pos := "review.go:114", after := #[{ on := 13, ground := Ground.data }, { on := 14, ground := Ground.data }], guard := none }, { dst := some 33, op := Op.move (Operand.tmp 6), type := 82, pos := "review.go:109", after := #[], guard := none }, { dst := some 34, op := Op.call { callee := Callee.value (Operand.func 41), args := #[Operand.tmp 33, Operand.const (Value.int IntKind.i64 1)], argTypes := #[82, 89] }, type := 40, pos := "review.go:115", after := #[{ on := 16, ground := Ground.data }, { on := 15, ground := Ground.chain }], guard := none }, { dst := some 35, op := Op.move (Operand.tmp 6), type := 82, pos := "review.go:109", after := #[], guard := none }, { dst := some 36, op := Op.call { callee := Callee.value (Operand.func 41), args := #[Operand.tmp 35, Operand.const (Value.int IntKind.i64 2)], argTypes := #[82, 89] }, type := 40, pos := "review.go:116", after := #[{ on := 18, ground := Ground.data }, { on := 17, ground := Ground.chain }], guard := none }, { dst := some 37, op := Op.move (Operand.tmp 6), type := 82, pos := "review.go:109", after := #[], guard := none }, { dst := some 38, op := Op.nilCheck (Operand.tmp 37), type := 0, pos := "review.go:109", after := #[{ on := 20, ground := Ground.data }], guard := none }, { dst := some 39, op := Op.fieldAddr 87 (Operand.tmp 38) 4, type := 0, pos := "review.go:109", after := #[{ on := 21, ground := Ground.data }], guard := none }, { dst := some 40, op := Op.load 41 (Operand.tmp 39), type := 41, pos := "review.go:109", after := #[{ on := 22, ground := Ground.data }], guard := none }, { dst := some 41, op := Op.call { callee := Callee.value (Operand.func 42), args := #[Operand.tmp 40], argTypes := #[41] }, type := 41, pos := "review.go:117", after := #[{ on := 23, ground := Ground.data }, { on := 19, ground := Ground.chain }], guard := none }, { dst := some 42, op := Op.build 43 #[(0, Operand.tmp 17), (1, Operand.tmp 21), (2, Operand.tmp 25), (3, Operand.tmp 29), (4, Operand.tmp 32), (5, Operand.tmp 34), (6, Operand.tmp 36), (7, Operand.tmp 41)], type := 43, pos := "review.go:109", after := #[{ on := 0, ground := Ground.data }, { on := 4, ground := Ground.data }, { on := 8, ground := Ground.data }, { on := 12, ground := Ground.data }, { on := 15, ground := Ground.data }, { on := 17, ground := Ground.data }, { on := 19, ground := Ground.data }, { on := 24, ground := Ground.data }], guard := none }, { dst := none, op := Op.store 43 (Operand.tmp 4) (Operand.tmp 42), type := 0, pos := "review.go:109", after := #[{ on := 25, ground := Ground.data }, { on := 24, ground := Ground.chain }, { on := 0, ground := Ground.phase }, { on := 1, ground := Ground.phase }, { on := 2, ground := Ground.phase }, { on := 3, ground := Ground.phase }, { on := 4, ground := Ground.phase }, { on := 5, ground := Ground.phase }, { on := 6, ground := Ground.phase }, { on := 7, ground := Ground.phase }, { on := 8, ground := Ground.phase }, { on := 9, ground := Ground.phase }, { on := 10, ground := Ground.phase }, { on := 11, ground := Ground.phase }, { on := 12, ground := Ground.phase }, { on := 13, ground := Ground.phase }, { on := 14, ground := Ground.phase }, { on := 15, ground := Ground.phase }, { on := 16, ground := Ground.phase }, { on := 17, ground := Ground.phase }, { on := 18, ground := Ground.phase }, { on := 19, ground := Ground.phase }, { on := 20, ground := Ground.phase }, { on := 21, ground := Ground.phase }, { on := 22, ground := Ground.phase }, { on := 23, ground := Ground.phase }, { on := 24, ground := Ground.phase }, { on := 25, ground := Ground.phase }], guard := none }, { dst := some 5, op := Op.assign (Operand.const (Value.bool true)), type := 4, pos := "review.go:109", after := #[{ on := 26, ground := Ground.chain }, { on := 0, ground := Ground.phase }, { on := 1, ground := Ground.phase }, { on := 2, ground := Ground.phase }, { on := 3, ground := Ground.phase }, { on := 4, ground := Ground.phase }, { on := 5, ground := Ground.phase }, { on := 6, ground := Ground.phase }, { on := 7, ground := Ground.phase }, { on := 8, ground := Ground.phase }, { on := 9, ground := Ground.phase }, { on := 10, ground := Ground.phase }, { on := 11, ground := Ground.phase }, { on := 12, ground := Ground.phase }, { on := 13, ground := Ground.phase }, { on := 14, ground := Ground.phase }, { on := 15, ground := Ground.phase }, { on := 16, ground := Ground.phase }, { on := 17, ground := Ground.phase }, { on := 18, ground := Ground.phase }, { on := 19, ground := Ground.phase }, { on := 20, ground := Ground.phase }, { on := 21, ground := Ground.phase }, { on := 22, ground := Ground.phase }, { on := 23, ground := Ground.phase }, { on := 24, ground := Ground.phase }, { on := 25, ground := Ground.phase }, { on := 26, ground := Ground.phase }], guard := none }] true).wp Try.prog Q { tmps := #[.pointer (some ⟨b, 0, none⟩), iv x, x2, x3, .pointer (some ⟨q, 0, none⟩), x5, .pointer (some ⟨g, i * 36, none⟩), x7, x8, x9, x10, x11, x12, x13, x14, x15, x16, x17, x18, x19, x20, x21, x22, x23, x24, x25, x26, x27, x28, x29, x30, x31, x32, x33, x34, x35, x36, x37, x38, x39, x40, x41, x42], defers := ds } A := by
  refine Code.wp_mono (Q := fun x a' w' => match x with | .normal => Q .normal a' w' | _ => False) (by intro x a' w' h; cases x <;> first | exact h | exact h.elim) ?_
  refine wp_region_held (S := fun V => Below w.heap.size w V) (by kernel_rfl) ?_
  have hS0 : Hid (Below w.heap.size w A.drew) := ⟨HWA.out.os, HWA.out.tape, HWA.out.output, HWA.out.size, HWA.out.block⟩
  change wpAnyH Try.prog .any _ _ (fun V => Below w.heap.size w V) 28 (Array.replicate 28 false) _ A.drew
  obtain ⟨V0, hV0⟩ : ∃ V0, A.drew = V0 := ⟨_, rfl⟩
  rw [hV0]
  rw [hV0] at hS0
  have cQ0 : Hid (Blk V0 q 43 Pp.zero.cells) := by rw [← hV0]; exact HQB.out
  clear hV0
  refine wpAnyH_take (i := 0) (oi := { dst := some 17, op := Op.move (Operand.tmp 1), type := 3, pos := "review.go:109", after := #[], guard := none }) (v := iv x) rfl (by kernel_rfl) (by kernel_rfl) (by kernel_rfl) (fun _ _ _ h => h.elim) (Or.inl ⟨by rfl, ?y1⟩) hS0.out ?_
  case y1 =>
    intro V hV
    go_simp
  simp only [Act.put, List.setIfInBounds_toArray, List.set_cons_zero, List.set_cons_succ]
  refine wpAnyH_take (i := 1) (oi := { dst := some 18, op := Op.move (Operand.tmp 6), type := 82, pos := "review.go:109", after := #[], guard := none }) (v := .pointer (some ⟨g, i * 36, none⟩)) rfl (by kernel_rfl) (by kernel_rfl) (by kernel_rfl) (fun _ _ _ h => h.elim) (Or.inl ⟨by rfl, ?y2⟩) hS0.out ?_
  case y2 =>
    intro V hV
    go_simp
  simp only [Act.put, List.setIfInBounds_toArray, List.set_cons_zero, List.set_cons_succ]
  refine wpAnyH_take (i := 2) (oi := { dst := some 19, op := Op.nilCheck (Operand.tmp 18), type := 0, pos := "review.go:109", after := #[{ on := 1, ground := Ground.data }], guard := none }) (v := .pointer (some ⟨g, i * 36, none⟩)) rfl (by kernel_rfl) (by kernel_rfl) (by kernel_rfl) (fun _ _ _ h => h.elim) (Or.inl ⟨by rfl, ?y3⟩) hS0.out ?_
  case y3 =>
    intro V hV
    go_simp
  simp only [Act.put, List.setIfInBounds_toArray, List.set_cons_zero, List.set_cons_succ]
  refine wpAnyH_take (i := 3) (oi := { dst := some 20, op := Op.fieldAddr 87 (Operand.tmp 19) 0, type := 0, pos := "review.go:109", after := #[{ on := 2, ground := Ground.data }], guard := none }) (v := .pointer (some ⟨g, i * 36, none⟩)) rfl (by kernel_rfl) (by kernel_rfl) (by kernel_rfl) (fun _ _ _ h => h.elim) (Or.inl ⟨by rfl, ?y4⟩) hS0.out ?_
  case y4 =>
    intro V hV
    go_simp
  simp only [Act.put, List.setIfInBounds_toArray, List.set_cons_zero, List.set_cons_succ]
  refine wpAnyH_take (i := 4) (oi := { dst := some 21, op := Op.load 9 (Operand.tmp 20), type := 9, pos := "review.go:109", after := #[{ on := 3, ground := Ground.data }], guard := none }) (v := .string p.author) rfl (by kernel_rfl) (by kernel_rfl) (by kernel_rfl) (fun _ _ _ h => h.elim) (Or.inl ⟨by rfl, ?y5⟩) hS0.out ?_
  case y5 =>
    intro V hV
    have hc : V.cell? ⟨g, i * 36, none⟩ = some (.string p.author) := ((show Below w.heap.size w V from hV).cell (p := ⟨g, i * 36, none⟩) HL.out.1).trans g0
    go_simp
  simp only [Act.put, List.setIfInBounds_toArray, List.set_cons_zero, List.set_cons_succ]
  refine wpAnyH_take (i := 5) (oi := { dst := some 22, op := Op.move (Operand.tmp 6), type := 82, pos := "review.go:109", after := #[], guard := none }) (v := .pointer (some ⟨g, i * 36, none⟩)) rfl (by kernel_rfl) (by kernel_rfl) (by kernel_rfl) (fun _ _ _ h => h.elim) (Or.inl ⟨by rfl, ?y6⟩) hS0.out ?_
  case y6 =>
    intro V hV
    go_simp
  simp only [Act.put, List.setIfInBounds_toArray, List.set_cons_zero, List.set_cons_succ]
  refine wpAnyH_take (i := 6) (oi := { dst := some 23, op := Op.nilCheck (Operand.tmp 22), type := 0, pos := "review.go:109", after := #[{ on := 5, ground := Ground.data }], guard := none }) (v := .pointer (some ⟨g, i * 36, none⟩)) rfl (by kernel_rfl) (by kernel_rfl) (by kernel_rfl) (fun _ _ _ h => h.elim) (Or.inl ⟨by rfl, ?y7⟩) hS0.out ?_
  case y7 =>
    intro V hV
    go_simp
  simp only [Act.put, List.setIfInBounds_toArray, List.set_cons_zero, List.set_cons_succ]
  refine wpAnyH_take (i := 7) (oi := { dst := some 24, op := Op.fieldAddr 87 (Operand.tmp 23) 1, type := 0, pos := "review.go:109", after := #[{ on := 6, ground := Ground.data }], guard := none }) (v := .pointer (some ⟨g, i * 36 + 1, none⟩)) rfl (by kernel_rfl) (by kernel_rfl) (by kernel_rfl) (fun _ _ _ h => h.elim) (Or.inl ⟨by rfl, ?y8⟩) hS0.out ?_
  case y8 =>
    intro V hV
    go_simp
  simp only [Act.put, List.setIfInBounds_toArray, List.set_cons_zero, List.set_cons_succ]
  refine wpAnyH_take (i := 8) (oi := { dst := some 25, op := Op.load 9 (Operand.tmp 24), type := 9, pos := "review.go:109", after := #[{ on := 7, ground := Ground.data }], guard := none }) (v := .string p.channel) rfl (by kernel_rfl) (by kernel_rfl) (by kernel_rfl) (fun _ _ _ h => h.elim) (Or.inl ⟨by rfl, ?y9⟩) hS0.out ?_
  case y9 =>
    intro V hV
    have hc : V.cell? ⟨g, i * 36 + 1, none⟩ = some (.string p.channel) := ((show Below w.heap.size w V from hV).cell (p := ⟨g, i * 36 + 1, none⟩) HL.out.1).trans g1
    go_simp
  simp only [Act.put, List.setIfInBounds_toArray, List.set_cons_zero, List.set_cons_succ]
  refine wpAnyH_take (i := 9) (oi := { dst := some 26, op := Op.move (Operand.tmp 6), type := 82, pos := "review.go:109", after := #[], guard := none }) (v := .pointer (some ⟨g, i * 36, none⟩)) rfl (by kernel_rfl) (by kernel_rfl) (by kernel_rfl) (fun _ _ _ h => h.elim) (Or.inl ⟨by rfl, ?y10⟩) hS0.out ?_
  case y10 =>
    intro V hV
    go_simp
  simp only [Act.put, List.setIfInBounds_toArray, List.set_cons_zero, List.set_cons_succ]
  refine wpAnyH_take (i := 10) (oi := { dst := some 27, op := Op.nilCheck (Operand.tmp 26), type := 0, pos := "review.go:109", after := #[{ on := 9, ground := Ground.data }], guard := none }) (v := .pointer (some ⟨g, i * 36, none⟩)) rfl (by kernel_rfl) (by kernel_rfl) (by kernel_rfl) (fun _ _ _ h => h.elim) (Or.inl ⟨by rfl, ?y11⟩) hS0.out ?_
  case y11 =>
    intro V hV
    go_simp
  simp only [Act.put, List.setIfInBounds_toArray, List.set_cons_zero, List.set_cons_succ]
  refine wpAnyH_take (i := 11) (oi := { dst := some 28, op := Op.fieldAddr 87 (Operand.tmp 27) 2, type := 0, pos := "review.go:109", after := #[{ on := 10, ground := Ground.data }], guard := none }) (v := .pointer (some ⟨g, i * 36 + 2, none⟩)) rfl (by kernel_rfl) (by kernel_rfl) (by kernel_rfl) (fun _ _ _ h => h.elim) (Or.inl ⟨by rfl, ?y12⟩) hS0.out ?_
  case y12 =>
    intro V hV
    go_simp
  simp only [Act.put, List.setIfInBounds_toArray, List.set_cons_zero, List.set_cons_succ]
  refine wpAnyH_take (i := 12) (oi := { dst := some 29, op := Op.load 32 (Operand.tmp 28), type := 32, pos := "review.go:109", after := #[{ on := 11, ground := Ground.data }], guard := none }) (v := .agg (U p.patch).toArray) rfl (by kernel_rfl) (by kernel_rfl) (by kernel_rfl) (fun _ _ _ h => h.elim) (yieldsIf_load_mid (by rfl) _ _ rfl _ _ rfl (U p.patch) _ (fun V hV => rangeAt_same (HL.out.2.1) ((show Below w.heap.size w V from hV).block _ (HL.out.1))) Try.underlying32 rfl (info32 _ HL.out.2.2)) hS0.out ?_
  simp only [Act.put, List.setIfInBounds_toArray, List.set_cons_zero, List.set_cons_succ]
  refine wpAnyH_take (i := 13) (oi := { dst := some 30, op := Op.move (Operand.tmp 0), type := 25, pos := "review.go:109", after := #[], guard := none }) (v := .pointer (some ⟨b, 0, none⟩)) rfl (by kernel_rfl) (by kernel_rfl) (by kernel_rfl) (fun _ _ _ h => h.elim) (Or.inl ⟨by rfl, ?y13⟩) hS0.out ?_
  case y13 =>
    intro V hV
    go_simp
  simp only [Act.put, List.setIfInBounds_toArray, List.set_cons_zero, List.set_cons_succ]
  refine wpAnyH_take (i := 14) (oi := { dst := some 31, op := Op.move (Operand.tmp 1), type := 3, pos := "review.go:109", after := #[], guard := none }) (v := iv x) rfl (by kernel_rfl) (by kernel_rfl) (by kernel_rfl) (fun _ _ _ h => h.elim) (Or.inl ⟨by rfl, ?y14⟩) hS0.out ?_
  case y14 =>
    intro V hV
    go_simp
  simp only [Act.put, List.setIfInBounds_toArray, List.set_cons_zero, List.set_cons_succ]
  refine wpAnyH_take (i := 16) (oi := { dst := some 33, op := Op.move (Operand.tmp 6), type := 82, pos := "review.go:109", after := #[], guard := none }) (v := .pointer (some ⟨g, i * 36, none⟩)) rfl (by kernel_rfl) (by kernel_rfl) (by kernel_rfl) (fun _ _ _ h => h.elim) (Or.inl ⟨by rfl, ?y15⟩) hS0.out ?_
  case y15 =>
    intro V hV
    go_simp
  simp only [Act.put, List.setIfInBounds_toArray, List.set_cons_zero, List.set_cons_succ]
  refine wpAnyH_take (i := 18) (oi := { dst := some 35, op := Op.move (Operand.tmp 6), type := 82, pos := "review.go:109", after := #[], guard := none }) (v := .pointer (some ⟨g, i * 36, none⟩)) rfl (by kernel_rfl) (by kernel_rfl) (by kernel_rfl) (fun _ _ _ h => h.elim) (Or.inl ⟨by rfl, ?y16⟩) hS0.out ?_
  case y16 =>
    intro V hV
    go_simp
  simp only [Act.put, List.setIfInBounds_toArray, List.set_cons_zero, List.set_cons_succ]
  refine wpAnyH_take (i := 20) (oi := { dst := some 37, op := Op.move (Operand.tmp 6), type := 82, pos := "review.go:109", after := #[], guard := none }) (v := .pointer (some ⟨g, i * 36, none⟩)) rfl (by kernel_rfl) (by kernel_rfl) (by kernel_rfl) (fun _ _ _ h => h.elim) (Or.inl ⟨by rfl, ?y17⟩) hS0.out ?_
  case y17 =>
    intro V hV
    go_simp
  simp only [Act.put, List.setIfInBounds_toArray, List.set_cons_zero, List.set_cons_succ]
  refine wpAnyH_take (i := 21) (oi := { dst := some 38, op := Op.nilCheck (Operand.tmp 37), type := 0, pos := "review.go:109", after := #[{ on := 20, ground := Ground.data }], guard := none }) (v := .pointer (some ⟨g, i * 36, none⟩)) rfl (by kernel_rfl) (by kernel_rfl) (by kernel_rfl) (fun _ _ _ h => h.elim) (Or.inl ⟨by rfl, ?y18⟩) hS0.out ?_
  case y18 =>
    intro V hV
    go_simp
  simp only [Act.put, List.setIfInBounds_toArray, List.set_cons_zero, List.set_cons_succ]
  refine wpAnyH_take (i := 22) (oi := { dst := some 39, op := Op.fieldAddr 87 (Operand.tmp 38) 4, type := 0, pos := "review.go:109", after := #[{ on := 21, ground := Ground.data }], guard := none }) (v := .pointer (some ⟨g, i * 36 + 35, none⟩)) rfl (by kernel_rfl) (by kernel_rfl) (by kernel_rfl) (fun _ _ _ h => h.elim) (Or.inl ⟨by rfl, ?y19⟩) hS0.out ?_
  case y19 =>
    intro V hV
    go_simp
  simp only [Act.put, List.setIfInBounds_toArray, List.set_cons_zero, List.set_cons_succ]
  refine wpAnyH_take (i := 23) (oi := { dst := some 40, op := Op.load 41 (Operand.tmp 39), type := 41, pos := "review.go:109", after := #[{ on := 22, ground := Ground.data }], guard := none }) (v := .slice ta.a ta.n ta.c) rfl (by kernel_rfl) (by kernel_rfl) (by kernel_rfl) (fun _ _ _ h => h.elim) (Or.inl ⟨by rfl, ?y20⟩) hS0.out ?_
  case y20 =>
    intro V hV
    have hc : V.cell? ⟨g, i * 36 + 35, none⟩ = some (.slice ta.a ta.n ta.c) := ((show Below w.heap.size w V from hV).cell (p := ⟨g, i * 36 + 35, none⟩) HL.out.1).trans g35
    go_simp
  simp only [Act.put, List.setIfInBounds_toArray, List.set_cons_zero, List.set_cons_succ]
  refine wpAnyH_ready (rs := [15]) (by kernel_rfl) (by simp) (AllReadyH.cons (i := 15) (o := { dst := some 32, op := Op.call { callee := Callee.value (Operand.func 40), args := #[Operand.tmp 30, Operand.tmp 31], argTypes := #[25, 3] }, type := 4, pos := "review.go:114", after := #[{ on := 13, ground := Ground.data }, { on := 14, ground := Ground.data }], guard := none }) rfl ?_ AllReadyH.nil)
  · intro K1 hK1
    rw [if_pos (by rfl)]
    have HC1 := isOpen_b (HA.out.below hS0.out) x hr.out
    go_wp2_with fail
    refine HC1.mono ?_
    rintro e V1 ⟨rfl, hb1⟩
    dsimp only
    clear HC1
    have hS1 : Hid (Below w.heap.size w V1) := hS0.out.trans (hb1.mono hS0.out.size)
    have cQ1 : Hid (Blk V1 q 43 Pp.zero.cells) := cQ0.out.below hb1 cQ0.out.lt
    clear hb1
    refine hK1.out _ _ hS1.out ?_
    clear hK1
    intro _
    try simp only [Act.put, List.setIfInBounds_toArray, List.set_cons_zero, List.set_cons_succ]
    refine wpAnyH_ready (rs := [17]) (by kernel_rfl) (by simp) (AllReadyH.cons (i := 17) (o := { dst := some 34, op := Op.call { callee := Callee.value (Operand.func 41), args := #[Operand.tmp 33, Operand.const (Value.int IntKind.i64 1)], argTypes := #[82, 89] }, type := 40, pos := "review.go:115", after := #[{ on := 16, ground := Ground.data }, { on := 15, ground := Ground.chain }], guard := none }) rfl ?_ AllReadyH.nil)
    · intro K1 hK1
      rw [if_pos (by rfl)]
      have HC2 := voters_s (HA.out.below hS1.out) HI.out.1 HI.out.2 1 hS1.out.size
      go_wp2_with fail
      refine HC2.mono ?_
      rintro e V2 ⟨y, rfl, HY2, hb2⟩
      dsimp only
      clear HC2
      have hS2 : Hid (Below w.heap.size w V2) := hS1.out.trans (hb2.mono hS1.out.size)
      have cQ2 : Hid (Blk V2 q 43 Pp.zero.cells) := cQ1.out.below hb2 cQ1.out.lt
      clear hb2
      refine hK1.out _ _ hS2.out ?_
      clear hK1
      intro _
      try simp only [Act.put, List.setIfInBounds_toArray, List.set_cons_zero, List.set_cons_succ]
      refine wpAnyH_ready (rs := [19]) (by kernel_rfl) (by simp) (AllReadyH.cons (i := 19) (o := { dst := some 36, op := Op.call { callee := Callee.value (Operand.func 41), args := #[Operand.tmp 35, Operand.const (Value.int IntKind.i64 2)], argTypes := #[82, 89] }, type := 40, pos := "review.go:116", after := #[{ on := 18, ground := Ground.data }, { on := 17, ground := Ground.chain }], guard := none }) rfl ?_ AllReadyH.nil)
      · intro K1 hK1
        rw [if_pos (by rfl)]
        have HC3 := voters_s (HA.out.below hS2.out) HI.out.1 HI.out.2 2 hS2.out.size
        go_wp2_with fail
        refine HC3.mono ?_
        rintro e V3 ⟨n, rfl, HN3, hb3⟩
        dsimp only
        clear HC3
        have hS3 : Hid (Below w.heap.size w V3) := hS2.out.trans (hb3.mono hS2.out.size)
        have cQ3 : Hid (Blk V3 q 43 Pp.zero.cells) := cQ2.out.below hb3 cQ2.out.lt
        have cY3 : Hid (Names w.heap.size V3 y (sortK (whoV p.votes 1))) := HY2.out.below hb3
        clear hb3
        refine hK1.out _ _ hS3.out ?_
        clear hK1
        intro _
        try simp only [Act.put, List.setIfInBounds_toArray, List.set_cons_zero, List.set_cons_succ]
        refine wpAnyH_ready (rs := [24]) (by kernel_rfl) (by simp) (AllReadyH.cons (i := 24) (o := { dst := some 41, op := Op.call { callee := Callee.value (Operand.func 42), args := #[Operand.tmp 40], argTypes := #[41] }, type := 41, pos := "review.go:117", after := #[{ on := 23, ground := Ground.data }, { on := 19, ground := Ground.chain }], guard := none }) rfl ?_ AllReadyH.nil)
        · intro K1 hK1
          rw [if_pos (by rfl)]
          have HC4 := clone_s (HA.out.below hS3.out) HI.out.1 hS3.out.size ht.out
          go_wp2_with fail
          refine HC4.mono ?_
          rintro e V4 ⟨t, rfl, HT4, hb4⟩
          dsimp only
          clear HC4
          have hS4 : Hid (Below w.heap.size w V4) := hS3.out.trans (hb4.mono hS3.out.size)
          have cQ4 : Hid (Blk V4 q 43 Pp.zero.cells) := cQ3.out.below hb4 cQ3.out.lt
          have cY4 : Hid (Names w.heap.size V4 y (sortK (whoV p.votes 1))) := cY3.out.below hb4
          have cN4 : Hid (Names w.heap.size V4 n (sortK (whoV p.votes 2))) := HN3.out.below hb4
          clear hb4
          refine hK1.out _ _ hS4.out ?_
          clear hK1
          intro _
          try simp only [Act.put, List.setIfInBounds_toArray, List.set_cons_zero, List.set_cons_succ]
          refine wpAnyH_take (i := 25) (oi := { dst := some 42, op := Op.build 43 #[(0, Operand.tmp 17), (1, Operand.tmp 21), (2, Operand.tmp 25), (3, Operand.tmp 29), (4, Operand.tmp 32), (5, Operand.tmp 34), (6, Operand.tmp 36), (7, Operand.tmp 41)], type := 43, pos := "review.go:109", after := #[{ on := 0, ground := Ground.data }, { on := 4, ground := Ground.data }, { on := 8, ground := Ground.data }, { on := 12, ground := Ground.data }, { on := 15, ground := Ground.data }, { on := 17, ground := Ground.data }, { on := 19, ground := Ground.data }, { on := 24, ground := Ground.data }], guard := none }) (v := .agg (Pp.cells ⟨x, p.author, p.channel, p.patch, r, y, n, t⟩).toArray) rfl (by kernel_rfl) (by kernel_rfl) (by kernel_rfl) (fun _ _ _ h => h.elim) (Or.inl ⟨by rfl, ?y21⟩) hS4.out ?_
          case y21 =>
            intro V hV
            exact yl_build8 V 43 _ _ _ _ _ _ _ _ _ _ _ _ _ _ _ _ _ rfl rfl rfl rfl rfl rfl rfl rfl rfl (run_build43 x p.author p.channel p.patch HL.out.2.2 r y n t)
          simp only [Act.put, List.setIfInBounds_toArray, List.set_cons_zero, List.set_cons_succ]
          refine wpAnyH_ready (rs := [26]) (by kernel_rfl) (by simp) (AllReadyH.cons (i := 26) (o := { dst := none, op := Op.store 43 (Operand.tmp 4) (Operand.tmp 42), type := 0, pos := "review.go:109", after := #[{ on := 25, ground := Ground.data }, { on := 24, ground := Ground.chain }, { on := 0, ground := Ground.phase }, { on := 1, ground := Ground.phase }, { on := 2, ground := Ground.phase }, { on := 3, ground := Ground.phase }, { on := 4, ground := Ground.phase }, { on := 5, ground := Ground.phase }, { on := 6, ground := Ground.phase }, { on := 7, ground := Ground.phase }, { on := 8, ground := Ground.phase }, { on := 9, ground := Ground.phase }, { on := 10, ground := Ground.phase }, { on := 11, ground := Ground.phase }, { on := 12, ground := Ground.phase }, { on := 13, ground := Ground.phase }, { on := 14, ground := Ground.phase }, { on := 15, ground := Ground.phase }, { on := 16, ground := Ground.phase }, { on := 17, ground := Ground.phase }, { on := 18, ground := Ground.phase }, { on := 19, ground := Ground.phase }, { on := 20, ground := Ground.phase }, { on := 21, ground := Ground.phase }, { on := 22, ground := Ground.phase }, { on := 23, ground := Ground.phase }, { on := 24, ground := Ground.phase }, { on := 25, ground := Ground.phase }], guard := none }) rfl ?_ AllReadyH.nil)
          · intro K1 hK1
            refine step_stN (by rfl) 43 (.tmp 4) (.tmp 42) rfl q (Pp.cells ⟨x, p.author, p.channel, p.patch, r, y, n, t⟩) 43 _ rfl rfl cQ4.out (by rw [Pp.length (p := ⟨x, p.author, p.channel, p.patch, r, y, n, t⟩) HL.out.2.2, zero_len]) (by rw [Pp.length (p := ⟨x, p.author, p.channel, p.patch, r, y, n, t⟩) HL.out.2.2]; exact size43) (Pp.one _) ?_
            intro V5 hr5 hg5
            have hS5 : Hid (Below w.heap.size w V5) := hS4.out.grown hg5.out hS4.out.size (fun j hj => by cases hj; exact HQ.out)
            have cY5 : Hid (Names w.heap.size V5 y (sortK (whoV p.votes 1))) := own_kept cY4.out hg5.out (by decide) cQ4.out
            have cN5 : Hid (Names w.heap.size V5 n (sortK (whoV p.votes 2))) := own_kept cN4.out hg5.out (by decide) cQ4.out
            have cT5 : Hid (V5.ownsRow w.heap.size 50 2 (.slice t.a t.n t.c) p.talk.length (talkC p.talk)) := own_kept HT4.out hg5.out (by decide) cQ4.out
            clear hg5
            refine hK1.out _ _ hS5.out ?_
            clear hK1
            intro _
            try simp only [Act.put, List.setIfInBounds_toArray, List.set_cons_zero, List.set_cons_succ]
            refine wpAnyH_take (i := 27) (oi := { dst := some 5, op := Op.assign (Operand.const (Value.bool true)), type := 4, pos := "review.go:109", after := #[{ on := 26, ground := Ground.chain }, { on := 0, ground := Ground.phase }, { on := 1, ground := Ground.phase }, { on := 2, ground := Ground.phase }, { on := 3, ground := Ground.phase }, { on := 4, ground := Ground.phase }, { on := 5, ground := Ground.phase }, { on := 6, ground := Ground.phase }, { on := 7, ground := Ground.phase }, { on := 8, ground := Ground.phase }, { on := 9, ground := Ground.phase }, { on := 10, ground := Ground.phase }, { on := 11, ground := Ground.phase }, { on := 12, ground := Ground.phase }, { on := 13, ground := Ground.phase }, { on := 14, ground := Ground.phase }, { on := 15, ground := Ground.phase }, { on := 16, ground := Ground.phase }, { on := 17, ground := Ground.phase }, { on := 18, ground := Ground.phase }, { on := 19, ground := Ground.phase }, { on := 20, ground := Ground.phase }, { on := 21, ground := Ground.phase }, { on := 22, ground := Ground.phase }, { on := 23, ground := Ground.phase }, { on := 24, ground := Ground.phase }, { on := 25, ground := Ground.phase }, { on := 26, ground := Ground.phase }], guard := none }) (v := .bool true) rfl (by kernel_rfl) (by kernel_rfl) (by kernel_rfl) (fun _ _ _ h => h.elim) (Or.inl ⟨by rfl, ?y22⟩) hS5.out ?_
            case y22 =>
              intro V hV
              go_simp
            simp only [Act.put, List.setIfInBounds_toArray, List.set_cons_zero, List.set_cons_succ]
            refine wpAnyH_done (by kernel_rfl) ?_ _
            exact hQ V5 _ _ _ ⟨hr5.out, cY5.out, cN5.out, cT5.out, hS5.out⟩
#print axioms told4
end Go.Proofs.Ytaecigpjcbjcbaa.Oct
