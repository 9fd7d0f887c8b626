/-
  Layer 20 (review): ReviewVotes: the steps of its drawn regions.
-/
import Derived.Test.YtaecigpjcbjcbaaVrw
import Derived.Test.YtaecigpjcbjcbaaPp9
namespace Go.Proofs.Ytaecigpjcbjcbaa.Oct
open Go.RowKit
set_option linter.unusedSimpArgs false
set_option linter.unusedVariables false

theorem run_bs59 (y : Bool) (W : World) : (Instr.buildSlice 59 1 #[(0, .bool y)]).run Try.prog W = .ok (.slice (some ⟨W.heap.size, 0, none⟩) 1 1) (W.alloc (.cells #[.bool y] 4)) := by kernel_rfl
theorem step_ap {ops : Array Oper} {o : Oper} {a : Act} {w : World} {K : Act → World → Prop} {Q : Exit → Act → World → Prop} {E : Prop} (hw : Region.wanted o (yielded ops a.tmps) = true) (t : TypeId) (s x : Operand) (hop : o.op = .call { callee := .builtin .append, args := #[s, x], argTypes := #[t, t] }) (v u : Value) (hs : a.eval s = v) (hx : a.eval x = u) {v' : Value} {w' : World} (hrun : (Builtin.append_ #[t, t] o.type #[v, u]).run Try.prog w = .ok v' w')
    (hk : K (a.put o.dst v') w') : if Region.wanted o (yielded ops a.tmps) = true then Oper.wp Try.prog o a w K Q else E := by
  rw [if_pos hw]
  unfold Oper.wp execOp
  simp only [hop, resolve, invoke, builtin, Sem.run_bind, Sem.run_pure, Result.andThen_ok, List.map_toArray, List.map_cons, List.map_nil, hs, hx, hrun]
  exact hk
theorem yl_ahead {o : Oper} {a : Act} (V : World) (t : TypeId) (x y z : Operand) (g n c i : Nat) (hop : o.op = .slice t x none (some y) (some z)) (hx : a.eval x = .slice (some ⟨g, 0, none⟩) n c) (hy : a.eval y = iv (i : Int)) (hz : a.eval z = iv (i : Int)) (ht : Try.prog.underlying t = some (.slice (Try.prog.elem t))) {inf : TypeInfo} (hi : Try.prog.info? (Try.prog.elem t) = some inf) (h : i ≤ c) :
    (execOp a.eval o).run Try.prog V = .ok (.value (.slice (some ⟨g, 0, none⟩) i i)) V := by
  unfold execOp
  have hr := run_slice_hm (P := Try.prog) V t (some ⟨g, 0, none⟩) n c ht .i64 .i64 (i : Int) (i : Int) (by omega) (by omega) (by omega)
  simp [hop, hx, hy, hz, run_sliceAt_slice V t _ _ _ _ ht, hr, sizeOf, typeInfo, hi, Result.andThen, sliced, Addr.add_lit]
theorem yl_from {o : Oper} {a : Act} (V : World) (t : TypeId) (x y : Operand) (g n c i off : Nat) (hop : o.op = .slice t x (some y) none none) (hx : a.eval x = .slice (some ⟨g, 0, none⟩) n c) (hy : a.eval y = iv ((i : Int) + 1)) (ht : Try.prog.underlying t = some (.slice (Try.prog.elem t))) {inf : TypeInfo} (hi : Try.prog.info? (Try.prog.elem t) = some inf) (hs : inf.size = 1) (h : i + 1 ≤ n) (ho : off = if c = i + 1 then 0 else i + 1) :
    (execOp a.eval o).run Try.prog V = .ok (.value (.slice (some ⟨g, off, none⟩) (n - (i + 1)) (c - (i + 1)))) V := by
  unfold execOp
  have hr := run_slice_l (P := Try.prog) V t (some ⟨g, 0, none⟩) n c ht .i64 ((i : Int) + 1) (by omega) (by omega)
  have e : ((i : Int) + 1).toNat = i + 1 := by omega
  rw [e] at hr
  subst ho
  by_cases hc : c = i + 1
  · subst hc
    simp [hop, hx, hy, run_sliceAt_slice V t _ _ _ _ ht, hr, sizeOf, typeInfo, hi, hs, Result.andThen, sliced, Addr.add_lit]
  · simp [hop, hx, hy, run_sliceAt_slice V t _ _ _ _ ht, hr, sizeOf, typeInfo, hi, hs, Result.andThen, sliced, Addr.add_lit, hc]
theorem wrap_small {z : Int} (h0 : 0 ≤ z) (h1 : z ≤ 1000001) : IntKind.i64.wrap z = z := by
  rw [IntKind.wrap_i64]
  omega
theorem yl_add1 {o : Oper} {a : Act} (V : World) (x : Operand) (i n : Nat) (hop : o.op = .binOp .add 3 x (.const (.int .i64 1)) 3) (hx : a.eval x = iv (i : Int)) (h : i < n) (hn : n ≤ 1000000) : (execOp a.eval o).run Try.prog V = .ok (.value (iv ((i : Int) + 1))) V := by
  have q1 : (i : Int) < (n : Int) := by omega
  have q2 : (n : Int) ≤ 1000000 := by omega
  unfold execOp
  simp only [hop, hx]
  go_simp
  exact wrap_small (by omega) (by omega)
/-- two rows, and what lies ready to be put behind them -/
def SV (v8 v9 : Value) (k : Nat) : Prop := v8.ownBlock = some k ∨ v9.ownBlock = some k
structure R24 (B : Nat) (A W : World) (v8 v9 a8 a9 : Value) (c8 c9 : List Value) (ps : List (Nat × Value)) : Prop where
  r8 : OT B W 9 a8 c8
  r9 : OT B W 4 a9 c9
  apart : ∀ k, a8.ownBlock = some k → a9.ownBlock = some k → False
  p8 : ∀ k, a8.ownBlock = some k → v8.ownBlock = some k ∨ A.heap.size ≤ k
  p9 : ∀ k, a9.ownBlock = some k → v9.ownBlock = some k ∨ A.heap.size ≤ k
  keep : Keep (SV v8 v9) A W
  base : B ≤ A.heap.size
  ready : ∀ p ∈ ps, W.cell? ⟨p.1, 0, none⟩ = some p.2 ∧ p.1 < W.heap.size ∧ a8.ownBlock ≠ some p.1 ∧ a9.ownBlock ≠ some p.1
theorem R24.bs {B : Nat} {A W : World} {v8 v9 a8 a9 : Value} {c8 c9 : List Value} {ps : List (Nat × Value)} (h : R24 B A W v8 v9 a8 a9 c8 c9 ps) (x : Value) (e : TypeId) : R24 B A (W.alloc (.cells #[x] e)) v8 v9 a8 a9 c8 c9 ((W.heap.size, x) :: ps) := by
  have hb := below_al W (.cells #[x] e)
  refine ⟨h.r8.below hb, h.r9.below hb, h.apart, h.p8, h.p9, keep_al h.keep _, h.base, ?_⟩
  intro p hp
  rcases List.mem_cons.1 hp with rfl | hp
  · refine ⟨(Blk.new W #[x] e).cell rfl, by simp, fun e => ?_, fun e => ?_⟩
    · have := (h.r8.lt e).2; simp at this
    · have := (h.r9.lt e).2; simp at this
  · obtain ⟨h1, h2, h3⟩ := h.ready p hp
    exact ⟨(hb.cell (p := ⟨p.1, 0, none⟩) h2).trans h1, by simp; omega, h3⟩
theorem R24.drop {B : Nat} {A W : World} {v8 v9 a8 a9 : Value} {c8 c9 : List Value} {ps : List (Nat × Value)} (h : R24 B A W v8 v9 a8 a9 c8 c9 ps) : R24 B A W v8 v9 a8 a9 c8 c9 [] := ⟨h.r8, h.r9, h.apart, h.p8, h.p9, h.keep, h.base, fun p hp => by cases hp⟩
theorem R24.app8 {B : Nat} {A W : World} {v8 v9 a8 a9 : Value} {c8 c9 : List Value} {ps : List (Nat × Value)} (h : R24 B A W v8 v9 a8 a9 c8 c9 ps) {q : Nat} {x : Value} (hp : (q, x) ∈ ps) (hx : x.oneCell' = true) (hn : c8.length + 1 ≤ 1000000) (c ty : Nat) :
    ∃ v' W', (Builtin.append_ #[40, 40] ty #[a8, .slice (some ⟨q, 0, none⟩) 1 c]).run Try.prog W = .ok v' W' ∧ R24 B A W' v8 v9 v' a9 (c8 ++ [x]) c9 ps := by
  obtain ⟨v', W', hr, h2, h3, h4⟩ := OT.app (ty := ty) Try.underlying40 sized9 (by omega) h.r8 (Nat.le_trans h.base h.keep.size) q c x hx (h.ready _ hp).1 hn
  refine ⟨v', W', hr, h2, h.r9.same (fun g hg => h3.block g (h.r9.lt hg).2 (fun e => h.apart g e.symm hg)), ?_, ?_, h.p9, h.keep.trans (Keep.grownO (S := fun k => a8.ownBlock = some k) h3 (fun k hk => hk)) (fun j hj hlt => (h.p8 j hj).elim Or.inl (fun h5 => absurd h5 (by omega))), h.base, ?_⟩
  · intro k hk h9
    rcases h4 with h4 | h4
    · exact h.apart k (h4 ▸ hk) h9
    · rw [h4] at hk; cases hk; have := (h.r9.lt h9).2; omega
  · intro k hk
    rcases h4 with h4 | h4
    · exact h.p8 k (h4 ▸ hk)
    · rw [h4] at hk; cases hk; exact .inr h.keep.size
  · intro p hp
    obtain ⟨h5, h6, h7, h8⟩ := h.ready p hp
    refine ⟨(World.cell?_of_block (a := ⟨p.1, 0, none⟩) (h3.block p.1 h6 (fun e => h7 e.symm))).trans h5, Nat.lt_of_lt_of_le h6 h3.size, fun e => ?_, h8⟩
    rcases h4 with h4 | h4
    · exact h7 (h4 ▸ e)
    · rw [h4] at e; have := Option.some.inj e; omega
theorem R24.app9 {B : Nat} {A W : World} {v8 v9 a8 a9 : Value} {c8 c9 : List Value} {ps : List (Nat × Value)} (h : R24 B A W v8 v9 a8 a9 c8 c9 ps) {q : Nat} {x : Value} (hp : (q, x) ∈ ps) (hx : x.oneCell' = true) (hn : c9.length + 1 ≤ 1000000) (c ty : Nat) :
    ∃ v' W', (Builtin.append_ #[59, 59] ty #[a9, .slice (some ⟨q, 0, none⟩) 1 c]).run Try.prog W = .ok v' W' ∧ R24 B A W' v8 v9 a8 v' c8 (c9 ++ [x]) ps := by
  obtain ⟨v', W', hr, h2, h3, h4⟩ := OT.app (ty := ty) Try.underlying59 sized4 (by omega) h.r9 (Nat.le_trans h.base h.keep.size) q c x hx (h.ready _ hp).1 hn
  refine ⟨v', W', hr, h.r8.same (fun g hg => h3.block g (h.r8.lt hg).2 (fun e => h.apart g hg e.symm)), h2, ?_, h.p8, ?_, h.keep.trans (Keep.grownO (S := fun k => a9.ownBlock = some k) h3 (fun k hk => hk)) (fun j hj hlt => (h.p9 j hj).elim Or.inr (fun h5 => absurd h5 (by omega))), h.base, ?_⟩
  · intro k h8 hk
    rcases h4 with h4 | h4
    · exact h.apart k h8 (h4 ▸ hk)
    · rw [h4] at hk; cases hk; have := (h.r8.lt h8).2; omega
  · intro k hk
    rcases h4 with h4 | h4
    · exact h.p9 k (h4 ▸ hk)
    · rw [h4] at hk; cases hk; exact .inr h.keep.size
  · intro p hp
    obtain ⟨h5, h6, h7, h8⟩ := h.ready p hp
    refine ⟨(World.cell?_of_block (a := ⟨p.1, 0, none⟩) (h3.block p.1 h6 (fun e => h8 e.symm))).trans h5, Nat.lt_of_lt_of_le h6 h3.size, h7, fun e => ?_⟩
    rcases h4 with h4 | h4
    · exact h8 (h4 ▸ e)
    · rw [h4] at e; have := Option.some.inj e; omega
#print axioms yl_from
#print axioms yl_add1
#print axioms R24.bs
end Go.Proofs.Ytaecigpjcbjcbaa.Oct
