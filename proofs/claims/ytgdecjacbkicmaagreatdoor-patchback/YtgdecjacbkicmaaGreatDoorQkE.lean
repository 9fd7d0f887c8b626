/-
  Layer 10 (patch): the program's reading: steps of drawn regions; a line more.
  Layer 10 (patch): the program's reading: an operation.
  Layer 10 (patch): the program's reading: a hash more, an operation more.
  Layer 10 (patch): the program's reading: a patch.
  Layer 10 (patch): Decode of the program.
  Layer 10 (patch): Decode of the program: the deferred closure, and whole.
-/
import Derived.Test.YtgdecjacbkicmaaGreatDoorQkD
import Derived.Deep.MidRow
import Derived.Deep.RegionHeld
import Derived.Maps.AppendAt
import Derived.Defers
import Derived.Recover
import Derived.Laws.ResultCell
import Derived.Tactics
import Derived.Tactics2
import Derived.Laws.Pointers
/- Layer 10 (patch): the program's reading: steps of drawn regions; a line more. -/
namespace Go.Proofs.YtgdecjacbkicmaaGreatDoor.Oct
open Go.RowKit
set_option maxRecDepth 100000
set_option linter.unusedSimpArgs false
set_option linter.unusedVariables false

theorem step_bs {ops : Array Oper} {op : Oper} {a : Act} {w : World} {K : Act → World → Prop} {Q : Exit → Act → World → Prop} {E : Prop} (hw : Region.wanted op (yielded ops a.tmps) = true) (t n : Nat) (parts : Array (Nat × Operand)) (hop : op.op = .buildSlice t n parts) (r : Value) (W' : World)
    (hr : (Instr.buildSlice t n (parts.map fun (i, x) => (i, a.eval x))).run Tryz.prog w = .ok r W') (hk : K (a.put op.dst r) W') : if Region.wanted op (yielded ops a.tmps) = true then Oper.wp Tryz.prog op a w K Q else E := by
  rw [if_pos hw]
  unfold Oper.wp execOp
  simp only [hop, Sem.run_bind, Sem.run_pure, Result.andThen_ok, hr]
  exact hk
theorem step_apd {t : TypeId} {ops : Array Oper} {op : Oper} {a : Act} {K : Act → World → Prop} {Q : Exit → Act → World → Prop} {E : Prop} (hw : Region.wanted op (yielded ops a.tmps) = true) (s x : Operand) (hop : op.op = .call { callee := .builtin .append, args := #[s, x], argTypes := #[t, t] })
    {W W' : World} {v u v' : Value} (hr : (Builtin.append_ #[t, t] op.type #[v, u]).run Tryz.prog W = .ok v' W') (hs : a.eval s = v) (hx : a.eval x = u) (hk : K (a.put op.dst v') W') : if Region.wanted op (yielded ops a.tmps) = true then Oper.wp Tryz.prog op a W K Q else E := by
  rw [if_pos hw]
  unfold Oper.wp execOp
  simp only [hop, resolve, invoke, builtin, Sem.run_bind, Sem.run_pure, Result.andThen_ok, List.map_toArray, List.map_cons, List.map_nil, hs, hx, hr]
  exact hk
theorem step_stc {ops : Array Oper} {op : Oper} {a : Act} {w : World} {K : Act → World → Prop} {Q : Exit → Act → World → Prop} {E : Prop} (hw : Region.wanted op (yielded ops a.tmps) = true) (ty : TypeId) (x y : Operand) (ho : op.op = .store ty x y) (hi : (Tryz.prog.info? ty).map (·.size) = some 1)
    {b i : Nat} {v u : Value} (h1 : v.oneCell' = true) (hvc : v.cells = #[v]) (hx : a.eval x = .pointer (some ⟨b, i, none⟩)) (hy : a.eval y = v) (hc : w.cell? ⟨b, i, none⟩ = some u) (hf : w.frozen? ⟨b, i, none⟩ = false)
    (h : K (a.put op.dst undef) (w.setCell ⟨b, i, none⟩ v)) : if Region.wanted op (yielded ops a.tmps) = true then Oper.wp Tryz.prog op a w K Q else E := by
  rw [if_pos hw]
  obtain ⟨t, hi, hs⟩ := Option.map_eq_some_iff.1 hi
  have h2 : (store ((⟨b, i, none⟩ : Addr).add 0) v).run Tryz.prog w = .ok () (w.setCell ⟨b, i, none⟩ v) := store_fn h1 hc hf
  have h3 : (storeVar ty ⟨b, i, none⟩ v).run Tryz.prog w = .ok () (w.setCell ⟨b, i, none⟩ v) := by simp [storeVar, sizeOf, typeInfo, hi, hs, hvc, storeCells, h2]
  unfold Oper.wp execOp
  simp only [ho, hx, hy, Instr.storeAt, Instr.sureAddr, Sem.run_bind, Sem.run_pure, Result.andThen_ok, h3]
  exact h
theorem own_ne {w : World} {B e sz n b : Nat} {v : Value} {cs L : List Value} {t : TypeId} (h : w.ownsRow B e sz v n cs) (hb : Blk w b t L) (hne : t ≠ e) : some b ≠ v.ownBlock := by
  intro hq
  rcases h.2 with ⟨rfl, _⟩ | ⟨g, cap, cur, rfl, _, hg, _⟩
  · cases hq
  · cases hq
    unfold Blk at hb
    rw [hb] at hg
    cases hg
    exact hne rfl
theorem fk_own {S : List TypeId} {w w2 : World} {B lo e sz n : Nat} {v : Value} {cs : List Value} (h : w.ownsRow lo e sz v n cs) (hg : w.grownBy w2 v.ownBlock) (hl : B ≤ lo) (hB : B ≤ w.heap.size) (hs : e ∈ S) : Fk S B w w2 := by
  refine Fk.of_grown hg hB fun k hk => ?_
  rcases h.2 with ⟨rfl, _⟩ | ⟨g, cap, cur, rfl, hlo, hb, _⟩
  · cases hk
  · cases hk
    refine ⟨by show B ≤ g; omega, fun C t f hC => ?_⟩
    rw [hb] at hC
    cases hC
    exact hs
theorem infoS31 : (Tryz.prog.info? 44).map (·.size) = some 1 := by kernel_rfl
theorem infoS22 : (Tryz.prog.info? 22).map (·.size) = some 1 := by kernel_rfl
theorem infoS23 : (Tryz.prog.info? 23).map (·.size) = some 1 := by kernel_rfl
theorem app_one9 (W : World) (lo : Nat) (v : Value) (n : Nat) (C : List Value) (h : W.ownsRow lo 9 1 v n C) (z : Nat) (cs : List Value) (hl : cs.length = 1 ∧ ∀ u ∈ cs, u.oneCell' = true) (hb : Blk W z 9 cs) (hn : n ≤ 1000000) (hlo : lo ≤ W.heap.size) :
    ∃ ra rc W', (Builtin.append_ #[44, 44] 44 #[v, .slice (some ⟨z, 0, none⟩) 1 1]).run Tryz.prog W = .ok (.slice ra (n + 1) rc) W' ∧ W'.ownsRow lo 9 1 (.slice ra (n + 1) rc) (n + 1) (C ++ cs) ∧ W.grownBy W' v.ownBlock := by
  obtain ⟨i0, z0, k0, k1, k2, k3, k4⟩ := inf9
  obtain ⟨v', W', hr, h2, h3, _, _⟩ := run_append_own_at (P := Tryz.prog) (w := W) lo 44 44 9 i0 z0 1 16 Tryz.underlying44 k0 k1 k2 k3 k4 (by omega) v n C h ⟨z, 0, none⟩ 1 1 cs (by rw [hl.1]) (fun j u hu => by
    rw [Addr.add_lit, Nat.zero_add]
    exact hb.cell hu) hl.2 (by unfold maxLen; omega) (by omega) hlo
  rcases h2.2 with ⟨rfl, h0⟩ | ⟨g, cap, cur, rfl, _⟩
  · omega
  · exact ⟨_, _, W', hr, h2, h3⟩
theorem app_one47 (W : World) (lo : Nat) (v : Value) (n : Nat) (C : List Value) (h : W.ownsRow lo 37 32 v n C) (z : Nat) (cs : List Value) (hl : cs.length = 32 ∧ ∀ u ∈ cs, u.oneCell' = true) (hb : Blk W z 37 cs) (hn : n ≤ 1000000) (hlo : lo ≤ W.heap.size) :
    ∃ ra rc W', (Builtin.append_ #[22, 22] 22 #[v, .slice (some ⟨z, 0, none⟩) 1 1]).run Tryz.prog W = .ok (.slice ra (n + 1) rc) W' ∧ W'.ownsRow lo 37 32 (.slice ra (n + 1) rc) (n + 1) (C ++ cs) ∧ W.grownBy W' v.ownBlock := by
  obtain ⟨i0, z0, k0, k1, k2, k3, k4⟩ := inf47
  obtain ⟨v', W', hr, h2, h3, _, _⟩ := run_append_own_at (P := Tryz.prog) (w := W) lo 22 22 37 i0 z0 32 32 Tryz.underlying22 k0 k1 k2 k3 k4 (by omega) v n C h ⟨z, 0, none⟩ 1 1 cs (by rw [hl.1]) (fun j u hu => by
    rw [Addr.add_lit, Nat.zero_add]
    exact hb.cell hu) hl.2 (by unfold maxLen; omega) (by omega) hlo
  rcases h2.2 with ⟨rfl, h0⟩ | ⟨g, cap, cur, rfl, _⟩
  · omega
  · exact ⟨_, _, W', hr, h2, h3⟩
theorem app_one51 (W : World) (lo : Nat) (v : Value) (n : Nat) (C : List Value) (h : W.ownsRow lo 46 69 v n C) (z : Nat) (cs : List Value) (hl : cs.length = 69 ∧ ∀ u ∈ cs, u.oneCell' = true) (hb : Blk W z 46 cs) (hn : n ≤ 1000000) (hlo : lo ≤ W.heap.size) :
    ∃ ra rc W', (Builtin.append_ #[23, 23] 23 #[v, .slice (some ⟨z, 0, none⟩) 1 1]).run Tryz.prog W = .ok (.slice ra (n + 1) rc) W' ∧ W'.ownsRow lo 46 69 (.slice ra (n + 1) rc) (n + 1) (C ++ cs) ∧ W.grownBy W' v.ownBlock := by
  obtain ⟨i0, z0, k0, k1, k2, k3, k4⟩ := inf51
  obtain ⟨v', W', hr, h2, h3, _, _⟩ := run_append_own_at (P := Tryz.prog) (w := W) lo 23 23 46 i0 z0 69 128 Tryz.underlying23 k0 k1 k2 k3 k4 (by omega) v n C h ⟨z, 0, none⟩ 1 1 cs (by rw [hl.1]) (fun j u hu => by
    rw [Addr.add_lit, Nat.zero_add]
    exact hb.cell hu) hl.2 (by unfold maxLen; omega) (by omega) hlo
  rcases h2.2 with ⟨rfl, h0⟩ | ⟨g, cap, cur, rfl, _⟩
  · omega
  · exact ⟨_, _, W', hr, h2, h3⟩
theorem bs31 (s : BA) (W : World) : (Instr.buildSlice 44 1 #[(0, .string s)]).run Tryz.prog W = .ok (.slice (some ⟨W.heap.size, 0, none⟩) 1 1) (W.alloc (.cells [Value.string s].toArray 9)) := by kernel_rfl
theorem bs22 {x : Hs} (h : x.length = 32) (W : World) : (Instr.buildSlice 22 1 #[(0, .agg (U x).toArray)]).run Tryz.prog W = .ok (.slice (some ⟨W.heap.size, 0, none⟩) 1 1) (W.alloc (.cells (U x).toArray 37)) := by
  obtain ⟨c0, c1, c2, c3, c4, c5, c6, c7, c8, c9, c10, c11, c12, c13, c14, c15, c16, c17, c18, c19, c20, c21, c22, c23, c24, c25, c26, c27, c28, c29, c30, c31, rfl⟩ := ls32 h
  kernel_rfl
theorem bs23 {q : OpV} (h : q.ok) (W : World) : (Instr.buildSlice 23 1 #[(0, .agg q.cells.toArray)]).run Tryz.prog W = .ok (.slice (some ⟨W.heap.size, 0, none⟩) 1 1) (W.alloc (.cells q.cells.toArray 46)) := by
  obtain ⟨h1, h2, _⟩ := h
  obtain ⟨kd, pa, ⟨uh, un⟩, ⟨dh, dn⟩, la, ln, lc, ts⟩ := q
  obtain ⟨c0, c1, c2, c3, c4, c5, c6, c7, c8, c9, c10, c11, c12, c13, c14, c15, c16, c17, c18, c19, c20, c21, c22, c23, c24, c25, c26, c27, c28, c29, c30, c31, he1⟩ := ls32 (x := uh) h1
  obtain ⟨f0, f1, f2, f3, f4, f5, f6, f7, f8, f9, f10, f11, f12, f13, f14, f15, f16, f17, f18, f19, f20, f21, f22, f23, f24, f25, f26, f27, f28, f29, f30, f31, he2⟩ := ls32 (x := dh) h2
  subst he1
  subst he2
  kernel_rfl
set_option maxRecDepth 100000 in
set_option maxHeartbeats 4000000 in
theorem ol10 {Q : Exit → Act → World → Prop} {x1 x2 x4 x5 x6 x7 x8 x9 x10 x11 x12 x13 x14 x15 x16 x17 x18 x19 x20 x21 x22 x23 x24 x25 x26 x27 x28 x29 x30 x31 x32 : Value} {ds : List Deferred} {A : World} {B g r lo dn dc rn rc : Nat} {l : List UInt8} {da ra : Option Addr} {D : List Hs} {L C : List Value} {d3 : Nat}
    (hPN : ∀ c a' w', a'.defers = ds → c = [{ v := .iface 29 (.int .i64 103), recovered := false }] → Fk [92] B A w' → tT 200 l = none → Q (.panic c) a' w') (HLc : Hid (L[68]? = some (.slice ra rn rc))) (HLo : Hid (B ≤ lo ∧ lo ≤ A.heap.size)) (HLb : Hid (B ≤ d3)) (HPg : Hid (Pg B A g r l da dn dc D)) (HBk : Hid (Blk A d3 46 L)) (HOw : Hid (A.ownsRow lo 9 1 (.slice ra rn rc) rn C)) (HRn : Hid (rn ≤ 64))
    (hQ : ∀ Vc Vm Va (s : BA) (l2 : List UInt8) ra2 rc2 z, (tT 200 l = some (s, l2) ∧ s.size ≤ 200) → Fk [92] B A Vm → Pg B Vc g r l2 da dn dc D → Below Vc.heap.size Vc Vm → Vm.grownBy Va (Value.slice ra rn rc).ownBlock → Va.ownsRow lo 9 1 (.slice ra2 (rn + 1) rc2) (rn + 1) (C ++ [Value.string s]) → Blk Va d3 46 L → Q .normal { tmps := #[.pointer (some ⟨g, 0, none⟩), x1, x2, .pointer (some ⟨d3, 0, none⟩), x4, x5, x6, x7, x8, x9, x10, x11, x12, x13, x14, x15, x16, x17, x18, x19, x20, x21, x22, x23, .pointer (some ⟨d3, 68, none⟩), .slice ra rn rc, .pointer (some ⟨g, 0, none⟩), .string s, .slice (some ⟨z, 0, none⟩) 1 1, .slice ra2 (rn + 1) rc2, .pointer (some ⟨d3, 68, none⟩), x31, x32], defers := ds } (Va.setCell ⟨d3, 68, none⟩ (.slice ra2 (rn + 1) rc2))) :
    (Code.region 10 #[{ dst := some 24, op := Op.fieldAddr 46 (Operand.tmp 3) 4, type := 0, pos := "code.go:145", after := #[], guard := none }, { dst := some 25, op := Op.load 44 (Operand.tmp 24), type := 44, pos := "code.go:145", after := #[{ on := 0, ground := Ground.data }], guard := none }, { dst := some 26, op := Op.move (Operand.tmp 0), type := 93, pos := "code.go:145", after := #[], guard := none }, { dst := some 27, op := Op.call { callee := Callee.value (Operand.func 51), args := #[Operand.tmp 26, Operand.const (Value.int IntKind.i64 200)], argTypes := #[93, 3] }, type := 9, pos := "code.go:145", after := #[{ on := 2, ground := Ground.data }], guard := none }, { dst := some 28, op := Op.buildSlice 44 1 #[(0, Operand.tmp 27)], type := 44, pos := "code.go:145", after := #[{ on := 3, ground := Ground.data }], guard := none }, { dst := some 29, op := Op.call { callee := Callee.builtin Builtin.append, args := #[Operand.tmp 25, Operand.tmp 28], argTypes := #[44, 44] }, type := 44, pos := "code.go:145", after := #[{ on := 1, ground := Ground.data }, { on := 4, ground := Ground.data }, { on := 3, ground := Ground.chain }], guard := none }, { dst := some 30, op := Op.fieldAddr 46 (Operand.tmp 3) 4, type := 0, pos := "code.go:145", after := #[{ on := 0, ground := Ground.phase }, { on := 1, ground := Ground.phase }, { on := 2, ground := Ground.phase }, { on := 3, ground := Ground.phase }, { on := 4, ground := Ground.phase }, { on := 5, ground := Ground.phase }], guard := none }, { dst := none, op := Op.store 44 (Operand.tmp 30) (Operand.tmp 29), type := 0, pos := "code.go:145", after := #[{ on := 6, ground := Ground.data }, { on := 5, ground := Ground.data }, { on := 5, ground := Ground.chain }, { on := 0, ground := Ground.phase }, { on := 1, ground := Ground.phase }, { on := 2, ground := Ground.phase }, { on := 3, ground := Ground.phase }, { on := 4, ground := Ground.phase }, { on := 5, ground := Ground.phase }], guard := none }] true).wp Tryz.prog Q { tmps := #[.pointer (some ⟨g, 0, none⟩), x1, x2, .pointer (some ⟨d3, 0, none⟩), x4, x5, x6, x7, x8, x9, x10, x11, x12, x13, x14, x15, x16, x17, x18, x19, x20, x21, x22, x23, x24, x25, x26, x27, x28, x29, x30, x31, x32], defers := ds } A := by
  refine Code.wp_mono (Q := fun x a' w' => match x with | .normal => Q .normal a' w' | .panic c => a'.defers = ds ∧ c = [{ v := .iface 29 (.int .i64 103), recovered := false }] ∧ Fk [92] B A w' ∧ tT 200 l = none | _ => False) (by intro x a' w' h; cases x <;> first | exact h | exact hPN _ _ _ h.1 h.2.1 h.2.2.1 h.2.2.2 | exact h.elim) ?_
  refine wp_region_held (S := fun V => Fk [92, 9, 46] B A V) (by kernel_rfl) ?_
  have hS0 : Hid (Fk [92, 9, 46] B A A.drew) := Fk.of_below (below_drew0 A) HPg.out.lt.2.1
  change wpAnyH Tryz.prog .any _ _ (fun V => Fk [92, 9, 46] B A V) 8 (Array.replicate 8 false) _ A.drew
  obtain ⟨V0, hV0⟩ : ∃ V0, A.drew = V0 := ⟨_, rfl⟩
  rw [hV0]
  rw [hV0] at hS0
  have hP0 : Hid (Pg B V0 g r l da dn dc D) := by rw [← hV0]; exact HPg.out.below (below_drew0 A)
  have hB0 : Hid (Blk V0 d3 46 L) := by rw [← hV0]; exact HBk.out.drew
  have hO0 : Hid (V0.ownsRow lo 9 1 (.slice ra rn rc) rn C) := by rw [← hV0]; exact ownsRow_below HOw.out (below_drew0 A)
  have hF0 : Hid (Fk [92] B A V0) := by rw [← hV0]; exact Fk.of_below (below_drew0 A) HPg.out.lt.2.1
  clear hV0
  refine wpAnyH_take (i := 0) (oi := { dst := some 24, op := Op.fieldAddr 46 (Operand.tmp 3) 4, type := 0, pos := "code.go:145", after := #[], guard := none }) (v := .pointer (some ⟨d3, 68, none⟩)) rfl (by kernel_rfl) (by kernel_rfl) (by kernel_rfl) (fun _ _ _ h => h) (Or.inl ⟨by rfl, ?y1⟩) hS0.out ?_
  case y1 =>
    intro V hV
    go_simp
  simp only [Act.put, List.setIfInBounds_toArray, List.set_cons_zero, List.set_cons_succ]
  refine wpAnyH_take (i := 2) (oi := { dst := some 26, op := Op.move (Operand.tmp 0), type := 93, pos := "code.go:145", after := #[], guard := none }) (v := .pointer (some ⟨g, 0, none⟩)) rfl (by kernel_rfl) (by kernel_rfl) (by kernel_rfl) (fun _ _ _ h => h) (Or.inl ⟨by rfl, ?y2⟩) hS0.out ?_
  case y2 =>
    intro V hV
    go_simp
  simp only [Act.put, List.setIfInBounds_toArray, List.set_cons_zero, List.set_cons_succ]
  refine wpAnyH_ready (rs := [1, 3]) (by kernel_rfl) (by simp) (AllReadyH.cons (i := 1) (o := { dst := some 25, op := Op.load 44 (Operand.tmp 24), type := 44, pos := "code.go:145", after := #[{ on := 0, ground := Ground.data }], guard := none }) rfl ?_ (AllReadyH.cons (i := 3) (o := { dst := some 27, op := Op.call { callee := Callee.value (Operand.func 51), args := #[Operand.tmp 26, Operand.const (Value.int IntKind.i64 200)], argTypes := #[93, 3] }, type := 9, pos := "code.go:145", after := #[{ on := 2, ground := Ground.data }], guard := none }) rfl ?_ AllReadyH.nil))
  · intro K1 hK1
    rw [if_pos (by rfl)]
    have hc1 : V0.cell? ⟨d3, 68, none⟩ = some (.slice ra rn rc) := hB0.out.cell HLc.out
    go_wp2
    clear hc1
    refine hK1.out _ _ hS0.out ?_
    clear hK1
    intro _
    try simp only [Act.put, List.setIfInBounds_toArray, List.set_cons_zero, List.set_cons_succ]
    refine wpAnyH_ready (rs := [3]) (by kernel_rfl) (by simp) (AllReadyH.cons (i := 3) (o := { dst := some 27, op := Op.call { callee := Callee.value (Operand.func 51), args := #[Operand.tmp 26, Operand.const (Value.int IntKind.i64 200)], argTypes := #[93, 3] }, type := 9, pos := "code.go:145", after := #[{ on := 2, ground := Ground.data }], guard := none }) rfl ?_ AllReadyH.nil)
    · intro K1 hK1
      rw [if_pos (by rfl)]
      have HC2 := text83 hP0.out 200 (by omega)
      go_wp2_with fail
      refine HC2.mono ?_
      rintro e V2 ⟨hf2, h2⟩
      clear HC2
      rcases h2 with ⟨hn2, he2⟩ | ⟨s, l2, hj, ⟨rfl, hs2⟩, hp⟩
      · rw [pan] at he2
        subst he2
        first
        | exact And.intro rfl (And.intro rfl (And.intro (hF0.out.trans hf2) hn2))
        | exact And.intro rfl (And.intro (hF0.out.trans hf2) hn2)
      dsimp only
      have hF2 : Hid (Fk [92] B A V2) := hF0.out.trans hf2
      have hB2 : Hid (Blk V2 d3 46 L) := hB0.out.fk hf2 (by decide)
      have hO2 : Hid (V2.ownsRow lo 9 1 (.slice ra rn rc) rn C) := own_fk hO0.out hf2 (by decide)
      have hP2 : Hid (Pg B V2 g r l2 da dn dc D) := hp
      have hE2 : Hid (tT 200 l = some (s, l2) ∧ s.size ≤ 200) := ⟨hj, hs2⟩
      clear hf2 hp
      have hS2 : Hid (Fk [92, 9, 46] B A V2) := hF2.out.more (by simp)
      refine hK1.out _ _ hS2.out ?_
      clear hK1
      intro _
      try simp only [Act.put, List.setIfInBounds_toArray, List.set_cons_zero, List.set_cons_succ]
      refine wpAnyH_ready (rs := [4]) (by kernel_rfl) (by simp) (AllReadyH.cons (i := 4) (o := { dst := some 28, op := Op.buildSlice 44 1 #[(0, Operand.tmp 27)], type := 44, pos := "code.go:145", after := #[{ on := 3, ground := Ground.data }], guard := none }) rfl ?_ AllReadyH.nil)
      · intro K1 hK1
        obtain ⟨z3, hz3⟩ : ∃ z, V2.heap.size = z := ⟨_, rfl⟩
        obtain ⟨V3, hv3⟩ : ∃ V, V2.alloc (.cells ([Value.string s]).toArray 9) = V := ⟨_, rfl⟩
        refine step_bs (by rfl) 44 1 _ rfl (.slice (some ⟨z3, 0, none⟩) 1 1) V3 (by rw [← hv3, ← hz3]; simp only [List.map_toArray, List.map_cons, List.map_nil]; exact bs31 s V2) ?_
        have hb3 : Hid (Below V2.heap.size V2 V3 ∧ Blk V3 z3 9 ([Value.string s])) := by rw [← hv3, ← hz3]; exact ⟨below_al _ _, Blk.new _ _ _⟩
        clear hv3 hz3
        have hF3 : Hid (Fk [92] B A V3) := hF2.out.then hb3.out.1 hP2.out.lt.2.1
        have hB3 : Hid (Blk V3 d3 46 L) := hB2.out.below hb3.out.1 hB2.out.lt
        have hO3 : Hid (V3.ownsRow lo 9 1 (.slice ra rn rc) rn C) := ownsRow_below hO2.out hb3.out.1
        have hS3 : Hid (Fk [92, 9, 46] B A V3) := hF3.out.more (by simp)
        refine hK1.out _ _ hS3.out ?_
        clear hK1
        intro _
        try simp only [Act.put, List.setIfInBounds_toArray, List.set_cons_zero, List.set_cons_succ]
        refine wpAnyH_ready (rs := [5]) (by kernel_rfl) (by simp) (AllReadyH.cons (i := 5) (o := { dst := some 29, op := Op.call { callee := Callee.builtin Builtin.append, args := #[Operand.tmp 25, Operand.tmp 28], argTypes := #[44, 44] }, type := 44, pos := "code.go:145", after := #[{ on := 1, ground := Ground.data }, { on := 4, ground := Ground.data }, { on := 3, ground := Ground.chain }], guard := none }) rfl ?_ AllReadyH.nil)
        · intro K1 hK1
          obtain ⟨ra2, rc2, V4, hr4, ho4, hg4⟩ := app_one9 V3 lo (.slice ra rn rc) rn C hO3.out z3 [Value.string s] ⟨rfl, by intro u hu; simp only [List.mem_cons, List.not_mem_nil, or_false] at hu; subst hu; rfl⟩ hb3.out.2 (by have := HRn.out; omega) (by have := HLo.out; have := hS3.out.size; omega)
          refine step_apd (t := 44) (by rfl) (.tmp 25) (.tmp 28) rfl hr4 rfl rfl ?_
          have hG4 : Hid (V3.grownBy V4 (Value.slice ra rn rc).ownBlock ∧ V4.ownsRow lo 9 1 (.slice ra2 (rn + 1) rc2) (rn + 1) (C ++ [Value.string s])) := ⟨hg4, ho4⟩
          have hB4 : Hid (Blk V4 d3 46 L) := hB3.out.kept hg4 (own_ne hO3.out hB3.out (by decide))
          have hS4 : Hid (Fk [92, 9, 46] B A V4) := hS3.out.trans (fk_own hO3.out hg4 (by have := HLo.out; omega) (by have := hS3.out.size; have := HLo.out; omega) (by simp))
          clear hr4 ho4 hg4
          refine hK1.out _ _ hS4.out ?_
          clear hK1
          intro _
          try simp only [Act.put, List.setIfInBounds_toArray, List.set_cons_zero, List.set_cons_succ]
          refine wpAnyH_take (i := 6) (oi := { dst := some 30, op := Op.fieldAddr 46 (Operand.tmp 3) 4, type := 0, pos := "code.go:145", after := #[{ on := 0, ground := Ground.phase }, { on := 1, ground := Ground.phase }, { on := 2, ground := Ground.phase }, { on := 3, ground := Ground.phase }, { on := 4, ground := Ground.phase }, { on := 5, ground := Ground.phase }], guard := none }) (v := .pointer (some ⟨d3, 68, none⟩)) rfl (by kernel_rfl) (by kernel_rfl) (by kernel_rfl) (fun _ _ _ h => h) (Or.inl ⟨by rfl, ?y3⟩) hS4.out ?_
          case y3 =>
            intro V hV
            go_simp
          simp only [Act.put, List.setIfInBounds_toArray, List.set_cons_zero, List.set_cons_succ]
          refine wpAnyH_ready (rs := [7]) (by kernel_rfl) (by simp) (AllReadyH.cons (i := 7) (o := { dst := none, op := Op.store 44 (Operand.tmp 30) (Operand.tmp 29), type := 0, pos := "code.go:145", after := #[{ on := 6, ground := Ground.data }, { on := 5, ground := Ground.data }, { on := 5, ground := Ground.chain }, { on := 0, ground := Ground.phase }, { on := 1, ground := Ground.phase }, { on := 2, ground := Ground.phase }, { on := 3, ground := Ground.phase }, { on := 4, ground := Ground.phase }, { on := 5, ground := Ground.phase }], guard := none }) rfl ?_ AllReadyH.nil)
          · intro K1 hK1
            refine step_stc (by rfl) 44 (.tmp 30) (.tmp 29) rfl infoS31 (b := d3) (i := 68) (v := .slice ra2 (rn + 1) rc2) rfl rfl rfl rfl (hB4.out.cell HLc.out) (hB4.out.free _) ?_
            obtain ⟨V5, hv5⟩ : ∃ V, V4.setCell ⟨d3, 68, none⟩ (.slice ra2 (rn + 1) rc2) = V := ⟨_, rfl⟩
            rw [hv5]
            have hS5 : Hid (Fk [92, 9, 46] B A V5) := by rw [← hv5]; exact hS4.out.trans (Fk.of_blk (grown_setCell _ _ _ _) hB4.out HLb.out (by simp))
            refine hK1.out _ _ hS5.out ?_
            clear hK1
            intro _
            try simp only [Act.put, List.setIfInBounds_toArray, List.set_cons_zero, List.set_cons_succ]
            refine wpAnyH_done (by kernel_rfl) ?_ _
            exact by rw [← hv5]; exact hQ V2 V3 V4 s l2 ra2 rc2 _ hE2.out hF3.out hP2.out hb3.out.1 hG4.out.1 hG4.out.2 hB4.out
  · intro K1 hK1
    rw [if_pos (by rfl)]
    have HC1 := text83 hP0.out 200 (by omega)
    go_wp2_with fail
    refine HC1.mono ?_
    rintro e V1 ⟨hf1, h1⟩
    clear HC1
    rcases h1 with ⟨hn1, he1⟩ | ⟨s, l2, hj, ⟨rfl, hs2⟩, hp⟩
    · rw [pan] at he1
      subst he1
      first
      | exact And.intro rfl (And.intro rfl (And.intro (hF0.out.trans hf1) hn1))
      | exact And.intro rfl (And.intro (hF0.out.trans hf1) hn1)
    dsimp only
    have hF1 : Hid (Fk [92] B A V1) := hF0.out.trans hf1
    have hB1 : Hid (Blk V1 d3 46 L) := hB0.out.fk hf1 (by decide)
    have hO1 : Hid (V1.ownsRow lo 9 1 (.slice ra rn rc) rn C) := own_fk hO0.out hf1 (by decide)
    have hP1 : Hid (Pg B V1 g r l2 da dn dc D) := hp
    have hE1 : Hid (tT 200 l = some (s, l2) ∧ s.size ≤ 200) := ⟨hj, hs2⟩
    clear hf1 hp
    have hS1 : Hid (Fk [92, 9, 46] B A V1) := hF1.out.more (by simp)
    refine hK1.out _ _ hS1.out ?_
    clear hK1
    intro _
    try simp only [Act.put, List.setIfInBounds_toArray, List.set_cons_zero, List.set_cons_succ]
    refine wpAnyH_ready (rs := [1, 4]) (by kernel_rfl) (by simp) (AllReadyH.cons (i := 1) (o := { dst := some 25, op := Op.load 44 (Operand.tmp 24), type := 44, pos := "code.go:145", after := #[{ on := 0, ground := Ground.data }], guard := none }) rfl ?_ (AllReadyH.cons (i := 4) (o := { dst := some 28, op := Op.buildSlice 44 1 #[(0, Operand.tmp 27)], type := 44, pos := "code.go:145", after := #[{ on := 3, ground := Ground.data }], guard := none }) rfl ?_ AllReadyH.nil))
    · intro K1 hK1
      rw [if_pos (by rfl)]
      have hc2 : V1.cell? ⟨d3, 68, none⟩ = some (.slice ra rn rc) := hB1.out.cell HLc.out
      go_wp2
      clear hc2
      refine hK1.out _ _ hS1.out ?_
      clear hK1
      intro _
      try simp only [Act.put, List.setIfInBounds_toArray, List.set_cons_zero, List.set_cons_succ]
      refine wpAnyH_ready (rs := [4]) (by kernel_rfl) (by simp) (AllReadyH.cons (i := 4) (o := { dst := some 28, op := Op.buildSlice 44 1 #[(0, Operand.tmp 27)], type := 44, pos := "code.go:145", after := #[{ on := 3, ground := Ground.data }], guard := none }) rfl ?_ AllReadyH.nil)
      · intro K1 hK1
        obtain ⟨z3, hz3⟩ : ∃ z, V1.heap.size = z := ⟨_, rfl⟩
        obtain ⟨V3, hv3⟩ : ∃ V, V1.alloc (.cells ([Value.string s]).toArray 9) = V := ⟨_, rfl⟩
        refine step_bs (by rfl) 44 1 _ rfl (.slice (some ⟨z3, 0, none⟩) 1 1) V3 (by rw [← hv3, ← hz3]; simp only [List.map_toArray, List.map_cons, List.map_nil]; exact bs31 s V1) ?_
        have hb3 : Hid (Below V1.heap.size V1 V3 ∧ Blk V3 z3 9 ([Value.string s])) := by rw [← hv3, ← hz3]; exact ⟨below_al _ _, Blk.new _ _ _⟩
        clear hv3 hz3
        have hF3 : Hid (Fk [92] B A V3) := hF1.out.then hb3.out.1 hP1.out.lt.2.1
        have hB3 : Hid (Blk V3 d3 46 L) := hB1.out.below hb3.out.1 hB1.out.lt
        have hO3 : Hid (V3.ownsRow lo 9 1 (.slice ra rn rc) rn C) := ownsRow_below hO1.out hb3.out.1
        have hS3 : Hid (Fk [92, 9, 46] B A V3) := hF3.out.more (by simp)
        refine hK1.out _ _ hS3.out ?_
        clear hK1
        intro _
        try simp only [Act.put, List.setIfInBounds_toArray, List.set_cons_zero, List.set_cons_succ]
        refine wpAnyH_ready (rs := [5]) (by kernel_rfl) (by simp) (AllReadyH.cons (i := 5) (o := { dst := some 29, op := Op.call { callee := Callee.builtin Builtin.append, args := #[Operand.tmp 25, Operand.tmp 28], argTypes := #[44, 44] }, type := 44, pos := "code.go:145", after := #[{ on := 1, ground := Ground.data }, { on := 4, ground := Ground.data }, { on := 3, ground := Ground.chain }], guard := none }) rfl ?_ AllReadyH.nil)
        · intro K1 hK1
          obtain ⟨ra2, rc2, V4, hr4, ho4, hg4⟩ := app_one9 V3 lo (.slice ra rn rc) rn C hO3.out z3 [Value.string s] ⟨rfl, by intro u hu; simp only [List.mem_cons, List.not_mem_nil, or_false] at hu; subst hu; rfl⟩ hb3.out.2 (by have := HRn.out; omega) (by have := HLo.out; have := hS3.out.size; omega)
          refine step_apd (t := 44) (by rfl) (.tmp 25) (.tmp 28) rfl hr4 rfl rfl ?_
          have hG4 : Hid (V3.grownBy V4 (Value.slice ra rn rc).ownBlock ∧ V4.ownsRow lo 9 1 (.slice ra2 (rn + 1) rc2) (rn + 1) (C ++ [Value.string s])) := ⟨hg4, ho4⟩
          have hB4 : Hid (Blk V4 d3 46 L) := hB3.out.kept hg4 (own_ne hO3.out hB3.out (by decide))
          have hS4 : Hid (Fk [92, 9, 46] B A V4) := hS3.out.trans (fk_own hO3.out hg4 (by have := HLo.out; omega) (by have := hS3.out.size; have := HLo.out; omega) (by simp))
          clear hr4 ho4 hg4
          refine hK1.out _ _ hS4.out ?_
          clear hK1
          intro _
          try simp only [Act.put, List.setIfInBounds_toArray, List.set_cons_zero, List.set_cons_succ]
          refine wpAnyH_take (i := 6) (oi := { dst := some 30, op := Op.fieldAddr 46 (Operand.tmp 3) 4, type := 0, pos := "code.go:145", after := #[{ on := 0, ground := Ground.phase }, { on := 1, ground := Ground.phase }, { on := 2, ground := Ground.phase }, { on := 3, ground := Ground.phase }, { on := 4, ground := Ground.phase }, { on := 5, ground := Ground.phase }], guard := none }) (v := .pointer (some ⟨d3, 68, none⟩)) rfl (by kernel_rfl) (by kernel_rfl) (by kernel_rfl) (fun _ _ _ h => h) (Or.inl ⟨by rfl, ?y4⟩) hS4.out ?_
          case y4 =>
            intro V hV
            go_simp
          simp only [Act.put, List.setIfInBounds_toArray, List.set_cons_zero, List.set_cons_succ]
          refine wpAnyH_ready (rs := [7]) (by kernel_rfl) (by simp) (AllReadyH.cons (i := 7) (o := { dst := none, op := Op.store 44 (Operand.tmp 30) (Operand.tmp 29), type := 0, pos := "code.go:145", after := #[{ on := 6, ground := Ground.data }, { on := 5, ground := Ground.data }, { on := 5, ground := Ground.chain }, { on := 0, ground := Ground.phase }, { on := 1, ground := Ground.phase }, { on := 2, ground := Ground.phase }, { on := 3, ground := Ground.phase }, { on := 4, ground := Ground.phase }, { on := 5, ground := Ground.phase }], guard := none }) rfl ?_ AllReadyH.nil)
          · intro K1 hK1
            refine step_stc (by rfl) 44 (.tmp 30) (.tmp 29) rfl infoS31 (b := d3) (i := 68) (v := .slice ra2 (rn + 1) rc2) rfl rfl rfl rfl (hB4.out.cell HLc.out) (hB4.out.free _) ?_
            obtain ⟨V5, hv5⟩ : ∃ V, V4.setCell ⟨d3, 68, none⟩ (.slice ra2 (rn + 1) rc2) = V := ⟨_, rfl⟩
            rw [hv5]
            have hS5 : Hid (Fk [92, 9, 46] B A V5) := by rw [← hv5]; exact hS4.out.trans (Fk.of_blk (grown_setCell _ _ _ _) hB4.out HLb.out (by simp))
            refine hK1.out _ _ hS5.out ?_
            clear hK1
            intro _
            try simp only [Act.put, List.setIfInBounds_toArray, List.set_cons_zero, List.set_cons_succ]
            refine wpAnyH_done (by kernel_rfl) ?_ _
            exact by rw [← hv5]; exact hQ V1 V3 V4 s l2 ra2 rc2 _ hE1.out hF3.out hP1.out hb3.out.1 hG4.out.1 hG4.out.2 hB4.out
    · intro K1 hK1
      obtain ⟨z2, hz2⟩ : ∃ z, V1.heap.size = z := ⟨_, rfl⟩
      obtain ⟨V2, hv2⟩ : ∃ V, V1.alloc (.cells ([Value.string s]).toArray 9) = V := ⟨_, rfl⟩
      refine step_bs (by rfl) 44 1 _ rfl (.slice (some ⟨z2, 0, none⟩) 1 1) V2 (by rw [← hv2, ← hz2]; simp only [List.map_toArray, List.map_cons, List.map_nil]; exact bs31 s V1) ?_
      have hb2 : Hid (Below V1.heap.size V1 V2 ∧ Blk V2 z2 9 ([Value.string s])) := by rw [← hv2, ← hz2]; exact ⟨below_al _ _, Blk.new _ _ _⟩
      clear hv2 hz2
      have hF2 : Hid (Fk [92] B A V2) := hF1.out.then hb2.out.1 hP1.out.lt.2.1
      have hB2 : Hid (Blk V2 d3 46 L) := hB1.out.below hb2.out.1 hB1.out.lt
      have hO2 : Hid (V2.ownsRow lo 9 1 (.slice ra rn rc) rn C) := ownsRow_below hO1.out hb2.out.1
      have hS2 : Hid (Fk [92, 9, 46] B A V2) := hF2.out.more (by simp)
      refine hK1.out _ _ hS2.out ?_
      clear hK1
      intro _
      try simp only [Act.put, List.setIfInBounds_toArray, List.set_cons_zero, List.set_cons_succ]
      refine wpAnyH_ready (rs := [1]) (by kernel_rfl) (by simp) (AllReadyH.cons (i := 1) (o := { dst := some 25, op := Op.load 44 (Operand.tmp 24), type := 44, pos := "code.go:145", after := #[{ on := 0, ground := Ground.data }], guard := none }) rfl ?_ AllReadyH.nil)
      · intro K1 hK1
        rw [if_pos (by rfl)]
        have hc3 : V2.cell? ⟨d3, 68, none⟩ = some (.slice ra rn rc) := hB2.out.cell HLc.out
        go_wp2
        clear hc3
        refine hK1.out _ _ hS2.out ?_
        clear hK1
        intro _
        try simp only [Act.put, List.setIfInBounds_toArray, List.set_cons_zero, List.set_cons_succ]
        refine wpAnyH_ready (rs := [5]) (by kernel_rfl) (by simp) (AllReadyH.cons (i := 5) (o := { dst := some 29, op := Op.call { callee := Callee.builtin Builtin.append, args := #[Operand.tmp 25, Operand.tmp 28], argTypes := #[44, 44] }, type := 44, pos := "code.go:145", after := #[{ on := 1, ground := Ground.data }, { on := 4, ground := Ground.data }, { on := 3, ground := Ground.chain }], guard := none }) rfl ?_ AllReadyH.nil)
        · intro K1 hK1
          obtain ⟨ra2, rc2, V4, hr4, ho4, hg4⟩ := app_one9 V2 lo (.slice ra rn rc) rn C hO2.out z2 [Value.string s] ⟨rfl, by intro u hu; simp only [List.mem_cons, List.not_mem_nil, or_false] at hu; subst hu; rfl⟩ hb2.out.2 (by have := HRn.out; omega) (by have := HLo.out; have := hS2.out.size; omega)
          refine step_apd (t := 44) (by rfl) (.tmp 25) (.tmp 28) rfl hr4 rfl rfl ?_
          have hG4 : Hid (V2.grownBy V4 (Value.slice ra rn rc).ownBlock ∧ V4.ownsRow lo 9 1 (.slice ra2 (rn + 1) rc2) (rn + 1) (C ++ [Value.string s])) := ⟨hg4, ho4⟩
          have hB4 : Hid (Blk V4 d3 46 L) := hB2.out.kept hg4 (own_ne hO2.out hB2.out (by decide))
          have hS4 : Hid (Fk [92, 9, 46] B A V4) := hS2.out.trans (fk_own hO2.out hg4 (by have := HLo.out; omega) (by have := hS2.out.size; have := HLo.out; omega) (by simp))
          clear hr4 ho4 hg4
          refine hK1.out _ _ hS4.out ?_
          clear hK1
          intro _
          try simp only [Act.put, List.setIfInBounds_toArray, List.set_cons_zero, List.set_cons_succ]
          refine wpAnyH_take (i := 6) (oi := { dst := some 30, op := Op.fieldAddr 46 (Operand.tmp 3) 4, type := 0, pos := "code.go:145", after := #[{ on := 0, ground := Ground.phase }, { on := 1, ground := Ground.phase }, { on := 2, ground := Ground.phase }, { on := 3, ground := Ground.phase }, { on := 4, ground := Ground.phase }, { on := 5, ground := Ground.phase }], guard := none }) (v := .pointer (some ⟨d3, 68, none⟩)) rfl (by kernel_rfl) (by kernel_rfl) (by kernel_rfl) (fun _ _ _ h => h) (Or.inl ⟨by rfl, ?y5⟩) hS4.out ?_
          case y5 =>
            intro V hV
            go_simp
          simp only [Act.put, List.setIfInBounds_toArray, List.set_cons_zero, List.set_cons_succ]
          refine wpAnyH_ready (rs := [7]) (by kernel_rfl) (by simp) (AllReadyH.cons (i := 7) (o := { dst := none, op := Op.store 44 (Operand.tmp 30) (Operand.tmp 29), type := 0, pos := "code.go:145", after := #[{ on := 6, ground := Ground.data }, { on := 5, ground := Ground.data }, { on := 5, ground := Ground.chain }, { on := 0, ground := Ground.phase }, { on := 1, ground := Ground.phase }, { on := 2, ground := Ground.phase }, { on := 3, ground := Ground.phase }, { on := 4, ground := Ground.phase }, { on := 5, ground := Ground.phase }], guard := none }) rfl ?_ AllReadyH.nil)
          · intro K1 hK1
            refine step_stc (by rfl) 44 (.tmp 30) (.tmp 29) rfl infoS31 (b := d3) (i := 68) (v := .slice ra2 (rn + 1) rc2) rfl rfl rfl rfl (hB4.out.cell HLc.out) (hB4.out.free _) ?_
            obtain ⟨V5, hv5⟩ : ∃ V, V4.setCell ⟨d3, 68, none⟩ (.slice ra2 (rn + 1) rc2) = V := ⟨_, rfl⟩
            rw [hv5]
            have hS5 : Hid (Fk [92, 9, 46] B A V5) := by rw [← hv5]; exact hS4.out.trans (Fk.of_blk (grown_setCell _ _ _ _) hB4.out HLb.out (by simp))
            refine hK1.out _ _ hS5.out ?_
            clear hK1
            intro _
            try simp only [Act.put, List.setIfInBounds_toArray, List.set_cons_zero, List.set_cons_succ]
            refine wpAnyH_done (by kernel_rfl) ?_ _
            exact by rw [← hv5]; exact hQ V1 V2 V4 s l2 ra2 rc2 _ hE1.out hF2.out hP1.out hb2.out.1 hG4.out.1 hG4.out.2 hB4.out
end Go.Proofs.YtgdecjacbkicmaaGreatDoor.Oct

/- Layer 10 (patch): the program's reading: an operation. -/
namespace Go.Proofs.YtgdecjacbkicmaaGreatDoor.Oct
open Go.RowKit
set_option maxRecDepth 100000
set_option linter.unusedSimpArgs false
set_option linter.unusedVariables false

/-- so many were read, in a row -/
def RepI {α : Type} (f : List UInt8 → Option (α × List UInt8)) (n : Nat) (l0 : List UInt8) (i : Nat) (xs : List α) (l : List UInt8) : Prop := i ≤ n ∧ xs.length = i ∧ rep f n l0 = (rep f (n - i) l).map fun y => (xs ++ y.1, y.2)
theorem RepI.start {α : Type} (f : List UInt8 → Option (α × List UInt8)) (n : Nat) (l0 : List UInt8) : RepI f n l0 0 [] l0 := by
  refine ⟨Nat.zero_le _, rfl, ?_⟩
  rw [Nat.sub_zero]
  cases rep f n l0 with
  | none => rfl
  | some y => rfl
theorem RepI.none {α : Type} {f : List UInt8 → Option (α × List UInt8)} {n i : Nat} {l0 l : List UInt8} {xs : List α} (h : RepI f n l0 i xs l) (hi : i < n) (hf : f l = none) : rep f n l0 = none := by
  rw [h.2.2]
  obtain ⟨m, hm⟩ : ∃ m, n - i = m + 1 := ⟨n - i - 1, by omega⟩
  rw [hm]
  unfold rep
  rw [hf]
  rfl
theorem RepI.next {α : Type} {f : List UInt8 → Option (α × List UInt8)} {n i : Nat} {l0 l l2 : List UInt8} {xs : List α} {x : α} (h : RepI f n l0 i xs l) (hi : i < n) (hf : f l = some (x, l2)) : RepI f n l0 (i + 1) (xs ++ [x]) l2 := by
  refine ⟨hi, by rw [List.length_append, h.2.1]; rfl, ?_⟩
  rw [h.2.2]
  obtain ⟨m, hm⟩ : ∃ m, n - i = m + 1 := ⟨n - i - 1, by omega⟩
  have hm2 : n - (i + 1) = m := by omega
  rw [hm, hm2]
  conv => lhs; unfold rep
  rw [hf]
  simp only [Option.bind_some]
  cases rep f m l2 with
  | none => rfl
  | some y => simp
theorem RepI.done {α : Type} {f : List UInt8 → Option (α × List UInt8)} {n : Nat} {l0 l : List UInt8} {xs : List α} (h : RepI f n l0 n xs l) : rep f n l0 = some (xs, l) := by
  rw [h.2.2, Nat.sub_self]
  simp [rep]
/-- lines of an operation lie in a row of texts -/
def StG (w : World) (o : OpV) : Prop := Strs w o.la o.ln o.ts ∧ (0 < o.ln → ∃ b off cur, o.la = some ⟨b, off, none⟩ ∧ w.heap[b]? = some (.cells cur 9 (0, 0)))
theorem StG.fk {S : List TypeId} {B : Nat} {w w' : World} {o : OpV} (h : StG w o) (k : Fk S B w w') (hs : 9 ∉ S) : StG w' o := by
  refine ⟨⟨h.1.1, fun hp => ?_⟩, fun hp => ?_⟩
  · obtain ⟨b, off, cur, e, hb⟩ := h.2 hp
    obtain ⟨b', off', e1, e2, e3⟩ := h.1.2 hp
    rw [e1] at e
    cases e
    have hk := k.typ _ _ _ _ hb hs
    refine ⟨_, _, e1, Nat.lt_of_lt_of_le e2 k.size, fun i c hc => ?_⟩
    rw [← e3 i c hc]
    unfold World.cell?
    simp only [hk]
  · obtain ⟨b, off, cur, e, hb⟩ := h.2 hp
    exact ⟨b, off, cur, e, (k.typ b _ _ _ hb hs).trans hb⟩
theorem StG.below {w w' : World} {o : OpV} (h : StG w o) (hb : Below w.heap.size w w') : StG w' o := h.fk (Fk.of_below (S := []) (B := w.heap.size) hb (Nat.le_refl _)) (by simp)
theorem strs_own {w : World} {B n lc : Nat} {la : Option Addr} {ts : List BA} (h : w.ownsRow B 9 1 (.slice la n lc) n (strC ts)) (hl : ts.length = n) : Strs w la n ts ∧ (0 < n → ∃ b off cur, la = some ⟨b, off, none⟩ ∧ w.heap[b]? = some (.cells cur 9 (0, 0))) ∧ n ≤ lc ∧ lc ≤ maxLen := by
  rcases h.2 with ⟨e, h0⟩ | ⟨g', cap, cur, e, _, hb, h2, h3, h4, h5⟩
  · cases e
    exact ⟨⟨hl, fun hp => absurd hp (by omega)⟩, fun hp => absurd hp (by omega), Nat.le_refl _, by unfold maxLen; omega⟩
  · cases e
    refine ⟨⟨hl, fun _ => ⟨g', 0, rfl, (Array.getElem?_eq_some_iff.1 hb).1, fun i x hx => ?_⟩⟩, fun _ => ⟨g', 0, cur, rfl, hb⟩, h2, h3⟩
    have hc : (strC ts)[i]? = some (.string x) := by unfold strC; rw [List.getElem?_map, hx]; rfl
    rw [← h5, List.getElem?_take] at hc
    split at hc
    · have hk : Blk w g' 9 cur.toList := by unfold Blk; rw [hb]
      rw [Nat.zero_add]
      exact hk.cell hc
    · cases hc
theorem put_ln {o : OpV} (hu : o.up.ok) (hd : o.dn.ok) (la : Option Addr) (ln lc : Nat) (ts : List BA) : ({ o with la := la, ln := ln, lc := lc, ts := ts } : OpV).cells = o.cells.set 68 (.slice la ln lc) := by
  show [iv o.kind, .string o.path] ++ (o.up.cells ++ (o.dn.cells ++ [.slice la ln lc])) = ([iv o.kind, .string o.path] ++ (o.up.cells ++ (o.dn.cells ++ [Value.slice o.la o.ln o.lc]))).set 68 _
  rw [List.set_append_right _ _ (by show 2 ≤ 68; omega), List.set_append_right _ _ (by rw [Vx.len hu]; show 33 ≤ 66; omega), List.set_append_right _ _ (by rw [Vx.len hu, Vx.len hd]; show 33 ≤ 33; omega), Vx.len hu, Vx.len hd]
  rfl
theorem put_up {o : OpV} (hu : o.up.ok) (u : Vx) (h : u.ok) : ({ o with up := u } : OpV).cells = o.cells.take 2 ++ u.cells ++ o.cells.drop (2 + u.cells.length) := by
  show [iv o.kind, .string o.path] ++ (u.cells ++ (o.dn.cells ++ [.slice o.la o.ln o.lc])) = ([iv o.kind, .string o.path] ++ (o.up.cells ++ (o.dn.cells ++ [Value.slice o.la o.ln o.lc]))).take 2 ++ u.cells ++ ([iv o.kind, .string o.path] ++ (o.up.cells ++ (o.dn.cells ++ [Value.slice o.la o.ln o.lc]))).drop (2 + u.cells.length)
  rw [← List.drop_drop, Vx.len h]
  show _ = [iv o.kind, .string o.path] ++ u.cells ++ (o.up.cells ++ (o.dn.cells ++ [Value.slice o.la o.ln o.lc])).drop 33
  rw [← Vx.len hu, List.drop_left, List.append_assoc]
theorem put_dn {o : OpV} (hu : o.up.ok) (hd : o.dn.ok) (u : Vx) (h : u.ok) : ({ o with dn := u } : OpV).cells = o.cells.take 35 ++ u.cells ++ o.cells.drop (35 + u.cells.length) := by
  obtain ⟨X, hX⟩ : ∃ X, [iv o.kind, Value.string o.path] ++ o.up.cells = X := ⟨_, rfl⟩
  have hXl : X.length = 35 := by rw [← hX, List.length_append, Vx.len hu]; rfl
  show [iv o.kind, .string o.path] ++ (o.up.cells ++ (u.cells ++ [.slice o.la o.ln o.lc])) = ([iv o.kind, .string o.path] ++ (o.up.cells ++ (o.dn.cells ++ [Value.slice o.la o.ln o.lc]))).take 35 ++ u.cells ++ ([iv o.kind, .string o.path] ++ (o.up.cells ++ (o.dn.cells ++ [Value.slice o.la o.ln o.lc]))).drop (35 + u.cells.length)
  rw [← List.append_assoc, ← List.append_assoc [iv o.kind, Value.string o.path], hX, ← List.drop_drop, ← hXl, List.take_left, List.drop_left, Vx.len h, ← Vx.len hd, List.drop_left, List.append_assoc]
/-- behind a store into a block of the call's own -/
theorem Pg.put {w w1 w2 : World} {B g r : Nat} {l : List UInt8} {da : Option Addr} {dn dc : Nat} {D : List Hs} {d : Nat} {t : TypeId} {L : List Value} (h : Pg B w1 g r l da dn dc D) (hf : Fk [92] B w w1) (hk : Blk w1 d t L) (hg : w1.grownBy w2 (some d)) (hd : w.heap.size ≤ d) (hB : B ≤ w.heap.size) (ht : t ≠ 92 ∧ t ≠ 5 ∧ t ≠ 72 ∧ t ≠ 37) : Fk [92] B w w2 ∧ Pg B w2 g r l da dn dc D := by
  have hfs : Fk [t] B w1 w2 := Fk.of_blk hg hk (by omega) (by simp)
  exact ⟨hf.far hg hd hB, h.fk hfs (by simpa using Ne.symm ht.1) (by simpa using Ne.symm ht.2.1) (by simpa using Ne.symm ht.2.2.1) (by simpa using Ne.symm ht.2.2.2)⟩
def OE (o : OpV) (e : Ending) (w : World) : Prop := ∃ q : OpV, e = .returned (.agg q.cells.toArray) ∧ q.strip = o.strip ∧ q.ok ∧ StG w q
set_option maxHeartbeats 8000000 in
theorem op86 {w : World} {B g r : Nat} {l : List UInt8} {da : Option Addr} {dn dc : Nat} {D : List Hs} (h : Pg B w g r l da dn dc D) : Calls Tryz.prog 54 #[.pointer (some ⟨g, 0, none⟩)] w fun e w' => RP B g r da dn dc D w (oO 64 200 D l) OE e w' := by
  obtain ⟨Z, hZ, HZ⟩ := zero51
  obtain ⟨d2, hd2⟩ : ∃ d, w.heap.size = d := ⟨_, rfl⟩
  obtain ⟨Wa, hWa⟩ : ∃ W, w.alloc (.cells Z.toArray 46) = W := ⟨_, rfl⟩
  obtain ⟨d3, hd3⟩ : ∃ d, Wa.heap.size = d := ⟨_, rfl⟩
  obtain ⟨W, hW⟩ : ∃ W, Wa.alloc (.cells Z.toArray 46) = W := ⟨_, rfl⟩
  have b1 : Below w.heap.size w Wa := by rw [← hWa]; exact below_al _ _
  have b2 : Below Wa.heap.size Wa W := by rw [← hW]; exact below_al _ _
  have k2a : Blk Wa d2 46 Z := by rw [← hWa, ← hd2]; exact Blk.new w _ _
  have k2 : Blk W d2 46 Z := k2a.below b2 k2a.lt
  have k3 : Blk W d3 46 o00.cells := by rw [← HZ.out, ← hW, ← hd3]; exact Blk.new Wa _ _
  have HZL : Hid (Z.length = 69) := by show _ = _; rw [HZ.out]; exact OpV.len o00_ok
  have HP : Hid (Pg B w g r l da dn dc D ∧ w.heap.size = d2 ∧ d2 < d3 ∧ B ≤ w.heap.size) := ⟨h, hd2, by have := k2a.lt; omega, h.lt.2.1⟩
  have H0 : Hid (Fk [92] B w W ∧ Pg B W g r l da dn dc D ∧ Blk W d2 46 Z ∧ Blk W d3 46 o00.cells) := ⟨Fk.of_below (below_tr b1 b2) h.lt.2.1, h.below (below_tr b1 b2), k2, k3⟩
  clear h b1 b2 k2a k2 k3 HZ
  go_enter Tryz.func54, Tryz.ntmps54
  go_wp2_with fail
  refine (mark82 H0.out.2.1).mono ?_
  rintro e W1 ⟨hf, (⟨hn, hp⟩ | ⟨c, l1, hc, rfl, hp1⟩)⟩
  · have HN : Hid (oO 64 200 D l = none ∧ Fk [92] B w W1) := by
      refine ⟨?_, H0.out.1.trans hf⟩
      cases l with
      | nil => rfl
      | cons x y => cases hn
    clear hf hn
    rw [pan] at hp
    subst hp
    go_wp2
    exact ⟨rfl, HN.out.2, .inl ⟨HN.out.1, rfl⟩⟩
  have hl : l = c :: l1 := by
    cases l with
    | nil => cases hc
    | cons x y => cases hc; rfl
  have k3 : Blk W1 d3 46 o00.cells := H0.out.2.2.2.fk hf (by decide)
  have k2 : Blk W1 d2 46 Z := H0.out.2.2.1.fk hf (by decide)
  have e0 : W1.cell? ⟨d3, 0, none⟩ = some (iv 0) := k3.cell rfl
  have f0 := k3.free 0
  obtain ⟨W2, hW2⟩ : ∃ W2, W1.setCell ⟨d3, 0, none⟩ (iv (c.toNat : Int)) = W2 := ⟨_, rfl⟩
  have hg2 : W1.grownBy W2 (some d3) := by rw [← hW2]; exact grown_setCell _ _ _ _
  have hpp := hp1.put (H0.out.1.trans hf) k3 hg2 (by have := HP.out; omega) HP.out.2.2.2 (by decide)
  have H2 : Hid (Fk [92] B w W2 ∧ Pg B W2 g r l1 da dn dc D ∧ Blk W2 d2 46 Z ∧ Blk W2 d3 46 ({ o00 with kind := (c.toNat : Int) } : OpV).cells ∧ l = c :: l1) := ⟨hpp.1, hpp.2, k2.kept hg2 (by have := HP.out; simp; omega), by have h := k3.set 0 (iv (c.toNat : Int)); rw [hW2] at h; exact h, hl⟩
  clear hf hc hl hp1 k3 k2 hg2 hpp H0 hW hWa
  go_wp2_with fail
  refine (text83 H2.out.2.1 64 (by omega)).mono ?_
  rintro e W3 ⟨hf, (⟨hn, hp⟩ | ⟨s, l2, hs, ⟨rfl, hss⟩, hp1⟩)⟩
  · have HN : Hid (oO 64 200 D l = none ∧ Fk [92] B w W3) := by
      refine ⟨?_, H2.out.1.trans hf⟩
      rw [H2.out.2.2.2.2]
      unfold oO
      simp only [hn, Option.bind_none]
    clear hf hn hW2 e0 f0
    rw [pan] at hp
    subst hp
    go_wp2
    exact ⟨rfl, HN.out.2, .inl ⟨HN.out.1, rfl⟩⟩
  have k3 : Blk W3 d3 46 ({ o00 with kind := (c.toNat : Int) } : OpV).cells := H2.out.2.2.2.1.fk hf (by decide)
  have k2 : Blk W3 d2 46 Z := H2.out.2.2.1.fk hf (by decide)
  clear e0 f0 hW2
  have e1 : W3.cell? ⟨d3, 1, none⟩ = some (.string e0) := k3.cell rfl
  have f1 := k3.free 1
  obtain ⟨W4, hW4⟩ : ∃ W2, W3.setCell ⟨d3, 1, none⟩ (.string s) = W2 := ⟨_, rfl⟩
  have hg2 : W3.grownBy W4 (some d3) := by rw [← hW4]; exact grown_setCell _ _ _ _
  have hpp := hp1.put (H2.out.1.trans hf) k3 hg2 (by have := HP.out; omega) HP.out.2.2.2 (by decide)
  have H4 : Hid (Fk [92] B w W4 ∧ Pg B W4 g r l2 da dn dc D ∧ Blk W4 d2 46 Z ∧ Blk W4 d3 46 ({ o00 with kind := (c.toNat : Int), path := s } : OpV).cells ∧ l = c :: l1 ∧ tT 64 l1 = some (s, l2) ∧ s.size ≤ 64) := ⟨hpp.1, hpp.2, k2.kept hg2 (by have := HP.out; simp; omega), by have h := k3.set 1 (.string s); rw [hW4] at h; exact h, H2.out.2.2.2.2, hs, hss⟩
  clear hf hs hss hp1 k3 k2 hg2 hpp H2
  go_wp2_with fail
  refine (vertex106 H4.out.2.1).mono ?_
  rintro e W5 ⟨hf, (⟨hn, hp⟩ | ⟨u, l3, hu, ⟨rfl, huo⟩, hp1⟩)⟩
  · have HN : Hid (oO 64 200 D l = none ∧ Fk [92] B w W5) := by
      refine ⟨?_, H4.out.1.trans hf⟩
      rw [H4.out.2.2.2.2.1]
      unfold oO
      simp only [H4.out.2.2.2.2.2.1, Option.bind_some, hn, Option.bind_none]
    clear hf hn e1 f1 hW4
    rw [pan] at hp
    subst hp
    go_wp2
    exact ⟨rfl, HN.out.2, .inl ⟨HN.out.1, rfl⟩⟩
  have H5 : Hid (Fk [92] B w W5 ∧ Pg B W5 g r l3 da dn dc D ∧ Blk W5 d2 46 Z ∧ Blk W5 d3 46 ({ o00 with kind := (c.toNat : Int), path := s } : OpV).cells ∧ l = c :: l1 ∧ tT 64 l1 = some (s, l2) ∧ s.size ≤ 64 ∧ vV D l2 = some (u, l3) ∧ u.ok) := ⟨H4.out.1.trans hf, hp1, H4.out.2.2.1.fk hf (by decide), H4.out.2.2.2.1.fk hf (by decide), H4.out.2.2.2.2.1, H4.out.2.2.2.2.2.1, H4.out.2.2.2.2.2.2, hu, huo⟩
  have HOL : Hid (({ o00 with kind := (c.toNat : Int), path := s } : OpV).cells.length = 69) := by
    show (o00.cells.set 0 _ |>.set 1 _).length = 69
    rw [List.length_set, List.length_set]
    exact OpV.len o00_ok
  clear hf hu huo hp1 e1 f1 hW4 H4
  go_wp2_with (with_reducible change wpList _ _ _ ({ dst := none, op := Op.store 43 _ _, type := _, pos := _, after := _, guard := _ } :: _) _ _; refine Hid.out ?_)
  show wpList _ _ _ _ _ _
  refine wpList_store_blk rfl 43 (.tmp 12) (.tmp 11) rfl d3 2 46 ({ o00 with kind := (c.toNat : Int), path := s } : OpV).cells u.cells rfl rfl H5.out.2.2.2.1 (by rw [HOL.out, Vx.len H5.out.2.2.2.2.2.2.2.2]; omega) (info49 H5.out.2.2.2.2.2.2.2.2) (Vx.one _) ?_
  intro W6 hx hgs
  have H6 : Hid (Fk [92] B w W6 ∧ Pg B W6 g r l3 da dn dc D ∧ Blk W6 d2 46 Z ∧ Blk W6 d3 46 ({ o00 with kind := (c.toNat : Int), path := s, up := u } : OpV).cells ∧ l = c :: l1 ∧ tT 64 l1 = some (s, l2) ∧ s.size ≤ 64 ∧ vV D l2 = some (u, l3) ∧ u.ok) := by
    have hpp := H5.out.2.1.put H5.out.1 H5.out.2.2.2.1 hgs.out (by have := HP.out; omega) HP.out.2.2.2 (by decide)
    refine ⟨hpp.1, hpp.2, H5.out.2.2.1.kept hgs.out (by have := HP.out; simp; omega), ?_, H5.out.2.2.2.2⟩
    have e := put_up (o := { o00 with kind := (c.toNat : Int), path := s }) vTop_ok u H5.out.2.2.2.2.2.2.2.2
    rw [← e] at hx
    exact hx.out
  have c0 : W6.cell? ⟨d3, 0, none⟩ = some (iv (c.toNat : Int)) := H6.out.2.2.2.1.cell rfl
  clear hx hgs H5
  by_cases hk : c = 1
  · subst hk
    have e0 : (((1 : UInt8).toNat : Nat) : Int) = 1 := rfl
    rw [e0] at c0
    have HO : Hid (oO 64 200 D l = (vV D l3).bind fun d => (nN 64 d.2).bind fun m => (rep (tT 200) m.1 m.2).bind fun t => some (mkO 1 s u d.1 t.1, t.2)) := by
      show _ = _
      rw [H6.out.2.2.2.2.1]
      unfold oO
      simp only [H6.out.2.2.2.2.2.1, Option.bind_some, H6.out.2.2.2.2.2.2.2.1]
      rw [if_pos (by trivial)]
    go_wp2_with fail
    refine (vertex106 H6.out.2.1).mono ?_
    rintro e W7 ⟨hf, (⟨hn, hp⟩ | ⟨d, l4, hd, ⟨rfl, hdo⟩, hp1⟩)⟩
    · have HN : Hid (oO 64 200 D l = none ∧ Fk [92] B w W7) := ⟨by rw [HO.out, hn]; rfl, H6.out.1.trans hf⟩
      clear hf hn c0
      rw [pan] at hp
      subst hp
      go_wp2
      exact ⟨rfl, HN.out.2, .inl ⟨HN.out.1, rfl⟩⟩
    have H7 : Hid (Fk [92] B w W7 ∧ Pg B W7 g r l4 da dn dc D ∧ Blk W7 d2 46 Z ∧ Blk W7 d3 46 ({ o00 with kind := 1, path := s, up := u } : OpV).cells ∧ d.ok) := ⟨H6.out.1.trans hf, hp1, H6.out.2.2.1.fk hf (by decide), H6.out.2.2.2.1.fk hf (by decide), hdo⟩
    have HU : Hid (u.ok ∧ s.size ≤ 64 ∧ vV D l3 = some (d, l4)) := ⟨H6.out.2.2.2.2.2.2.2.2, H6.out.2.2.2.2.2.2.1, hd⟩
    have HOL : Hid (({ o00 with kind := 1, path := s, up := u } : OpV).cells.length = 69) := by
      show ([iv 1, Value.string s] ++ (u.cells ++ (vTop.cells ++ [Value.slice none 0 0]))).length = 69
      simp only [List.length_append, Vx.len HU.out.1, Vx.len vTop_ok]
      rfl
    clear hf hd hdo hp1 c0 H6
    go_wp2_with (with_reducible change wpList _ _ _ ({ dst := none, op := Op.store 43 _ _, type := _, pos := _, after := _, guard := _ } :: _) _ _; refine Hid.out ?_)
    show wpList _ _ _ _ _ _
    refine wpList_store_blk rfl 43 (.tmp 19) (.tmp 18) rfl d3 35 46 ({ o00 with kind := 1, path := s, up := u } : OpV).cells d.cells rfl rfl H7.out.2.2.2.1 (by rw [HOL.out, Vx.len H7.out.2.2.2.2]; omega) (info49 H7.out.2.2.2.2) (Vx.one _) ?_
    intro W8 hx hgs
    obtain ⟨o4, ho4⟩ : ∃ o4 : OpV, { o00 with kind := 1, path := s, up := u, dn := d } = o4 := ⟨_, rfl⟩
    have H8 : Hid (Fk [92] B w W8 ∧ Pg B W8 g r l4 da dn dc D ∧ Blk W8 d2 46 Z ∧ Blk W8 d3 46 o4.cells ∧ { o00 with kind := 1, path := s, up := u, dn := d } = o4 ∧ d.ok ∧ u.ok ∧ s.size ≤ 64) := by
      have hpp := H7.out.2.1.put H7.out.1 H7.out.2.2.2.1 hgs.out (by have := HP.out; omega) HP.out.2.2.2 (by decide)
      refine ⟨hpp.1, hpp.2, H7.out.2.2.1.kept hgs.out (by have := HP.out; simp; omega), ?_, ho4, H7.out.2.2.2.2, HU.out.1, HU.out.2.1⟩
      have e := put_dn (o := { o00 with kind := 1, path := s, up := u }) HU.out.1 vTop_ok d H7.out.2.2.2.2
      rw [← e] at hx
      rw [← ho4]
      exact hx.out
    clear hx hgs H7 HOL ho4
    go_wp2_with fail
    refine (number84 H8.out.2.1 64 (by omega)).mono ?_
    rintro e W9 ⟨hf, (⟨hn, hp⟩ | ⟨m, l5, hm, ⟨rfl, hm64⟩, hp1⟩)⟩
    · have HN : Hid (oO 64 200 D l = none ∧ Fk [92] B w W9) := ⟨by rw [HO.out, HU.out.2.2]; simp only [Option.bind_some, hn]; rfl, H8.out.1.trans hf⟩
      clear hf hn
      rw [pan] at hp
      subst hp
      go_wp2
      exact ⟨rfl, HN.out.2, .inl ⟨HN.out.1, rfl⟩⟩
    have HM : Hid (m ≤ 64 ∧ oO 64 200 D l = (rep (tT 200) m l5).bind fun t => some (mkO 1 s u d t.1, t.2)) := ⟨hm64, by rw [HO.out, HU.out.2.2]; simp only [Option.bind_some, hm]⟩
    have H9 : Hid (Fk [92] B w W9 ∧ Pg B W9 g r l5 da dn dc D ∧ Blk W9 d2 46 Z ∧ Blk W9 d3 46 o4.cells) := ⟨H8.out.1.trans hf, hp1, H8.out.2.2.1.fk hf (by decide), H8.out.2.2.2.1.fk hf (by decide)⟩
    have H8o := H8.out.2.2.2.2
    have HQ : Hid ({ o00 with kind := 1, path := s, up := u, dn := d } = o4 ∧ d.ok ∧ u.ok ∧ s.size ≤ 64) := H8o
    have qm : (m : Int) ≤ 64 := by omega
    clear hf hm hm64 hp1 H8o H8 HO
    go_wp2
    go_loopw [22] (fun x wr => ∃ i : Nat, x = iv (i : Int) ∧ (i : Int) ≤ (m : Int) ∧ Hid (∃ ts l6 la lc, RepI (tT 200) m l5 i ts l6 ∧ (∀ t ∈ ts, t.size ≤ 200) ∧ Fk [92] B w wr ∧ Pg B wr g r l6 da dn dc D ∧ Blk wr d2 46 Z ∧ Blk wr d3 46 ({ o4 with la := la, ln := i, lc := lc, ts := ts } : OpV).cells ∧ wr.ownsRow w.heap.size 9 1 (.slice la i lc) i (strC ts))) (fun x _ => m - (intOf x).toNat)
    case atStart =>
      refine ⟨0, rfl, by omega, [], l5, none, 0, RepI.start _ _ _, by simp, H9.out.1, H9.out.2.1, H9.out.2.2.1, ?_, ⟨rfl, .inl ⟨rfl, rfl⟩⟩⟩
      have e : ({ o4 with la := none, ln := 0, lc := 0, ts := [] } : OpV) = o4 := by rw [← HQ.out.1]; rfl
      rw [e]
      exact H9.out.2.2.2
    case round =>
      obtain ⟨V, hV⟩ : ∃ V, V = wr := ⟨_, rfl⟩
      subst hV
      obtain ⟨i, rfl, qi, HI0⟩ := hrel
      obtain ⟨ts, l6, la, lc, h1, h2, h3, h4, h5, h6, h7⟩ := HI0.out
      obtain ⟨hst, hty, hlc⟩ := strs_own h7 h1.2.1
      obtain ⟨o5, ho5⟩ : ∃ o5 : OpV, { o4 with la := la, ln := i, lc := lc, ts := ts } = o5 := ⟨_, rfl⟩
      rw [ho5] at h6
      have hok : o5.ok := by
        have hQ := HQ.out
        rw [← ho5, ← hQ.1]
        exact ⟨hQ.2.2.1, hQ.2.1, h1.2.1, by show i ≤ _; have := h1.1; have := HM.out.1; omega, by show s.size ≤ _; have := hQ.2.2.2; omega, fun t ht => by have := h2 t ht; omega, hlc⟩
      have HI : Hid (RepI (tT 200) m l5 i ts l6 ∧ (∀ t ∈ ts, t.size ≤ 200) ∧ Fk [92] B w V ∧ Pg B V g r l6 da dn dc D ∧ Blk V d2 46 Z ∧ Blk V d3 46 o5.cells ∧ V.ownsRow w.heap.size 9 1 (.slice la i lc) i (strC ts) ∧ { o4 with la := la, ln := i, lc := lc, ts := ts } = o5 ∧ o5.ok ∧ StG V o5) := ⟨h1, h2, h3, h4, h5, h6, h7, ho5, hok, by rw [← ho5]; exact ⟨hst, hty⟩⟩
      clear HI0 h1 h2 h3 h4 h5 h6 h7 hst hty hlc ho5 hok
      by_cases hi : i < m
      · have q1 : (i : Int) < (m : Int) := by omega
        have HIM : Hid (i < m) := hi
        have HLc : Hid (o5.cells[68]? = some (.slice la i lc)) := by
          have h := OpV.c68 HI.out.2.2.2.2.2.2.2.2.1
          rw [← HI.out.2.2.2.2.2.2.2.1] at h ⊢
          exact h
        have HLo : Hid (B ≤ w.heap.size ∧ w.heap.size ≤ V.heap.size) := ⟨HP.out.2.2.2, HI.out.2.2.1.size⟩
        have HLb : Hid (B ≤ d3) := by have := HP.out; show _ ≤ _; omega
        have HPg : Hid (Pg B V g r l6 da dn dc D) := HI.out.2.2.2.1
        have HBk : Hid (Blk V d3 46 o5.cells) := HI.out.2.2.2.2.2.1
        have HOw : Hid (V.ownsRow w.heap.size 9 1 (.slice la i lc) i (strC ts)) := HI.out.2.2.2.2.2.2.1
        have HRn : Hid (i ≤ 64) := by have := HM.out.1; show _ ≤ _; omega
        clear hi qi
        go_wp2_with fail
        refine ol10 ?_ HLc HLo HLb HPg HBk HOw HRn ?_
        · rintro c a' V1 hdf rfl hfk hn
          refine ⟨hdf, HI.out.2.2.1.trans hfk, .inl ⟨?_, rfl⟩⟩
          rw [HM.out.2, HI.out.1.none HIM.out hn]
          rfl
        · intro Vc Vm Va t l7 ra2 rc2 z ht hfk hpg hbb hgr how hbk
          go_wp2
          go_roundw
          case rel =>
            refine ⟨i + 1, by simp, by have := HIM.out; omega, ts ++ [t], l7, ra2, rc2, HI.out.1.next HIM.out ht.1, ?_, ?_⟩
            · intro x hx
              rcases List.mem_append.1 hx with h | h
              · exact HI.out.2.1 x h
              · rw [List.mem_singleton.1 h]; exact ht.2
            have hgs := grown_setCell Va d3 68 (.slice ra2 (i + 1) rc2)
            have hfm : Fk [92] B w Vm := HI.out.2.2.1.trans hfk
            have hpm : Pg B Vm g r l7 da dn dc D := hpg.below hbb
            have hO2 : Vm.ownsRow w.heap.size 9 1 (.slice la i lc) i (strC ts) := own_fk (own_fk HOw.out hfk (by decide)) (Fk.refl [] 0 Vm) (by simp)
            have hfa : Fk [9] B Vm Va := fk_own hO2 hgr HLo.out.1 (by have := HLo.out; have := hfk.size; omega) (by simp)
            have hfw : Fk [92] B w Va := by
              cases hob : (Value.slice la i lc).ownBlock with
              | none =>
                rw [hob] at hgr
                exact hfm.trans (Fk.of_grown hgr (by have := HLo.out; have := hfk.size; omega) (fun g e => by cases e))
              | some k =>
                rw [hob] at hgr
                refine hfm.far hgr ?_ HP.out.2.2.2
                rcases hO2.2 with ⟨e, _⟩ | ⟨g', cap, cur, e, hlo, _⟩
                · rw [e] at hob; cases hob
                · rw [e] at hob; cases hob; exact hlo
            have hfs : Fk [46] B Va (Va.setCell ⟨d3, 68, none⟩ (.slice ra2 (i + 1) rc2)) := Fk.of_blk hgs hbk HLb.out (by simp)
            have hpp := (hpm.fk hfa (by decide) (by decide) (by decide) (by decide)).put hfw hbk hgs (by have := HP.out; omega) HP.out.2.2.2 (by decide)
            refine ⟨hpp.1, hpp.2, ?_, ?_, ?_⟩
            · exact (((HI.out.2.2.2.2.1.fk hfk (by decide)).fk hfa (by decide))).kept hgs (by have := HP.out; simp; omega)
            · have hs := hbk.set 68 (.slice ra2 (i + 1) rc2)
              have hu5 := HI.out.2.2.2.2.2.2.2.2.1
              have e := put_ln (o := o5) hu5.1 hu5.2.1 ra2 (i + 1) rc2 (ts ++ [t])
              rw [← e, ← HI.out.2.2.2.2.2.2.2.1] at hs
              exact hs
            · rw [strC_app]
              exact own_fk how hfs (by decide)
          case measure => have := HIM.out; simp only [intOf]; omega
      · have q1 : (m : Int) ≤ (i : Int) := by omega
        obtain rfl : i = m := by have := HI.out.1.1; omega
        have HX : Hid (Blk V d3 46 o5.cells ∧ o5.ok ∧ Blk V d2 46 Z ∧ Fk [92] B w V ∧ Pg B V g r l6 da dn dc D ∧ oO 64 200 D l = some (mkO 1 s u d ts, l6) ∧ o5.strip = (mkO 1 s u d ts).strip ∧ StG V o5) := by
          refine ⟨HI.out.2.2.2.2.2.1, HI.out.2.2.2.2.2.2.2.2.1, HI.out.2.2.2.2.1, HI.out.2.2.1, HI.out.2.2.2.1, by rw [HM.out.2, HI.out.1.done]; rfl, ?_, HI.out.2.2.2.2.2.2.2.2.2⟩
          rw [← HI.out.2.2.2.2.2.2.2.1, ← HQ.out.1]
          unfold OpV.strip mkO
          simp only [HI.out.1.2.1]
          rfl
        clear hi qi HI HM qm
        go_wp2_with (with_reducible change wpList _ _ _ ({ dst := some 32, op := _, type := _, pos := _, after := _, guard := _ } :: _) _ _; refine Hid.out ?_)
        show wpList _ _ _ _ _ _
        refine wpList_load_mid rfl 46 (.tmp 3) rfl d3 0 rfl (o5).cells _ HX.out.1.range0 Tryz.underlying46 rfl (info51 HX.out.2.1) ?_
        go_wp2_with (with_reducible change wpList _ _ _ ({ dst := none, op := Op.store 46 _ _, type := _, pos := _, after := _, guard := _ } :: _) _ _; refine Hid.out ?_)
        show wpList _ _ _ _ _ _
        refine wpList_store_blk rfl 46 (.tmp 2) (.tmp 32) rfl d2 0 46 Z (o5).cells rfl rfl HX.out.2.2.1 (by rw [HZL.out, OpV.len HX.out.2.1]; omega) (info51 HX.out.2.1) (OpV.one _) ?_
        intro W9 hx hgs
        have HF : Hid (Blk W9 d2 46 (o5).cells ∧ RP B g r da dn dc D w (oO 64 200 D l) OE (.returned (.agg (o5).cells.toArray)) W9) := by
          have hpp := HX.out.2.2.2.2.1.put HX.out.2.2.2.1 HX.out.2.2.1 hgs.out (by have := HP.out; omega) HP.out.2.2.2 (by decide)
          have hf : Fk [46] B V W9 := Fk.of_blk hgs.out HX.out.2.2.1 (by have := HP.out; omega) (by simp)
          exact ⟨blk_all hx.out (by rw [HZL.out, OpV.len HX.out.2.1]), hpp.1, .inr ⟨_, _, HX.out.2.2.2.2.2.1, ⟨_, rfl, HX.out.2.2.2.2.2.2.1, HX.out.2.1, HX.out.2.2.2.2.2.2.2.fk hf (by decide)⟩, hpp.2⟩⟩
        have HOK : Hid ((o5).ok) := HX.out.2.1
        clear hx hgs HX
        go_wp2
        exact ret_c rfl rfl rfl HF.out.1 Tryz.underlying46 rfl (info51 HOK.out) HF.out.2
  have hne : ((c.toNat : Nat) : Int) ≠ 1 := fun e => hk (UInt8.toNat_inj.1 (by show c.toNat = 1; omega))
  have ebn : (((c.toNat : Nat) : Int) != 1) = true := by simpa using hne
  have ebq : (((c.toNat : Nat) : Int) == 1) = false := by simpa using hne
  obtain ⟨o4, ho4⟩ : ∃ o4 : OpV, { o00 with kind := (c.toNat : Int), path := s, up := u } = o4 := ⟨_, rfl⟩
  have HX : Hid (Blk W6 d3 46 o4.cells ∧ o4.ok ∧ Blk W6 d2 46 Z ∧ Fk [92] B w W6 ∧ Pg B W6 g r l3 da dn dc D ∧ oO 64 200 D l = some (mkO c s u vTop [], l3) ∧ o4.strip = (mkO c s u vTop []).strip ∧ StG W6 o4) := by
    rw [← ho4]
    refine ⟨H6.out.2.2.2.1, ⟨H6.out.2.2.2.2.2.2.2.2, vTop_ok, rfl, by show 0 ≤ _; omega, by show s.size ≤ _; have := H6.out.2.2.2.2.2.2.1; omega, (fun t ht => by cases ht), Nat.le_refl _, by show 0 ≤ maxLen; omega⟩, H6.out.2.2.1, H6.out.1, H6.out.2.1, ?_, rfl, ⟨⟨rfl, fun hp => absurd hp (by show ¬ 0 < 0; omega)⟩, fun hp => absurd hp (by show ¬ 0 < 0; omega)⟩⟩
    rw [H6.out.2.2.2.2.1]
    unfold oO
    simp only [H6.out.2.2.2.2.2.1, Option.bind_some, H6.out.2.2.2.2.2.2.2.1]
    rw [if_neg hk]
  clear hk hne ho4 H6
  go_wp2_with (with_reducible change wpList _ _ _ ({ dst := some 16, op := _, type := _, pos := _, after := _, guard := _ } :: _) _ _; refine Hid.out ?_)
  show wpList _ _ _ _ _ _
  refine wpList_load_mid rfl 46 (.tmp 3) rfl d3 0 rfl (o4).cells _ HX.out.1.range0 Tryz.underlying46 rfl (info51 HX.out.2.1) ?_
  go_wp2_with (with_reducible change wpList _ _ _ ({ dst := none, op := Op.store 46 _ _, type := _, pos := _, after := _, guard := _ } :: _) _ _; refine Hid.out ?_)
  show wpList _ _ _ _ _ _
  refine wpList_store_blk rfl 46 (.tmp 2) (.tmp 16) rfl d2 0 46 Z (o4).cells rfl rfl HX.out.2.2.1 (by rw [HZL.out, OpV.len HX.out.2.1]; omega) (info51 HX.out.2.1) (OpV.one _) ?_
  intro W9 hx hgs
  have HF : Hid (Blk W9 d2 46 (o4).cells ∧ RP B g r da dn dc D w (oO 64 200 D l) OE (.returned (.agg (o4).cells.toArray)) W9) := by
    have hpp := HX.out.2.2.2.2.1.put HX.out.2.2.2.1 HX.out.2.2.1 hgs.out (by have := HP.out; omega) HP.out.2.2.2 (by decide)
    have hf : Fk [46] B W6 W9 := Fk.of_blk hgs.out HX.out.2.2.1 (by have := HP.out; omega) (by simp)
    exact ⟨blk_all hx.out (by rw [HZL.out, OpV.len HX.out.2.1]), hpp.1, .inr ⟨_, _, HX.out.2.2.2.2.2.1, ⟨_, rfl, HX.out.2.2.2.2.2.2.1, HX.out.2.1, HX.out.2.2.2.2.2.2.2.fk hf (by decide)⟩, hpp.2⟩⟩
  have HOK : Hid ((o4).ok) := HX.out.2.1
  clear hx hgs HX
  go_wp2
  exact ret_c rfl rfl rfl HF.out.1 Tryz.underlying46 rfl (info51 HOK.out) HF.out.2
end Go.Proofs.YtgdecjacbkicmaaGreatDoor.Oct

/- Layer 10 (patch): the program's reading: a hash more, an operation more. -/
namespace Go.Proofs.YtgdecjacbkicmaaGreatDoor.Oct
open Go.RowKit
set_option maxRecDepth 100000
set_option linter.unusedSimpArgs false
set_option linter.unusedVariables false

set_option maxRecDepth 100000 in
set_option maxHeartbeats 4000000 in
theorem pl8 {Q : Exit → Act → World → Prop} {x1 x2 x3 x4 x5 x6 x7 x8 x9 x10 x11 x12 x13 x14 x15 x16 x17 x18 x19 x20 x21 x22 x23 x24 x25 x26 x27 x28 x29 x30 x31 x32 x33 x34 x35 x36 x37 x38 x39 x40 x41 x42 x43 x44 x45 x46 x47 x48 x49 x50 : Value} {ds : List Deferred} {A : World} {B g r lo dn dc rn rc : Nat} {l : List UInt8} {da ra : Option Addr} {D : List Hs} {L C : List Value} 
    (hPN : ∀ c a' w', a'.defers = ds → c = [{ v := .iface 29 (.int .i64 103), recovered := false }] → Fk [92] B A w' → hH l = none → Q (.panic c) a' w') (HLc : Hid (L[1]? = some (.slice ra rn rc))) (HLo : Hid (B ≤ lo ∧ lo ≤ A.heap.size)) (HLb : Hid (B ≤ g)) (HPg : Hid (Pg B A g r l da dn dc D)) (HBk : Hid (Blk A g 72 L)) (HOw : Hid (A.ownsRow lo 37 32 (.slice ra rn rc) rn C)) (HRn : Hid (rn ≤ 64))
    (hQ : ∀ Vc Vm Va (x : Hs) (l2 : List UInt8) ra2 rc2 z, (hH l = some (x, l2) ∧ x.length = 32) → Fk [92] B A Vm → Pg B Vc g r l2 da dn dc D → Below Vc.heap.size Vc Vm → Vm.grownBy Va (Value.slice ra rn rc).ownBlock → Va.ownsRow lo 37 32 (.slice ra2 (rn + 1) rc2) (rn + 1) (C ++ U x) → Blk Va g 72 L → Q .normal { tmps := #[.pointer (some ⟨g, 0, none⟩), x1, x2, x3, x4, x5, x6, x7, x8, x9, x10, x11, x12, x13, x14, x15, x16, x17, x18, x19, x20, .pointer (some ⟨g, 0, none⟩), .pointer (some ⟨g, 0, none⟩), .pointer (some ⟨g, 0, none⟩), .pointer (some ⟨g, 1, none⟩), .slice ra rn rc, .pointer (some ⟨g, 0, none⟩), .agg (U x).toArray, .slice (some ⟨z, 0, none⟩) 1 1, .slice ra2 (rn + 1) rc2, .pointer (some ⟨g, 0, none⟩), .pointer (some ⟨g, 1, none⟩), x32, x33, x34, x35, x36, x37, x38, x39, x40, x41, x42, x43, x44, x45, x46, x47, x48, x49, x50], defers := ds } (Va.setCell ⟨g, 1, none⟩ (.slice ra2 (rn + 1) rc2))) :
    (Code.region 8 #[{ dst := some 21, op := Op.move (Operand.tmp 0), type := 93, pos := "code.go:126", after := #[], guard := none }, { dst := some 22, op := Op.move (Operand.tmp 0), type := 93, pos := "code.go:126", after := #[], guard := none }, { dst := some 23, op := Op.nilCheck (Operand.tmp 22), type := 0, pos := "code.go:126", after := #[{ on := 1, ground := Ground.data }], guard := none }, { dst := some 24, op := Op.fieldAddr 72 (Operand.tmp 23) 1, type := 0, pos := "code.go:126", after := #[{ on := 2, ground := Ground.data }], guard := none }, { dst := some 25, op := Op.load 22 (Operand.tmp 24), type := 22, pos := "code.go:126", after := #[{ on := 3, ground := Ground.data }], guard := none }, { dst := some 26, op := Op.move (Operand.tmp 0), type := 93, pos := "code.go:126", after := #[], guard := none }, { dst := some 27, op := Op.call { callee := Callee.value (Operand.func 53), args := #[Operand.tmp 26], argTypes := #[93] }, type := 37, pos := "code.go:126", after := #[{ on := 5, ground := Ground.data }], guard := none }, { dst := some 28, op := Op.buildSlice 22 1 #[(0, Operand.tmp 27)], type := 22, pos := "code.go:126", after := #[{ on := 6, ground := Ground.data }], guard := none }, { dst := some 29, op := Op.call { callee := Callee.builtin Builtin.append, args := #[Operand.tmp 25, Operand.tmp 28], argTypes := #[22, 22] }, type := 22, pos := "code.go:126", after := #[{ on := 4, ground := Ground.data }, { on := 7, ground := Ground.data }, { on := 6, ground := Ground.chain }], guard := none }, { dst := some 30, op := Op.nilCheck (Operand.tmp 21), type := 0, pos := "code.go:126", after := #[{ on := 0, ground := Ground.data }, { on := 0, ground := Ground.phase }, { on := 1, ground := Ground.phase }, { on := 2, ground := Ground.phase }, { on := 3, ground := Ground.phase }, { on := 4, ground := Ground.phase }, { on := 5, ground := Ground.phase }, { on := 6, ground := Ground.phase }, { on := 7, ground := Ground.phase }, { on := 8, ground := Ground.phase }], guard := none }, { dst := some 31, op := Op.fieldAddr 72 (Operand.tmp 30) 1, type := 0, pos := "code.go:126", after := #[{ on := 9, ground := Ground.data }, { on := 0, ground := Ground.phase }, { on := 1, ground := Ground.phase }, { on := 2, ground := Ground.phase }, { on := 3, ground := Ground.phase }, { on := 4, ground := Ground.phase }, { on := 5, ground := Ground.phase }, { on := 6, ground := Ground.phase }, { on := 7, ground := Ground.phase }, { on := 8, ground := Ground.phase }], guard := none }, { dst := none, op := Op.store 22 (Operand.tmp 31) (Operand.tmp 29), type := 0, pos := "code.go:126", after := #[{ on := 10, ground := Ground.data }, { on := 8, ground := Ground.data }, { on := 8, ground := Ground.chain }, { on := 0, ground := Ground.phase }, { on := 1, ground := Ground.phase }, { on := 2, ground := Ground.phase }, { on := 3, ground := Ground.phase }, { on := 4, ground := Ground.phase }, { on := 5, ground := Ground.phase }, { on := 6, ground := Ground.phase }, { on := 7, ground := Ground.phase }, { on := 8, ground := Ground.phase }], guard := none }] true).wp Tryz.prog Q { tmps := #[.pointer (some ⟨g, 0, none⟩), x1, x2, x3, x4, x5, x6, x7, x8, x9, x10, x11, x12, x13, x14, x15, x16, x17, x18, x19, x20, x21, x22, x23, x24, x25, x26, x27, x28, x29, x30, x31, x32, x33, x34, x35, x36, x37, x38, x39, x40, x41, x42, x43, x44, x45, x46, x47, x48, x49, x50], defers := ds } A := by
  refine Code.wp_mono (Q := fun x a' w' => match x with | .normal => Q .normal a' w' | .panic c => a'.defers = ds ∧ c = [{ v := .iface 29 (.int .i64 103), recovered := false }] ∧ Fk [92] B A w' ∧ hH l = none | _ => False) (by intro x a' w' h; cases x <;> first | exact h | exact hPN _ _ _ h.1 h.2.1 h.2.2.1 h.2.2.2 | exact h.elim) ?_
  refine wp_region_held (S := fun V => Fk [92, 37, 72] B A V) (by kernel_rfl) ?_
  have hS0 : Hid (Fk [92, 37, 72] B A A.drew) := Fk.of_below (below_drew0 A) HPg.out.lt.2.1
  change wpAnyH Tryz.prog .any _ _ (fun V => Fk [92, 37, 72] B A V) 12 (Array.replicate 12 false) _ A.drew
  obtain ⟨V0, hV0⟩ : ∃ V0, A.drew = V0 := ⟨_, rfl⟩
  rw [hV0]
  rw [hV0] at hS0
  have hP0 : Hid (Pg B V0 g r l da dn dc D) := by rw [← hV0]; exact HPg.out.below (below_drew0 A)
  have hB0 : Hid (Blk V0 g 72 L) := by rw [← hV0]; exact HBk.out.drew
  have hO0 : Hid (V0.ownsRow lo 37 32 (.slice ra rn rc) rn C) := by rw [← hV0]; exact ownsRow_below HOw.out (below_drew0 A)
  have hF0 : Hid (Fk [92] B A V0) := by rw [← hV0]; exact Fk.of_below (below_drew0 A) HPg.out.lt.2.1
  clear hV0
  refine wpAnyH_take (i := 0) (oi := { dst := some 21, op := Op.move (Operand.tmp 0), type := 93, pos := "code.go:126", after := #[], guard := none }) (v := .pointer (some ⟨g, 0, none⟩)) rfl (by kernel_rfl) (by kernel_rfl) (by kernel_rfl) (fun _ _ _ h => h) (Or.inl ⟨by rfl, ?y1⟩) hS0.out ?_
  case y1 =>
    intro V hV
    go_simp
  simp only [Act.put, List.setIfInBounds_toArray, List.set_cons_zero, List.set_cons_succ]
  refine wpAnyH_take (i := 1) (oi := { dst := some 22, op := Op.move (Operand.tmp 0), type := 93, pos := "code.go:126", after := #[], guard := none }) (v := .pointer (some ⟨g, 0, none⟩)) rfl (by kernel_rfl) (by kernel_rfl) (by kernel_rfl) (fun _ _ _ h => h) (Or.inl ⟨by rfl, ?y2⟩) hS0.out ?_
  case y2 =>
    intro V hV
    go_simp
  simp only [Act.put, List.setIfInBounds_toArray, List.set_cons_zero, List.set_cons_succ]
  refine wpAnyH_take (i := 2) (oi := { dst := some 23, op := Op.nilCheck (Operand.tmp 22), type := 0, pos := "code.go:126", after := #[{ on := 1, ground := Ground.data }], guard := none }) (v := .pointer (some ⟨g, 0, none⟩)) rfl (by kernel_rfl) (by kernel_rfl) (by kernel_rfl) (fun _ _ _ h => h) (Or.inl ⟨by rfl, ?y3⟩) hS0.out ?_
  case y3 =>
    intro V hV
    go_simp
  simp only [Act.put, List.setIfInBounds_toArray, List.set_cons_zero, List.set_cons_succ]
  refine wpAnyH_take (i := 3) (oi := { dst := some 24, op := Op.fieldAddr 72 (Operand.tmp 23) 1, type := 0, pos := "code.go:126", after := #[{ on := 2, ground := Ground.data }], guard := none }) (v := .pointer (some ⟨g, 1, none⟩)) rfl (by kernel_rfl) (by kernel_rfl) (by kernel_rfl) (fun _ _ _ h => h) (Or.inl ⟨by rfl, ?y4⟩) hS0.out ?_
  case y4 =>
    intro V hV
    go_simp
  simp only [Act.put, List.setIfInBounds_toArray, List.set_cons_zero, List.set_cons_succ]
  refine wpAnyH_take (i := 5) (oi := { dst := some 26, op := Op.move (Operand.tmp 0), type := 93, pos := "code.go:126", after := #[], guard := none }) (v := .pointer (some ⟨g, 0, none⟩)) rfl (by kernel_rfl) (by kernel_rfl) (by kernel_rfl) (fun _ _ _ h => h) (Or.inl ⟨by rfl, ?y5⟩) hS0.out ?_
  case y5 =>
    intro V hV
    go_simp
  simp only [Act.put, List.setIfInBounds_toArray, List.set_cons_zero, List.set_cons_succ]
  refine wpAnyH_ready (rs := [4, 6]) (by kernel_rfl) (by simp) (AllReadyH.cons (i := 4) (o := { dst := some 25, op := Op.load 22 (Operand.tmp 24), type := 22, pos := "code.go:126", after := #[{ on := 3, ground := Ground.data }], guard := none }) rfl ?_ (AllReadyH.cons (i := 6) (o := { dst := some 27, op := Op.call { callee := Callee.value (Operand.func 53), args := #[Operand.tmp 26], argTypes := #[93] }, type := 37, pos := "code.go:126", after := #[{ on := 5, ground := Ground.data }], guard := none }) rfl ?_ AllReadyH.nil))
  · intro K1 hK1
    rw [if_pos (by rfl)]
    have hc1 : V0.cell? ⟨g, 1, none⟩ = some (.slice ra rn rc) := hB0.out.cell HLc.out
    go_wp2
    clear hc1
    refine hK1.out _ _ hS0.out ?_
    clear hK1
    intro _
    try simp only [Act.put, List.setIfInBounds_toArray, List.set_cons_zero, List.set_cons_succ]
    refine wpAnyH_ready (rs := [6]) (by kernel_rfl) (by simp) (AllReadyH.cons (i := 6) (o := { dst := some 27, op := Op.call { callee := Callee.value (Operand.func 53), args := #[Operand.tmp 26], argTypes := #[93] }, type := 37, pos := "code.go:126", after := #[{ on := 5, ground := Ground.data }], guard := none }) rfl ?_ AllReadyH.nil)
    · intro K1 hK1
      rw [if_pos (by rfl)]
      have HC2 := hash85 hP0.out
      go_wp2_with fail
      refine HC2.mono ?_
      rintro e V2 ⟨hf2, h2⟩
      clear HC2
      rcases h2 with ⟨hn2, he2⟩ | ⟨x, l2, hj, ⟨rfl, hx32⟩, hp⟩
      · rw [pan] at he2
        subst he2
        first
        | exact And.intro rfl (And.intro rfl (And.intro (hF0.out.trans hf2) hn2))
        | exact And.intro rfl (And.intro (hF0.out.trans hf2) hn2)
      dsimp only
      have hF2 : Hid (Fk [92] B A V2) := hF0.out.trans hf2
      have hB2 : Hid (Blk V2 g 72 L) := hB0.out.fk hf2 (by decide)
      have hO2 : Hid (V2.ownsRow lo 37 32 (.slice ra rn rc) rn C) := own_fk hO0.out hf2 (by decide)
      have hP2 : Hid (Pg B V2 g r l2 da dn dc D) := hp
      have hE2 : Hid (hH l = some (x, l2) ∧ x.length = 32) := ⟨hj, hx32⟩
      clear hf2 hp
      have hS2 : Hid (Fk [92, 37, 72] B A V2) := hF2.out.more (by simp)
      refine hK1.out _ _ hS2.out ?_
      clear hK1
      intro _
      try simp only [Act.put, List.setIfInBounds_toArray, List.set_cons_zero, List.set_cons_succ]
      refine wpAnyH_ready (rs := [7]) (by kernel_rfl) (by simp) (AllReadyH.cons (i := 7) (o := { dst := some 28, op := Op.buildSlice 22 1 #[(0, Operand.tmp 27)], type := 22, pos := "code.go:126", after := #[{ on := 6, ground := Ground.data }], guard := none }) rfl ?_ AllReadyH.nil)
      · intro K1 hK1
        obtain ⟨z3, hz3⟩ : ∃ z, V2.heap.size = z := ⟨_, rfl⟩
        obtain ⟨V3, hv3⟩ : ∃ V, V2.alloc (.cells (U x).toArray 37) = V := ⟨_, rfl⟩
        refine step_bs (by rfl) 22 1 _ rfl (.slice (some ⟨z3, 0, none⟩) 1 1) V3 (by rw [← hv3, ← hz3]; simp only [List.map_toArray, List.map_cons, List.map_nil]; exact bs22 hE2.out.2 V2) ?_
        have hb3 : Hid (Below V2.heap.size V2 V3 ∧ Blk V3 z3 37 (U x)) := by rw [← hv3, ← hz3]; exact ⟨below_al _ _, Blk.new _ _ _⟩
        clear hv3 hz3
        have hF3 : Hid (Fk [92] B A V3) := hF2.out.then hb3.out.1 hP2.out.lt.2.1
        have hB3 : Hid (Blk V3 g 72 L) := hB2.out.below hb3.out.1 hB2.out.lt
        have hO3 : Hid (V3.ownsRow lo 37 32 (.slice ra rn rc) rn C) := ownsRow_below hO2.out hb3.out.1
        have hS3 : Hid (Fk [92, 37, 72] B A V3) := hF3.out.more (by simp)
        refine hK1.out _ _ hS3.out ?_
        clear hK1
        intro _
        try simp only [Act.put, List.setIfInBounds_toArray, List.set_cons_zero, List.set_cons_succ]
        refine wpAnyH_ready (rs := [8]) (by kernel_rfl) (by simp) (AllReadyH.cons (i := 8) (o := { dst := some 29, op := Op.call { callee := Callee.builtin Builtin.append, args := #[Operand.tmp 25, Operand.tmp 28], argTypes := #[22, 22] }, type := 22, pos := "code.go:126", after := #[{ on := 4, ground := Ground.data }, { on := 7, ground := Ground.data }, { on := 6, ground := Ground.chain }], guard := none }) rfl ?_ AllReadyH.nil)
        · intro K1 hK1
          obtain ⟨ra2, rc2, V4, hr4, ho4, hg4⟩ := app_one47 V3 lo (.slice ra rn rc) rn C hO3.out z3 (U x) ⟨by rw [U_length]; exact hE2.out.2, U_one x⟩ hb3.out.2 (by have := HRn.out; omega) (by have := HLo.out; have := hS3.out.size; omega)
          refine step_apd (t := 22) (by rfl) (.tmp 25) (.tmp 28) rfl hr4 rfl rfl ?_
          have hG4 : Hid (V3.grownBy V4 (Value.slice ra rn rc).ownBlock ∧ V4.ownsRow lo 37 32 (.slice ra2 (rn + 1) rc2) (rn + 1) (C ++ U x)) := ⟨hg4, ho4⟩
          have hB4 : Hid (Blk V4 g 72 L) := hB3.out.kept hg4 (own_ne hO3.out hB3.out (by decide))
          have hS4 : Hid (Fk [92, 37, 72] B A V4) := hS3.out.trans (fk_own hO3.out hg4 (by have := HLo.out; omega) (by have := hS3.out.size; have := HLo.out; omega) (by simp))
          clear hr4 ho4 hg4
          refine hK1.out _ _ hS4.out ?_
          clear hK1
          intro _
          try simp only [Act.put, List.setIfInBounds_toArray, List.set_cons_zero, List.set_cons_succ]
          refine wpAnyH_take (i := 9) (oi := { dst := some 30, op := Op.nilCheck (Operand.tmp 21), type := 0, pos := "code.go:126", after := #[{ on := 0, ground := Ground.data }, { on := 0, ground := Ground.phase }, { on := 1, ground := Ground.phase }, { on := 2, ground := Ground.phase }, { on := 3, ground := Ground.phase }, { on := 4, ground := Ground.phase }, { on := 5, ground := Ground.phase }, { on := 6, ground := Ground.phase }, { on := 7, ground := Ground.phase }, { on := 8, ground := Ground.phase }], guard := none }) (v := .pointer (some ⟨g, 0, none⟩)) rfl (by kernel_rfl) (by kernel_rfl) (by kernel_rfl) (fun _ _ _ h => h) (Or.inl ⟨by rfl, ?y6⟩) hS4.out ?_
          case y6 =>
            intro V hV
            go_simp
          simp only [Act.put, List.setIfInBounds_toArray, List.set_cons_zero, List.set_cons_succ]
          refine wpAnyH_take (i := 10) (oi := { dst := some 31, op := Op.fieldAddr 72 (Operand.tmp 30) 1, type := 0, pos := "code.go:126", after := #[{ on := 9, ground := Ground.data }, { on := 0, ground := Ground.phase }, { on := 1, ground := Ground.phase }, { on := 2, ground := Ground.phase }, { on := 3, ground := Ground.phase }, { on := 4, ground := Ground.phase }, { on := 5, ground := Ground.phase }, { on := 6, ground := Ground.phase }, { on := 7, ground := Ground.phase }, { on := 8, ground := Ground.phase }], guard := none }) (v := .pointer (some ⟨g, 1, none⟩)) rfl (by kernel_rfl) (by kernel_rfl) (by kernel_rfl) (fun _ _ _ h => h) (Or.inl ⟨by rfl, ?y7⟩) hS4.out ?_
          case y7 =>
            intro V hV
            go_simp
          simp only [Act.put, List.setIfInBounds_toArray, List.set_cons_zero, List.set_cons_succ]
          refine wpAnyH_ready (rs := [11]) (by kernel_rfl) (by simp) (AllReadyH.cons (i := 11) (o := { dst := none, op := Op.store 22 (Operand.tmp 31) (Operand.tmp 29), type := 0, pos := "code.go:126", after := #[{ on := 10, ground := Ground.data }, { on := 8, ground := Ground.data }, { on := 8, ground := Ground.chain }, { on := 0, ground := Ground.phase }, { on := 1, ground := Ground.phase }, { on := 2, ground := Ground.phase }, { on := 3, ground := Ground.phase }, { on := 4, ground := Ground.phase }, { on := 5, ground := Ground.phase }, { on := 6, ground := Ground.phase }, { on := 7, ground := Ground.phase }, { on := 8, ground := Ground.phase }], guard := none }) rfl ?_ AllReadyH.nil)
          · intro K1 hK1
            refine step_stc (by rfl) 22 (.tmp 31) (.tmp 29) rfl infoS22 (b := g) (i := 1) (v := .slice ra2 (rn + 1) rc2) rfl rfl rfl rfl (hB4.out.cell HLc.out) (hB4.out.free _) ?_
            obtain ⟨V5, hv5⟩ : ∃ V, V4.setCell ⟨g, 1, none⟩ (.slice ra2 (rn + 1) rc2) = V := ⟨_, rfl⟩
            rw [hv5]
            have hS5 : Hid (Fk [92, 37, 72] B A V5) := by rw [← hv5]; exact hS4.out.trans (Fk.of_blk (grown_setCell _ _ _ _) hB4.out HLb.out (by simp))
            refine hK1.out _ _ hS5.out ?_
            clear hK1
            intro _
            try simp only [Act.put, List.setIfInBounds_toArray, List.set_cons_zero, List.set_cons_succ]
            refine wpAnyH_done (by kernel_rfl) ?_ _
            exact by rw [← hv5]; exact hQ V2 V3 V4 x l2 ra2 rc2 _ hE2.out hF3.out hP2.out hb3.out.1 hG4.out.1 hG4.out.2 hB4.out
  · intro K1 hK1
    rw [if_pos (by rfl)]
    have HC1 := hash85 hP0.out
    go_wp2_with fail
    refine HC1.mono ?_
    rintro e V1 ⟨hf1, h1⟩
    clear HC1
    rcases h1 with ⟨hn1, he1⟩ | ⟨x, l2, hj, ⟨rfl, hx32⟩, hp⟩
    · rw [pan] at he1
      subst he1
      first
      | exact And.intro rfl (And.intro rfl (And.intro (hF0.out.trans hf1) hn1))
      | exact And.intro rfl (And.intro (hF0.out.trans hf1) hn1)
    dsimp only
    have hF1 : Hid (Fk [92] B A V1) := hF0.out.trans hf1
    have hB1 : Hid (Blk V1 g 72 L) := hB0.out.fk hf1 (by decide)
    have hO1 : Hid (V1.ownsRow lo 37 32 (.slice ra rn rc) rn C) := own_fk hO0.out hf1 (by decide)
    have hP1 : Hid (Pg B V1 g r l2 da dn dc D) := hp
    have hE1 : Hid (hH l = some (x, l2) ∧ x.length = 32) := ⟨hj, hx32⟩
    clear hf1 hp
    have hS1 : Hid (Fk [92, 37, 72] B A V1) := hF1.out.more (by simp)
    refine hK1.out _ _ hS1.out ?_
    clear hK1
    intro _
    try simp only [Act.put, List.setIfInBounds_toArray, List.set_cons_zero, List.set_cons_succ]
    refine wpAnyH_ready (rs := [4, 7]) (by kernel_rfl) (by simp) (AllReadyH.cons (i := 4) (o := { dst := some 25, op := Op.load 22 (Operand.tmp 24), type := 22, pos := "code.go:126", after := #[{ on := 3, ground := Ground.data }], guard := none }) rfl ?_ (AllReadyH.cons (i := 7) (o := { dst := some 28, op := Op.buildSlice 22 1 #[(0, Operand.tmp 27)], type := 22, pos := "code.go:126", after := #[{ on := 6, ground := Ground.data }], guard := none }) rfl ?_ AllReadyH.nil))
    · intro K1 hK1
      rw [if_pos (by rfl)]
      have hc2 : V1.cell? ⟨g, 1, none⟩ = some (.slice ra rn rc) := hB1.out.cell HLc.out
      go_wp2
      clear hc2
      refine hK1.out _ _ hS1.out ?_
      clear hK1
      intro _
      try simp only [Act.put, List.setIfInBounds_toArray, List.set_cons_zero, List.set_cons_succ]
      refine wpAnyH_ready (rs := [7]) (by kernel_rfl) (by simp) (AllReadyH.cons (i := 7) (o := { dst := some 28, op := Op.buildSlice 22 1 #[(0, Operand.tmp 27)], type := 22, pos := "code.go:126", after := #[{ on := 6, ground := Ground.data }], guard := none }) rfl ?_ AllReadyH.nil)
      · intro K1 hK1
        obtain ⟨z3, hz3⟩ : ∃ z, V1.heap.size = z := ⟨_, rfl⟩
        obtain ⟨V3, hv3⟩ : ∃ V, V1.alloc (.cells (U x).toArray 37) = V := ⟨_, rfl⟩
        refine step_bs (by rfl) 22 1 _ rfl (.slice (some ⟨z3, 0, none⟩) 1 1) V3 (by rw [← hv3, ← hz3]; simp only [List.map_toArray, List.map_cons, List.map_nil]; exact bs22 hE1.out.2 V1) ?_
        have hb3 : Hid (Below V1.heap.size V1 V3 ∧ Blk V3 z3 37 (U x)) := by rw [← hv3, ← hz3]; exact ⟨below_al _ _, Blk.new _ _ _⟩
        clear hv3 hz3
        have hF3 : Hid (Fk [92] B A V3) := hF1.out.then hb3.out.1 hP1.out.lt.2.1
        have hB3 : Hid (Blk V3 g 72 L) := hB1.out.below hb3.out.1 hB1.out.lt
        have hO3 : Hid (V3.ownsRow lo 37 32 (.slice ra rn rc) rn C) := ownsRow_below hO1.out hb3.out.1
        have hS3 : Hid (Fk [92, 37, 72] B A V3) := hF3.out.more (by simp)
        refine hK1.out _ _ hS3.out ?_
        clear hK1
        intro _
        try simp only [Act.put, List.setIfInBounds_toArray, List.set_cons_zero, List.set_cons_succ]
        refine wpAnyH_ready (rs := [8]) (by kernel_rfl) (by simp) (AllReadyH.cons (i := 8) (o := { dst := some 29, op := Op.call { callee := Callee.builtin Builtin.append, args := #[Operand.tmp 25, Operand.tmp 28], argTypes := #[22, 22] }, type := 22, pos := "code.go:126", after := #[{ on := 4, ground := Ground.data }, { on := 7, ground := Ground.data }, { on := 6, ground := Ground.chain }], guard := none }) rfl ?_ AllReadyH.nil)
        · intro K1 hK1
          obtain ⟨ra2, rc2, V4, hr4, ho4, hg4⟩ := app_one47 V3 lo (.slice ra rn rc) rn C hO3.out z3 (U x) ⟨by rw [U_length]; exact hE1.out.2, U_one x⟩ hb3.out.2 (by have := HRn.out; omega) (by have := HLo.out; have := hS3.out.size; omega)
          refine step_apd (t := 22) (by rfl) (.tmp 25) (.tmp 28) rfl hr4 rfl rfl ?_
          have hG4 : Hid (V3.grownBy V4 (Value.slice ra rn rc).ownBlock ∧ V4.ownsRow lo 37 32 (.slice ra2 (rn + 1) rc2) (rn + 1) (C ++ U x)) := ⟨hg4, ho4⟩
          have hB4 : Hid (Blk V4 g 72 L) := hB3.out.kept hg4 (own_ne hO3.out hB3.out (by decide))
          have hS4 : Hid (Fk [92, 37, 72] B A V4) := hS3.out.trans (fk_own hO3.out hg4 (by have := HLo.out; omega) (by have := hS3.out.size; have := HLo.out; omega) (by simp))
          clear hr4 ho4 hg4
          refine hK1.out _ _ hS4.out ?_
          clear hK1
          intro _
          try simp only [Act.put, List.setIfInBounds_toArray, List.set_cons_zero, List.set_cons_succ]
          refine wpAnyH_take (i := 9) (oi := { dst := some 30, op := Op.nilCheck (Operand.tmp 21), type := 0, pos := "code.go:126", after := #[{ on := 0, ground := Ground.data }, { on := 0, ground := Ground.phase }, { on := 1, ground := Ground.phase }, { on := 2, ground := Ground.phase }, { on := 3, ground := Ground.phase }, { on := 4, ground := Ground.phase }, { on := 5, ground := Ground.phase }, { on := 6, ground := Ground.phase }, { on := 7, ground := Ground.phase }, { on := 8, ground := Ground.phase }], guard := none }) (v := .pointer (some ⟨g, 0, none⟩)) rfl (by kernel_rfl) (by kernel_rfl) (by kernel_rfl) (fun _ _ _ h => h) (Or.inl ⟨by rfl, ?y8⟩) hS4.out ?_
          case y8 =>
            intro V hV
            go_simp
          simp only [Act.put, List.setIfInBounds_toArray, List.set_cons_zero, List.set_cons_succ]
          refine wpAnyH_take (i := 10) (oi := { dst := some 31, op := Op.fieldAddr 72 (Operand.tmp 30) 1, type := 0, pos := "code.go:126", after := #[{ on := 9, ground := Ground.data }, { on := 0, ground := Ground.phase }, { on := 1, ground := Ground.phase }, { on := 2, ground := Ground.phase }, { on := 3, ground := Ground.phase }, { on := 4, ground := Ground.phase }, { on := 5, ground := Ground.phase }, { on := 6, ground := Ground.phase }, { on := 7, ground := Ground.phase }, { on := 8, ground := Ground.phase }], guard := none }) (v := .pointer (some ⟨g, 1, none⟩)) rfl (by kernel_rfl) (by kernel_rfl) (by kernel_rfl) (fun _ _ _ h => h) (Or.inl ⟨by rfl, ?y9⟩) hS4.out ?_
          case y9 =>
            intro V hV
            go_simp
          simp only [Act.put, List.setIfInBounds_toArray, List.set_cons_zero, List.set_cons_succ]
          refine wpAnyH_ready (rs := [11]) (by kernel_rfl) (by simp) (AllReadyH.cons (i := 11) (o := { dst := none, op := Op.store 22 (Operand.tmp 31) (Operand.tmp 29), type := 0, pos := "code.go:126", after := #[{ on := 10, ground := Ground.data }, { on := 8, ground := Ground.data }, { on := 8, ground := Ground.chain }, { on := 0, ground := Ground.phase }, { on := 1, ground := Ground.phase }, { on := 2, ground := Ground.phase }, { on := 3, ground := Ground.phase }, { on := 4, ground := Ground.phase }, { on := 5, ground := Ground.phase }, { on := 6, ground := Ground.phase }, { on := 7, ground := Ground.phase }, { on := 8, ground := Ground.phase }], guard := none }) rfl ?_ AllReadyH.nil)
          · intro K1 hK1
            refine step_stc (by rfl) 22 (.tmp 31) (.tmp 29) rfl infoS22 (b := g) (i := 1) (v := .slice ra2 (rn + 1) rc2) rfl rfl rfl rfl (hB4.out.cell HLc.out) (hB4.out.free _) ?_
            obtain ⟨V5, hv5⟩ : ∃ V, V4.setCell ⟨g, 1, none⟩ (.slice ra2 (rn + 1) rc2) = V := ⟨_, rfl⟩
            rw [hv5]
            have hS5 : Hid (Fk [92, 37, 72] B A V5) := by rw [← hv5]; exact hS4.out.trans (Fk.of_blk (grown_setCell _ _ _ _) hB4.out HLb.out (by simp))
            refine hK1.out _ _ hS5.out ?_
            clear hK1
            intro _
            try simp only [Act.put, List.setIfInBounds_toArray, List.set_cons_zero, List.set_cons_succ]
            refine wpAnyH_done (by kernel_rfl) ?_ _
            exact by rw [← hv5]; exact hQ V1 V3 V4 x l2 ra2 rc2 _ hE1.out hF3.out hP1.out hb3.out.1 hG4.out.1 hG4.out.2 hB4.out
    · intro K1 hK1
      obtain ⟨z2, hz2⟩ : ∃ z, V1.heap.size = z := ⟨_, rfl⟩
      obtain ⟨V2, hv2⟩ : ∃ V, V1.alloc (.cells (U x).toArray 37) = V := ⟨_, rfl⟩
      refine step_bs (by rfl) 22 1 _ rfl (.slice (some ⟨z2, 0, none⟩) 1 1) V2 (by rw [← hv2, ← hz2]; simp only [List.map_toArray, List.map_cons, List.map_nil]; exact bs22 hE1.out.2 V1) ?_
      have hb2 : Hid (Below V1.heap.size V1 V2 ∧ Blk V2 z2 37 (U x)) := by rw [← hv2, ← hz2]; exact ⟨below_al _ _, Blk.new _ _ _⟩
      clear hv2 hz2
      have hF2 : Hid (Fk [92] B A V2) := hF1.out.then hb2.out.1 hP1.out.lt.2.1
      have hB2 : Hid (Blk V2 g 72 L) := hB1.out.below hb2.out.1 hB1.out.lt
      have hO2 : Hid (V2.ownsRow lo 37 32 (.slice ra rn rc) rn C) := ownsRow_below hO1.out hb2.out.1
      have hS2 : Hid (Fk [92, 37, 72] B A V2) := hF2.out.more (by simp)
      refine hK1.out _ _ hS2.out ?_
      clear hK1
      intro _
      try simp only [Act.put, List.setIfInBounds_toArray, List.set_cons_zero, List.set_cons_succ]
      refine wpAnyH_ready (rs := [4]) (by kernel_rfl) (by simp) (AllReadyH.cons (i := 4) (o := { dst := some 25, op := Op.load 22 (Operand.tmp 24), type := 22, pos := "code.go:126", after := #[{ on := 3, ground := Ground.data }], guard := none }) rfl ?_ AllReadyH.nil)
      · intro K1 hK1
        rw [if_pos (by rfl)]
        have hc3 : V2.cell? ⟨g, 1, none⟩ = some (.slice ra rn rc) := hB2.out.cell HLc.out
        go_wp2
        clear hc3
        refine hK1.out _ _ hS2.out ?_
        clear hK1
        intro _
        try simp only [Act.put, List.setIfInBounds_toArray, List.set_cons_zero, List.set_cons_succ]
        refine wpAnyH_ready (rs := [8]) (by kernel_rfl) (by simp) (AllReadyH.cons (i := 8) (o := { dst := some 29, op := Op.call { callee := Callee.builtin Builtin.append, args := #[Operand.tmp 25, Operand.tmp 28], argTypes := #[22, 22] }, type := 22, pos := "code.go:126", after := #[{ on := 4, ground := Ground.data }, { on := 7, ground := Ground.data }, { on := 6, ground := Ground.chain }], guard := none }) rfl ?_ AllReadyH.nil)
        · intro K1 hK1
          obtain ⟨ra2, rc2, V4, hr4, ho4, hg4⟩ := app_one47 V2 lo (.slice ra rn rc) rn C hO2.out z2 (U x) ⟨by rw [U_length]; exact hE1.out.2, U_one x⟩ hb2.out.2 (by have := HRn.out; omega) (by have := HLo.out; have := hS2.out.size; omega)
          refine step_apd (t := 22) (by rfl) (.tmp 25) (.tmp 28) rfl hr4 rfl rfl ?_
          have hG4 : Hid (V2.grownBy V4 (Value.slice ra rn rc).ownBlock ∧ V4.ownsRow lo 37 32 (.slice ra2 (rn + 1) rc2) (rn + 1) (C ++ U x)) := ⟨hg4, ho4⟩
          have hB4 : Hid (Blk V4 g 72 L) := hB2.out.kept hg4 (own_ne hO2.out hB2.out (by decide))
          have hS4 : Hid (Fk [92, 37, 72] B A V4) := hS2.out.trans (fk_own hO2.out hg4 (by have := HLo.out; omega) (by have := hS2.out.size; have := HLo.out; omega) (by simp))
          clear hr4 ho4 hg4
          refine hK1.out _ _ hS4.out ?_
          clear hK1
          intro _
          try simp only [Act.put, List.setIfInBounds_toArray, List.set_cons_zero, List.set_cons_succ]
          refine wpAnyH_take (i := 9) (oi := { dst := some 30, op := Op.nilCheck (Operand.tmp 21), type := 0, pos := "code.go:126", after := #[{ on := 0, ground := Ground.data }, { on := 0, ground := Ground.phase }, { on := 1, ground := Ground.phase }, { on := 2, ground := Ground.phase }, { on := 3, ground := Ground.phase }, { on := 4, ground := Ground.phase }, { on := 5, ground := Ground.phase }, { on := 6, ground := Ground.phase }, { on := 7, ground := Ground.phase }, { on := 8, ground := Ground.phase }], guard := none }) (v := .pointer (some ⟨g, 0, none⟩)) rfl (by kernel_rfl) (by kernel_rfl) (by kernel_rfl) (fun _ _ _ h => h) (Or.inl ⟨by rfl, ?y10⟩) hS4.out ?_
          case y10 =>
            intro V hV
            go_simp
          simp only [Act.put, List.setIfInBounds_toArray, List.set_cons_zero, List.set_cons_succ]
          refine wpAnyH_take (i := 10) (oi := { dst := some 31, op := Op.fieldAddr 72 (Operand.tmp 30) 1, type := 0, pos := "code.go:126", after := #[{ on := 9, ground := Ground.data }, { on := 0, ground := Ground.phase }, { on := 1, ground := Ground.phase }, { on := 2, ground := Ground.phase }, { on := 3, ground := Ground.phase }, { on := 4, ground := Ground.phase }, { on := 5, ground := Ground.phase }, { on := 6, ground := Ground.phase }, { on := 7, ground := Ground.phase }, { on := 8, ground := Ground.phase }], guard := none }) (v := .pointer (some ⟨g, 1, none⟩)) rfl (by kernel_rfl) (by kernel_rfl) (by kernel_rfl) (fun _ _ _ h => h) (Or.inl ⟨by rfl, ?y11⟩) hS4.out ?_
          case y11 =>
            intro V hV
            go_simp
          simp only [Act.put, List.setIfInBounds_toArray, List.set_cons_zero, List.set_cons_succ]
          refine wpAnyH_ready (rs := [11]) (by kernel_rfl) (by simp) (AllReadyH.cons (i := 11) (o := { dst := none, op := Op.store 22 (Operand.tmp 31) (Operand.tmp 29), type := 0, pos := "code.go:126", after := #[{ on := 10, ground := Ground.data }, { on := 8, ground := Ground.data }, { on := 8, ground := Ground.chain }, { on := 0, ground := Ground.phase }, { on := 1, ground := Ground.phase }, { on := 2, ground := Ground.phase }, { on := 3, ground := Ground.phase }, { on := 4, ground := Ground.phase }, { on := 5, ground := Ground.phase }, { on := 6, ground := Ground.phase }, { on := 7, ground := Ground.phase }, { on := 8, ground := Ground.phase }], guard := none }) rfl ?_ AllReadyH.nil)
          · intro K1 hK1
            refine step_stc (by rfl) 22 (.tmp 31) (.tmp 29) rfl infoS22 (b := g) (i := 1) (v := .slice ra2 (rn + 1) rc2) rfl rfl rfl rfl (hB4.out.cell HLc.out) (hB4.out.free _) ?_
            obtain ⟨V5, hv5⟩ : ∃ V, V4.setCell ⟨g, 1, none⟩ (.slice ra2 (rn + 1) rc2) = V := ⟨_, rfl⟩
            rw [hv5]
            have hS5 : Hid (Fk [92, 37, 72] B A V5) := by rw [← hv5]; exact hS4.out.trans (Fk.of_blk (grown_setCell _ _ _ _) hB4.out HLb.out (by simp))
            refine hK1.out _ _ hS5.out ?_
            clear hK1
            intro _
            try simp only [Act.put, List.setIfInBounds_toArray, List.set_cons_zero, List.set_cons_succ]
            refine wpAnyH_done (by kernel_rfl) ?_ _
            exact by rw [← hv5]; exact hQ V1 V2 V4 x l2 ra2 rc2 _ hE1.out hF2.out hP1.out hb2.out.1 hG4.out.1 hG4.out.2 hB4.out
set_option maxRecDepth 100000 in
set_option maxHeartbeats 4000000 in
theorem pl13 {Q : Exit → Act → World → Prop} {x1 x2 x4 x5 x6 x7 x8 x9 x10 x11 x12 x13 x14 x15 x16 x17 x18 x19 x20 x21 x22 x23 x24 x25 x26 x27 x28 x29 x30 x31 x32 x33 x34 x35 x36 x37 x38 x39 x40 x41 x42 x43 x44 x45 x46 x47 x48 x49 x50 : Value} {ds : List Deferred} {A : World} {B g r lo dn dc rn rc : Nat} {l : List UInt8} {da ra : Option Addr} {D : List Hs} {L C : List Value} {d3 : Nat}
    (hPN : ∀ c a' w', a'.defers = ds → c = [{ v := .iface 29 (.int .i64 103), recovered := false }] → Fk [92] B A w' → oO 64 200 D l = none → Q (.panic c) a' w') (HLc : Hid (L[4]? = some (.slice ra rn rc))) (HLo : Hid (B ≤ lo ∧ lo ≤ A.heap.size)) (HLb : Hid (B ≤ d3)) (HPg : Hid (Pg B A g r l da dn dc D)) (HBk : Hid (Blk A d3 25 L)) (HOw : Hid (A.ownsRow lo 46 69 (.slice ra rn rc) rn C)) (HRn : Hid (rn ≤ 64))
    (hQ : ∀ Vc Vm Va (o q : OpV) (l2 : List UInt8) ra2 rc2 z, (oO 64 200 D l = some (o, l2) ∧ q.strip = o.strip ∧ q.ok ∧ StG Vc q) → Fk [92] B A Vm → Pg B Vc g r l2 da dn dc D → Below Vc.heap.size Vc Vm → Vm.grownBy Va (Value.slice ra rn rc).ownBlock → Va.ownsRow lo 46 69 (.slice ra2 (rn + 1) rc2) (rn + 1) (C ++ q.cells) → Blk Va d3 25 L → Q .normal { tmps := #[.pointer (some ⟨g, 0, none⟩), x1, x2, .pointer (some ⟨d3, 0, none⟩), x4, x5, x6, x7, x8, x9, x10, x11, x12, x13, x14, x15, x16, x17, x18, x19, x20, x21, x22, x23, x24, x25, x26, x27, x28, x29, x30, x31, x32, x33, x34, x35, x36, x37, x38, x39, x40, x41, .pointer (some ⟨d3, 4, none⟩), .slice ra rn rc, .pointer (some ⟨g, 0, none⟩), .agg q.cells.toArray, .slice (some ⟨z, 0, none⟩) 1 1, .slice ra2 (rn + 1) rc2, .pointer (some ⟨d3, 4, none⟩), x49, x50], defers := ds } (Va.setCell ⟨d3, 4, none⟩ (.slice ra2 (rn + 1) rc2))) :
    (Code.region 13 #[{ dst := some 42, op := Op.fieldAddr 25 (Operand.tmp 3) 4, type := 0, pos := "code.go:130", after := #[], guard := none }, { dst := some 43, op := Op.load 23 (Operand.tmp 42), type := 23, pos := "code.go:130", after := #[{ on := 0, ground := Ground.data }], guard := none }, { dst := some 44, op := Op.move (Operand.tmp 0), type := 93, pos := "code.go:130", after := #[], guard := none }, { dst := some 45, op := Op.call { callee := Callee.value (Operand.func 54), args := #[Operand.tmp 44], argTypes := #[93] }, type := 46, pos := "code.go:130", after := #[{ on := 2, ground := Ground.data }], guard := none }, { dst := some 46, op := Op.buildSlice 23 1 #[(0, Operand.tmp 45)], type := 23, pos := "code.go:130", after := #[{ on := 3, ground := Ground.data }], guard := none }, { dst := some 47, op := Op.call { callee := Callee.builtin Builtin.append, args := #[Operand.tmp 43, Operand.tmp 46], argTypes := #[23, 23] }, type := 23, pos := "code.go:130", after := #[{ on := 1, ground := Ground.data }, { on := 4, ground := Ground.data }, { on := 3, ground := Ground.chain }], guard := none }, { dst := some 48, op := Op.fieldAddr 25 (Operand.tmp 3) 4, type := 0, pos := "code.go:130", after := #[{ on := 0, ground := Ground.phase }, { on := 1, ground := Ground.phase }, { on := 2, ground := Ground.phase }, { on := 3, ground := Ground.phase }, { on := 4, ground := Ground.phase }, { on := 5, ground := Ground.phase }], guard := none }, { dst := none, op := Op.store 23 (Operand.tmp 48) (Operand.tmp 47), type := 0, pos := "code.go:130", after := #[{ on := 6, ground := Ground.data }, { on := 5, ground := Ground.data }, { on := 5, ground := Ground.chain }, { on := 0, ground := Ground.phase }, { on := 1, ground := Ground.phase }, { on := 2, ground := Ground.phase }, { on := 3, ground := Ground.phase }, { on := 4, ground := Ground.phase }, { on := 5, ground := Ground.phase }], guard := none }] true).wp Tryz.prog Q { tmps := #[.pointer (some ⟨g, 0, none⟩), x1, x2, .pointer (some ⟨d3, 0, none⟩), x4, x5, x6, x7, x8, x9, x10, x11, x12, x13, x14, x15, x16, x17, x18, x19, x20, x21, x22, x23, x24, x25, x26, x27, x28, x29, x30, x31, x32, x33, x34, x35, x36, x37, x38, x39, x40, x41, x42, x43, x44, x45, x46, x47, x48, x49, x50], defers := ds } A := by
  refine Code.wp_mono (Q := fun x a' w' => match x with | .normal => Q .normal a' w' | .panic c => a'.defers = ds ∧ c = [{ v := .iface 29 (.int .i64 103), recovered := false }] ∧ Fk [92] B A w' ∧ oO 64 200 D l = none | _ => False) (by intro x a' w' h; cases x <;> first | exact h | exact hPN _ _ _ h.1 h.2.1 h.2.2.1 h.2.2.2 | exact h.elim) ?_
  refine wp_region_held (S := fun V => Fk [92, 46, 25] B A V) (by kernel_rfl) ?_
  have hS0 : Hid (Fk [92, 46, 25] B A A.drew) := Fk.of_below (below_drew0 A) HPg.out.lt.2.1
  change wpAnyH Tryz.prog .any _ _ (fun V => Fk [92, 46, 25] B A V) 8 (Array.replicate 8 false) _ A.drew
  obtain ⟨V0, hV0⟩ : ∃ V0, A.drew = V0 := ⟨_, rfl⟩
  rw [hV0]
  rw [hV0] at hS0
  have hP0 : Hid (Pg B V0 g r l da dn dc D) := by rw [← hV0]; exact HPg.out.below (below_drew0 A)
  have hB0 : Hid (Blk V0 d3 25 L) := by rw [← hV0]; exact HBk.out.drew
  have hO0 : Hid (V0.ownsRow lo 46 69 (.slice ra rn rc) rn C) := by rw [← hV0]; exact ownsRow_below HOw.out (below_drew0 A)
  have hF0 : Hid (Fk [92] B A V0) := by rw [← hV0]; exact Fk.of_below (below_drew0 A) HPg.out.lt.2.1
  clear hV0
  refine wpAnyH_take (i := 0) (oi := { dst := some 42, op := Op.fieldAddr 25 (Operand.tmp 3) 4, type := 0, pos := "code.go:130", after := #[], guard := none }) (v := .pointer (some ⟨d3, 4, none⟩)) rfl (by kernel_rfl) (by kernel_rfl) (by kernel_rfl) (fun _ _ _ h => h) (Or.inl ⟨by rfl, ?y1⟩) hS0.out ?_
  case y1 =>
    intro V hV
    go_simp
  simp only [Act.put, List.setIfInBounds_toArray, List.set_cons_zero, List.set_cons_succ]
  refine wpAnyH_take (i := 2) (oi := { dst := some 44, op := Op.move (Operand.tmp 0), type := 93, pos := "code.go:130", after := #[], guard := none }) (v := .pointer (some ⟨g, 0, none⟩)) rfl (by kernel_rfl) (by kernel_rfl) (by kernel_rfl) (fun _ _ _ h => h) (Or.inl ⟨by rfl, ?y2⟩) hS0.out ?_
  case y2 =>
    intro V hV
    go_simp
  simp only [Act.put, List.setIfInBounds_toArray, List.set_cons_zero, List.set_cons_succ]
  refine wpAnyH_ready (rs := [1, 3]) (by kernel_rfl) (by simp) (AllReadyH.cons (i := 1) (o := { dst := some 43, op := Op.load 23 (Operand.tmp 42), type := 23, pos := "code.go:130", after := #[{ on := 0, ground := Ground.data }], guard := none }) rfl ?_ (AllReadyH.cons (i := 3) (o := { dst := some 45, op := Op.call { callee := Callee.value (Operand.func 54), args := #[Operand.tmp 44], argTypes := #[93] }, type := 46, pos := "code.go:130", after := #[{ on := 2, ground := Ground.data }], guard := none }) rfl ?_ AllReadyH.nil))
  · intro K1 hK1
    rw [if_pos (by rfl)]
    have hc1 : V0.cell? ⟨d3, 4, none⟩ = some (.slice ra rn rc) := hB0.out.cell HLc.out
    go_wp2
    clear hc1
    refine hK1.out _ _ hS0.out ?_
    clear hK1
    intro _
    try simp only [Act.put, List.setIfInBounds_toArray, List.set_cons_zero, List.set_cons_succ]
    refine wpAnyH_ready (rs := [3]) (by kernel_rfl) (by simp) (AllReadyH.cons (i := 3) (o := { dst := some 45, op := Op.call { callee := Callee.value (Operand.func 54), args := #[Operand.tmp 44], argTypes := #[93] }, type := 46, pos := "code.go:130", after := #[{ on := 2, ground := Ground.data }], guard := none }) rfl ?_ AllReadyH.nil)
    · intro K1 hK1
      rw [if_pos (by rfl)]
      have HC2 := op86 hP0.out
      go_wp2_with fail
      refine HC2.mono ?_
      rintro e V2 ⟨hf2, h2⟩
      clear HC2
      rcases h2 with ⟨hn2, he2⟩ | ⟨o, l2, hj, ⟨q, rfl, hq1, hq2, hq3⟩, hp⟩
      · rw [pan] at he2
        subst he2
        first
        | exact And.intro rfl (And.intro rfl (And.intro (hF0.out.trans hf2) hn2))
        | exact And.intro rfl (And.intro (hF0.out.trans hf2) hn2)
      dsimp only
      have hF2 : Hid (Fk [92] B A V2) := hF0.out.trans hf2
      have hB2 : Hid (Blk V2 d3 25 L) := hB0.out.fk hf2 (by decide)
      have hO2 : Hid (V2.ownsRow lo 46 69 (.slice ra rn rc) rn C) := own_fk hO0.out hf2 (by decide)
      have hP2 : Hid (Pg B V2 g r l2 da dn dc D) := hp
      have hE2 : Hid (oO 64 200 D l = some (o, l2) ∧ q.strip = o.strip ∧ q.ok ∧ StG V2 q) := ⟨hj, hq1, hq2, hq3⟩
      clear hf2 hp
      have hS2 : Hid (Fk [92, 46, 25] B A V2) := hF2.out.more (by simp)
      refine hK1.out _ _ hS2.out ?_
      clear hK1
      intro _
      try simp only [Act.put, List.setIfInBounds_toArray, List.set_cons_zero, List.set_cons_succ]
      refine wpAnyH_ready (rs := [4]) (by kernel_rfl) (by simp) (AllReadyH.cons (i := 4) (o := { dst := some 46, op := Op.buildSlice 23 1 #[(0, Operand.tmp 45)], type := 23, pos := "code.go:130", after := #[{ on := 3, ground := Ground.data }], guard := none }) rfl ?_ AllReadyH.nil)
      · intro K1 hK1
        obtain ⟨z3, hz3⟩ : ∃ z, V2.heap.size = z := ⟨_, rfl⟩
        obtain ⟨V3, hv3⟩ : ∃ V, V2.alloc (.cells (q.cells).toArray 46) = V := ⟨_, rfl⟩
        refine step_bs (by rfl) 23 1 _ rfl (.slice (some ⟨z3, 0, none⟩) 1 1) V3 (by rw [← hv3, ← hz3]; simp only [List.map_toArray, List.map_cons, List.map_nil]; exact bs23 hE2.out.2.2.1 V2) ?_
        have hb3 : Hid (Below V2.heap.size V2 V3 ∧ Blk V3 z3 46 (q.cells)) := by rw [← hv3, ← hz3]; exact ⟨below_al _ _, Blk.new _ _ _⟩
        clear hv3 hz3
        have hF3 : Hid (Fk [92] B A V3) := hF2.out.then hb3.out.1 hP2.out.lt.2.1
        have hB3 : Hid (Blk V3 d3 25 L) := hB2.out.below hb3.out.1 hB2.out.lt
        have hO3 : Hid (V3.ownsRow lo 46 69 (.slice ra rn rc) rn C) := ownsRow_below hO2.out hb3.out.1
        have hS3 : Hid (Fk [92, 46, 25] B A V3) := hF3.out.more (by simp)
        refine hK1.out _ _ hS3.out ?_
        clear hK1
        intro _
        try simp only [Act.put, List.setIfInBounds_toArray, List.set_cons_zero, List.set_cons_succ]
        refine wpAnyH_ready (rs := [5]) (by kernel_rfl) (by simp) (AllReadyH.cons (i := 5) (o := { dst := some 47, op := Op.call { callee := Callee.builtin Builtin.append, args := #[Operand.tmp 43, Operand.tmp 46], argTypes := #[23, 23] }, type := 23, pos := "code.go:130", after := #[{ on := 1, ground := Ground.data }, { on := 4, ground := Ground.data }, { on := 3, ground := Ground.chain }], guard := none }) rfl ?_ AllReadyH.nil)
        · intro K1 hK1
          obtain ⟨ra2, rc2, V4, hr4, ho4, hg4⟩ := app_one51 V3 lo (.slice ra rn rc) rn C hO3.out z3 q.cells ⟨OpV.len hE2.out.2.2.1, OpV.one q⟩ hb3.out.2 (by have := HRn.out; omega) (by have := HLo.out; have := hS3.out.size; omega)
          refine step_apd (t := 23) (by rfl) (.tmp 43) (.tmp 46) rfl hr4 rfl rfl ?_
          have hG4 : Hid (V3.grownBy V4 (Value.slice ra rn rc).ownBlock ∧ V4.ownsRow lo 46 69 (.slice ra2 (rn + 1) rc2) (rn + 1) (C ++ q.cells)) := ⟨hg4, ho4⟩
          have hB4 : Hid (Blk V4 d3 25 L) := hB3.out.kept hg4 (own_ne hO3.out hB3.out (by decide))
          have hS4 : Hid (Fk [92, 46, 25] B A V4) := hS3.out.trans (fk_own hO3.out hg4 (by have := HLo.out; omega) (by have := hS3.out.size; have := HLo.out; omega) (by simp))
          clear hr4 ho4 hg4
          refine hK1.out _ _ hS4.out ?_
          clear hK1
          intro _
          try simp only [Act.put, List.setIfInBounds_toArray, List.set_cons_zero, List.set_cons_succ]
          refine wpAnyH_take (i := 6) (oi := { dst := some 48, op := Op.fieldAddr 25 (Operand.tmp 3) 4, type := 0, pos := "code.go:130", after := #[{ on := 0, ground := Ground.phase }, { on := 1, ground := Ground.phase }, { on := 2, ground := Ground.phase }, { on := 3, ground := Ground.phase }, { on := 4, ground := Ground.phase }, { on := 5, ground := Ground.phase }], guard := none }) (v := .pointer (some ⟨d3, 4, none⟩)) rfl (by kernel_rfl) (by kernel_rfl) (by kernel_rfl) (fun _ _ _ h => h) (Or.inl ⟨by rfl, ?y3⟩) hS4.out ?_
          case y3 =>
            intro V hV
            go_simp
          simp only [Act.put, List.setIfInBounds_toArray, List.set_cons_zero, List.set_cons_succ]
          refine wpAnyH_ready (rs := [7]) (by kernel_rfl) (by simp) (AllReadyH.cons (i := 7) (o := { dst := none, op := Op.store 23 (Operand.tmp 48) (Operand.tmp 47), type := 0, pos := "code.go:130", after := #[{ on := 6, ground := Ground.data }, { on := 5, ground := Ground.data }, { on := 5, ground := Ground.chain }, { on := 0, ground := Ground.phase }, { on := 1, ground := Ground.phase }, { on := 2, ground := Ground.phase }, { on := 3, ground := Ground.phase }, { on := 4, ground := Ground.phase }, { on := 5, ground := Ground.phase }], guard := none }) rfl ?_ AllReadyH.nil)
          · intro K1 hK1
            refine step_stc (by rfl) 23 (.tmp 48) (.tmp 47) rfl infoS23 (b := d3) (i := 4) (v := .slice ra2 (rn + 1) rc2) rfl rfl rfl rfl (hB4.out.cell HLc.out) (hB4.out.free _) ?_
            obtain ⟨V5, hv5⟩ : ∃ V, V4.setCell ⟨d3, 4, none⟩ (.slice ra2 (rn + 1) rc2) = V := ⟨_, rfl⟩
            rw [hv5]
            have hS5 : Hid (Fk [92, 46, 25] B A V5) := by rw [← hv5]; exact hS4.out.trans (Fk.of_blk (grown_setCell _ _ _ _) hB4.out HLb.out (by simp))
            refine hK1.out _ _ hS5.out ?_
            clear hK1
            intro _
            try simp only [Act.put, List.setIfInBounds_toArray, List.set_cons_zero, List.set_cons_succ]
            refine wpAnyH_done (by kernel_rfl) ?_ _
            exact by rw [← hv5]; exact hQ V2 V3 V4 o q l2 ra2 rc2 _ hE2.out hF3.out hP2.out hb3.out.1 hG4.out.1 hG4.out.2 hB4.out
  · intro K1 hK1
    rw [if_pos (by rfl)]
    have HC1 := op86 hP0.out
    go_wp2_with fail
    refine HC1.mono ?_
    rintro e V1 ⟨hf1, h1⟩
    clear HC1
    rcases h1 with ⟨hn1, he1⟩ | ⟨o, l2, hj, ⟨q, rfl, hq1, hq2, hq3⟩, hp⟩
    · rw [pan] at he1
      subst he1
      first
      | exact And.intro rfl (And.intro rfl (And.intro (hF0.out.trans hf1) hn1))
      | exact And.intro rfl (And.intro (hF0.out.trans hf1) hn1)
    dsimp only
    have hF1 : Hid (Fk [92] B A V1) := hF0.out.trans hf1
    have hB1 : Hid (Blk V1 d3 25 L) := hB0.out.fk hf1 (by decide)
    have hO1 : Hid (V1.ownsRow lo 46 69 (.slice ra rn rc) rn C) := own_fk hO0.out hf1 (by decide)
    have hP1 : Hid (Pg B V1 g r l2 da dn dc D) := hp
    have hE1 : Hid (oO 64 200 D l = some (o, l2) ∧ q.strip = o.strip ∧ q.ok ∧ StG V1 q) := ⟨hj, hq1, hq2, hq3⟩
    clear hf1 hp
    have hS1 : Hid (Fk [92, 46, 25] B A V1) := hF1.out.more (by simp)
    refine hK1.out _ _ hS1.out ?_
    clear hK1
    intro _
    try simp only [Act.put, List.setIfInBounds_toArray, List.set_cons_zero, List.set_cons_succ]
    refine wpAnyH_ready (rs := [1, 4]) (by kernel_rfl) (by simp) (AllReadyH.cons (i := 1) (o := { dst := some 43, op := Op.load 23 (Operand.tmp 42), type := 23, pos := "code.go:130", after := #[{ on := 0, ground := Ground.data }], guard := none }) rfl ?_ (AllReadyH.cons (i := 4) (o := { dst := some 46, op := Op.buildSlice 23 1 #[(0, Operand.tmp 45)], type := 23, pos := "code.go:130", after := #[{ on := 3, ground := Ground.data }], guard := none }) rfl ?_ AllReadyH.nil))
    · intro K1 hK1
      rw [if_pos (by rfl)]
      have hc2 : V1.cell? ⟨d3, 4, none⟩ = some (.slice ra rn rc) := hB1.out.cell HLc.out
      go_wp2
      clear hc2
      refine hK1.out _ _ hS1.out ?_
      clear hK1
      intro _
      try simp only [Act.put, List.setIfInBounds_toArray, List.set_cons_zero, List.set_cons_succ]
      refine wpAnyH_ready (rs := [4]) (by kernel_rfl) (by simp) (AllReadyH.cons (i := 4) (o := { dst := some 46, op := Op.buildSlice 23 1 #[(0, Operand.tmp 45)], type := 23, pos := "code.go:130", after := #[{ on := 3, ground := Ground.data }], guard := none }) rfl ?_ AllReadyH.nil)
      · intro K1 hK1
        obtain ⟨z3, hz3⟩ : ∃ z, V1.heap.size = z := ⟨_, rfl⟩
        obtain ⟨V3, hv3⟩ : ∃ V, V1.alloc (.cells (q.cells).toArray 46) = V := ⟨_, rfl⟩
        refine step_bs (by rfl) 23 1 _ rfl (.slice (some ⟨z3, 0, none⟩) 1 1) V3 (by rw [← hv3, ← hz3]; simp only [List.map_toArray, List.map_cons, List.map_nil]; exact bs23 hE1.out.2.2.1 V1) ?_
        have hb3 : Hid (Below V1.heap.size V1 V3 ∧ Blk V3 z3 46 (q.cells)) := by rw [← hv3, ← hz3]; exact ⟨below_al _ _, Blk.new _ _ _⟩
        clear hv3 hz3
        have hF3 : Hid (Fk [92] B A V3) := hF1.out.then hb3.out.1 hP1.out.lt.2.1
        have hB3 : Hid (Blk V3 d3 25 L) := hB1.out.below hb3.out.1 hB1.out.lt
        have hO3 : Hid (V3.ownsRow lo 46 69 (.slice ra rn rc) rn C) := ownsRow_below hO1.out hb3.out.1
        have hS3 : Hid (Fk [92, 46, 25] B A V3) := hF3.out.more (by simp)
        refine hK1.out _ _ hS3.out ?_
        clear hK1
        intro _
        try simp only [Act.put, List.setIfInBounds_toArray, List.set_cons_zero, List.set_cons_succ]
        refine wpAnyH_ready (rs := [5]) (by kernel_rfl) (by simp) (AllReadyH.cons (i := 5) (o := { dst := some 47, op := Op.call { callee := Callee.builtin Builtin.append, args := #[Operand.tmp 43, Operand.tmp 46], argTypes := #[23, 23] }, type := 23, pos := "code.go:130", after := #[{ on := 1, ground := Ground.data }, { on := 4, ground := Ground.data }, { on := 3, ground := Ground.chain }], guard := none }) rfl ?_ AllReadyH.nil)
        · intro K1 hK1
          obtain ⟨ra2, rc2, V4, hr4, ho4, hg4⟩ := app_one51 V3 lo (.slice ra rn rc) rn C hO3.out z3 q.cells ⟨OpV.len hE1.out.2.2.1, OpV.one q⟩ hb3.out.2 (by have := HRn.out; omega) (by have := HLo.out; have := hS3.out.size; omega)
          refine step_apd (t := 23) (by rfl) (.tmp 43) (.tmp 46) rfl hr4 rfl rfl ?_
          have hG4 : Hid (V3.grownBy V4 (Value.slice ra rn rc).ownBlock ∧ V4.ownsRow lo 46 69 (.slice ra2 (rn + 1) rc2) (rn + 1) (C ++ q.cells)) := ⟨hg4, ho4⟩
          have hB4 : Hid (Blk V4 d3 25 L) := hB3.out.kept hg4 (own_ne hO3.out hB3.out (by decide))
          have hS4 : Hid (Fk [92, 46, 25] B A V4) := hS3.out.trans (fk_own hO3.out hg4 (by have := HLo.out; omega) (by have := hS3.out.size; have := HLo.out; omega) (by simp))
          clear hr4 ho4 hg4
          refine hK1.out _ _ hS4.out ?_
          clear hK1
          intro _
          try simp only [Act.put, List.setIfInBounds_toArray, List.set_cons_zero, List.set_cons_succ]
          refine wpAnyH_take (i := 6) (oi := { dst := some 48, op := Op.fieldAddr 25 (Operand.tmp 3) 4, type := 0, pos := "code.go:130", after := #[{ on := 0, ground := Ground.phase }, { on := 1, ground := Ground.phase }, { on := 2, ground := Ground.phase }, { on := 3, ground := Ground.phase }, { on := 4, ground := Ground.phase }, { on := 5, ground := Ground.phase }], guard := none }) (v := .pointer (some ⟨d3, 4, none⟩)) rfl (by kernel_rfl) (by kernel_rfl) (by kernel_rfl) (fun _ _ _ h => h) (Or.inl ⟨by rfl, ?y4⟩) hS4.out ?_
          case y4 =>
            intro V hV
            go_simp
          simp only [Act.put, List.setIfInBounds_toArray, List.set_cons_zero, List.set_cons_succ]
          refine wpAnyH_ready (rs := [7]) (by kernel_rfl) (by simp) (AllReadyH.cons (i := 7) (o := { dst := none, op := Op.store 23 (Operand.tmp 48) (Operand.tmp 47), type := 0, pos := "code.go:130", after := #[{ on := 6, ground := Ground.data }, { on := 5, ground := Ground.data }, { on := 5, ground := Ground.chain }, { on := 0, ground := Ground.phase }, { on := 1, ground := Ground.phase }, { on := 2, ground := Ground.phase }, { on := 3, ground := Ground.phase }, { on := 4, ground := Ground.phase }, { on := 5, ground := Ground.phase }], guard := none }) rfl ?_ AllReadyH.nil)
          · intro K1 hK1
            refine step_stc (by rfl) 23 (.tmp 48) (.tmp 47) rfl infoS23 (b := d3) (i := 4) (v := .slice ra2 (rn + 1) rc2) rfl rfl rfl rfl (hB4.out.cell HLc.out) (hB4.out.free _) ?_
            obtain ⟨V5, hv5⟩ : ∃ V, V4.setCell ⟨d3, 4, none⟩ (.slice ra2 (rn + 1) rc2) = V := ⟨_, rfl⟩
            rw [hv5]
            have hS5 : Hid (Fk [92, 46, 25] B A V5) := by rw [← hv5]; exact hS4.out.trans (Fk.of_blk (grown_setCell _ _ _ _) hB4.out HLb.out (by simp))
            refine hK1.out _ _ hS5.out ?_
            clear hK1
            intro _
            try simp only [Act.put, List.setIfInBounds_toArray, List.set_cons_zero, List.set_cons_succ]
            refine wpAnyH_done (by kernel_rfl) ?_ _
            exact by rw [← hv5]; exact hQ V1 V3 V4 o q l2 ra2 rc2 _ hE1.out hF3.out hP1.out hb3.out.1 hG4.out.1 hG4.out.2 hB4.out
    · intro K1 hK1
      obtain ⟨z2, hz2⟩ : ∃ z, V1.heap.size = z := ⟨_, rfl⟩
      obtain ⟨V2, hv2⟩ : ∃ V, V1.alloc (.cells (q.cells).toArray 46) = V := ⟨_, rfl⟩
      refine step_bs (by rfl) 23 1 _ rfl (.slice (some ⟨z2, 0, none⟩) 1 1) V2 (by rw [← hv2, ← hz2]; simp only [List.map_toArray, List.map_cons, List.map_nil]; exact bs23 hE1.out.2.2.1 V1) ?_
      have hb2 : Hid (Below V1.heap.size V1 V2 ∧ Blk V2 z2 46 (q.cells)) := by rw [← hv2, ← hz2]; exact ⟨below_al _ _, Blk.new _ _ _⟩
      clear hv2 hz2
      have hF2 : Hid (Fk [92] B A V2) := hF1.out.then hb2.out.1 hP1.out.lt.2.1
      have hB2 : Hid (Blk V2 d3 25 L) := hB1.out.below hb2.out.1 hB1.out.lt
      have hO2 : Hid (V2.ownsRow lo 46 69 (.slice ra rn rc) rn C) := ownsRow_below hO1.out hb2.out.1
      have hS2 : Hid (Fk [92, 46, 25] B A V2) := hF2.out.more (by simp)
      refine hK1.out _ _ hS2.out ?_
      clear hK1
      intro _
      try simp only [Act.put, List.setIfInBounds_toArray, List.set_cons_zero, List.set_cons_succ]
      refine wpAnyH_ready (rs := [1]) (by kernel_rfl) (by simp) (AllReadyH.cons (i := 1) (o := { dst := some 43, op := Op.load 23 (Operand.tmp 42), type := 23, pos := "code.go:130", after := #[{ on := 0, ground := Ground.data }], guard := none }) rfl ?_ AllReadyH.nil)
      · intro K1 hK1
        rw [if_pos (by rfl)]
        have hc3 : V2.cell? ⟨d3, 4, none⟩ = some (.slice ra rn rc) := hB2.out.cell HLc.out
        go_wp2
        clear hc3
        refine hK1.out _ _ hS2.out ?_
        clear hK1
        intro _
        try simp only [Act.put, List.setIfInBounds_toArray, List.set_cons_zero, List.set_cons_succ]
        refine wpAnyH_ready (rs := [5]) (by kernel_rfl) (by simp) (AllReadyH.cons (i := 5) (o := { dst := some 47, op := Op.call { callee := Callee.builtin Builtin.append, args := #[Operand.tmp 43, Operand.tmp 46], argTypes := #[23, 23] }, type := 23, pos := "code.go:130", after := #[{ on := 1, ground := Ground.data }, { on := 4, ground := Ground.data }, { on := 3, ground := Ground.chain }], guard := none }) rfl ?_ AllReadyH.nil)
        · intro K1 hK1
          obtain ⟨ra2, rc2, V4, hr4, ho4, hg4⟩ := app_one51 V2 lo (.slice ra rn rc) rn C hO2.out z2 q.cells ⟨OpV.len hE1.out.2.2.1, OpV.one q⟩ hb2.out.2 (by have := HRn.out; omega) (by have := HLo.out; have := hS2.out.size; omega)
          refine step_apd (t := 23) (by rfl) (.tmp 43) (.tmp 46) rfl hr4 rfl rfl ?_
          have hG4 : Hid (V2.grownBy V4 (Value.slice ra rn rc).ownBlock ∧ V4.ownsRow lo 46 69 (.slice ra2 (rn + 1) rc2) (rn + 1) (C ++ q.cells)) := ⟨hg4, ho4⟩
          have hB4 : Hid (Blk V4 d3 25 L) := hB2.out.kept hg4 (own_ne hO2.out hB2.out (by decide))
          have hS4 : Hid (Fk [92, 46, 25] B A V4) := hS2.out.trans (fk_own hO2.out hg4 (by have := HLo.out; omega) (by have := hS2.out.size; have := HLo.out; omega) (by simp))
          clear hr4 ho4 hg4
          refine hK1.out _ _ hS4.out ?_
          clear hK1
          intro _
          try simp only [Act.put, List.setIfInBounds_toArray, List.set_cons_zero, List.set_cons_succ]
          refine wpAnyH_take (i := 6) (oi := { dst := some 48, op := Op.fieldAddr 25 (Operand.tmp 3) 4, type := 0, pos := "code.go:130", after := #[{ on := 0, ground := Ground.phase }, { on := 1, ground := Ground.phase }, { on := 2, ground := Ground.phase }, { on := 3, ground := Ground.phase }, { on := 4, ground := Ground.phase }, { on := 5, ground := Ground.phase }], guard := none }) (v := .pointer (some ⟨d3, 4, none⟩)) rfl (by kernel_rfl) (by kernel_rfl) (by kernel_rfl) (fun _ _ _ h => h) (Or.inl ⟨by rfl, ?y5⟩) hS4.out ?_
          case y5 =>
            intro V hV
            go_simp
          simp only [Act.put, List.setIfInBounds_toArray, List.set_cons_zero, List.set_cons_succ]
          refine wpAnyH_ready (rs := [7]) (by kernel_rfl) (by simp) (AllReadyH.cons (i := 7) (o := { dst := none, op := Op.store 23 (Operand.tmp 48) (Operand.tmp 47), type := 0, pos := "code.go:130", after := #[{ on := 6, ground := Ground.data }, { on := 5, ground := Ground.data }, { on := 5, ground := Ground.chain }, { on := 0, ground := Ground.phase }, { on := 1, ground := Ground.phase }, { on := 2, ground := Ground.phase }, { on := 3, ground := Ground.phase }, { on := 4, ground := Ground.phase }, { on := 5, ground := Ground.phase }], guard := none }) rfl ?_ AllReadyH.nil)
          · intro K1 hK1
            refine step_stc (by rfl) 23 (.tmp 48) (.tmp 47) rfl infoS23 (b := d3) (i := 4) (v := .slice ra2 (rn + 1) rc2) rfl rfl rfl rfl (hB4.out.cell HLc.out) (hB4.out.free _) ?_
            obtain ⟨V5, hv5⟩ : ∃ V, V4.setCell ⟨d3, 4, none⟩ (.slice ra2 (rn + 1) rc2) = V := ⟨_, rfl⟩
            rw [hv5]
            have hS5 : Hid (Fk [92, 46, 25] B A V5) := by rw [← hv5]; exact hS4.out.trans (Fk.of_blk (grown_setCell _ _ _ _) hB4.out HLb.out (by simp))
            refine hK1.out _ _ hS5.out ?_
            clear hK1
            intro _
            try simp only [Act.put, List.setIfInBounds_toArray, List.set_cons_zero, List.set_cons_succ]
            refine wpAnyH_done (by kernel_rfl) ?_ _
            exact by rw [← hv5]; exact hQ V1 V2 V4 o q l2 ra2 rc2 _ hE1.out hF2.out hP1.out hb2.out.1 hG4.out.1 hG4.out.2 hB4.out
end Go.Proofs.YtgdecjacbkicmaaGreatDoor.Oct

/- Layer 10 (patch): the program's reading: a patch. -/
namespace Go.Proofs.YtgdecjacbkicmaaGreatDoor.Oct
open Go.RowKit
set_option maxRecDepth 100000
set_option linter.unusedSimpArgs false
set_option linter.unusedVariables false

theorem own_lo {w : World} {B B' e sz n : Nat} {v : Value} {cs : List Value} (h : w.ownsRow B e sz v n cs) (hB : B' ≤ B) : w.ownsRow B' e sz v n cs := by
  refine ⟨h.1, ?_⟩
  rcases h.2 with h0 | ⟨g, cap, cur, e1, hlo, hr⟩
  · exact .inl h0
  · exact .inr ⟨g, cap, cur, e1, Nat.le_trans hB hlo, hr⟩
/-- behind an append to a row above what was there -/
theorem Fk.far_own {S : List TypeId} {w w1 w2 : World} {B lo e sz n : Nat} {v : Value} {cs : List Value} (h : Fk S B w w1) (ho : w1.ownsRow lo e sz v n cs) (hg : w1.grownBy w2 v.ownBlock) (hlo : w.heap.size ≤ lo) (hB : B ≤ w.heap.size) : Fk S B w w2 := by
  cases hob : v.ownBlock with
  | none =>
    rw [hob] at hg
    exact h.trans (Fk.of_grown hg (by have := h.size; omega) (fun g e => by cases e))
  | some k =>
    rw [hob] at hg
    refine h.far hg ?_ hB
    rcases ho.2 with ⟨e, _⟩ | ⟨g', cap, cur, e, hl, _⟩
    · rw [e] at hob; cases hob
    · rw [e] at hob; cases hob; exact Nat.le_trans hlo hl
theorem opsR_own {w : World} {B n c : Nat} {a : Option Addr} {Q : List OpV} (h : w.ownsRow B 46 69 (.slice a n c) n (cellsO Q)) (hn : Q.length = n) (hq : ∀ q ∈ Q, q.ok ∧ StG w q) : OpsR w a n Q ∧ n ≤ c ∧ c ≤ maxLen := by
  rcases h.2 with ⟨e, h0⟩ | ⟨g', cap, cur, e, _, hb, h2, h3, h4, h5⟩
  · cases e
    exact ⟨⟨hn, fun o ho => ⟨(hq o ho).1, (hq o ho).2.1⟩, fun hp => absurd hp (by omega)⟩, Nat.le_refl _, by unfold maxLen; omega⟩
  · cases e
    refine ⟨⟨hn, fun o ho => ⟨(hq o ho).1, (hq o ho).2.1⟩, fun _ => ⟨g', 0, rfl, (Array.getElem?_eq_some_iff.1 hb).1, fun i o hi j v hv => ?_⟩⟩, h2, h3⟩
    have hk : Blk w g' 46 cur.toList := by unfold Blk; rw [hb]
    have hc := cellsO_get (fun o ho => (hq o ho).1) hi j v hv
    rw [← h5, List.getElem?_take] at hc
    split at hc
    · rw [Nat.zero_add]
      exact hk.cell hc
    · cases hc
/-- the same patch, wherever its rows lie -/
structure Lk (p q : PV) : Prop where
  au : q.au = p.au
  tm : q.tm = p.tm
  nt : q.nt = p.nt
  dn : q.dn = p.dn
  D : q.D = p.D
  on : q.on = p.on
  O : q.O.map OpV.strip = p.O.map OpV.strip
/-- a patch whose rows are owned, each of its type -/
structure PT (w : World) (q : PV) : Prop where
  deps : w.ownsRow 0 37 32 (.slice q.da q.dn q.dc) q.dn (hsC q.D)
  dl : q.D.length = q.dn
  d32 : ∀ h ∈ q.D, h.length = 32
  ops : w.ownsRow 0 46 69 (.slice q.oa q.on q.oc) q.on (cellsO q.O)
  ol : q.O.length = q.on
  st : ∀ o ∈ q.O, o.ok ∧ StG w o
  zd : q.dn ≤ 1000
  zo : q.on ≤ 1000
  za : q.au.size ≤ 1000
  zn : q.nt.size ≤ 1000
theorem PT.fk {S : List TypeId} {B : Nat} {w w' : World} {q : PV} (h : PT w q) (k : Fk S B w w') (h1 : 37 ∉ S) (h2 : 46 ∉ S) (h3 : 9 ∉ S) : PT w' q := ⟨own_fk h.deps k h1, h.dl, h.d32, own_fk h.ops k h2, h.ol, fun o ho => ⟨(h.st o ho).1, (h.st o ho).2.fk k h3⟩, h.zd, h.zo, h.za, h.zn⟩
theorem PT.below {w w' : World} {q : PV} (h : PT w q) (hb : Below w.heap.size w w') : PT w' q := h.fk (Fk.of_below (S := []) (B := 0) hb (Nat.zero_le _)) (by simp) (by simp) (by simp)
theorem hsR_own {w : World} {B n c : Nat} {a : Option Addr} {D : List Hs} (h : w.ownsRow B 37 32 (.slice a n c) n (hsC D)) (hD : ∀ h ∈ D, h.length = 32) (hn : D.length = n) : HsR w a n D ∧ n ≤ c ∧ c ≤ maxLen := by
  rcases h.2 with ⟨e, h0⟩ | ⟨g', cap, cur, e, _, _, h2, h3, _⟩
  · cases e
    exact ⟨⟨hn, hD, fun hp => by omega⟩, Nat.le_refl _, by unfold maxLen; omega⟩
  · cases e
    exact ⟨hsR_row h hD hn, h2, h3⟩
theorem PT.pr {w : World} {q : PV} (h : PT w q) : PR w q := by
  have h1 := hsR_own h.deps h.d32 h.dl
  have h2 := opsR_own h.ops h.ol h.st
  exact ⟨h1.1, h2.1, h1.2, h2.2, by have := h.zd; omega, by have := h.zo; omega, by have := h.za; omega, by have := h.zn; omega⟩
def PE (B g r : Nat) (l : List UInt8) (w : World) (e : Ending) (w' : World) : Prop :=
  Fk [92, 72] B w w' ∧ ((pP 16 64 200 l = none ∧ e = pan) ∨ ∃ p q l' dv, pP 16 64 200 l = some (p, l') ∧ e = .returned (.agg q.cells.toArray) ∧ PT w' q ∧ Lk p q ∧ (∃ gg cap L k, RdAt B w' r gg cap L k ∧ L.drop k = l') ∧ Blk w' g 72 [.pointer (some ⟨r, 0, none⟩), dv])
def QP (B g r : Nat) (w : World) (d2 d3 : Nat) (l : List UInt8) (q : PV) (V : World) : Prop := Fk [92, 72] B w V ∧ Pg B V g r l none 0 0 [] ∧ Blk V d2 25 p00.cells ∧ Blk V d3 25 q.cells
set_option maxHeartbeats 8000000 in
theorem patch55 {B g r : Nat} {l : List UInt8} {w : World} (h : Pg B w g r l none 0 0 []) : Calls Tryz.prog 32 #[.pointer (some ⟨g, 0, none⟩)] w (PE B g r l w) := by
  have hZ := zero25
  obtain ⟨d2, hd2⟩ : ∃ d, w.heap.size = d := ⟨_, rfl⟩
  obtain ⟨W, hW⟩ : ∃ W, w.alloc (.cells p00.cells.toArray 25) = W := ⟨_, rfl⟩
  have b1 : Below w.heap.size w W := by rw [← hW]; exact below_al _ _
  have k2 : Blk W d2 25 p00.cells := by rw [← hW, ← hd2]; exact Blk.new w _ _
  have HP : Hid (w.heap.size = d2 ∧ B ≤ w.heap.size ∧ B ≤ g ∧ g < d2) := ⟨hd2, h.lt.2.1, h.lo, by have := h.lt.1; omega⟩
  have H0 : Hid (Fk [92] B w W ∧ Pg B W g r l none 0 0 [] ∧ Blk W d2 25 p00.cells) := ⟨Fk.of_below b1 h.lt.2.1, h.below b1, k2⟩
  clear h b1 k2
  go_enter Tryz.func32, Tryz.ntmps32
  go_wp2_with fail
  refine (mark82 H0.out.2.1).mono ?_
  rintro e W1 ⟨hf, (⟨hn, hp⟩ | ⟨c, l1, hc, rfl, hp1⟩)⟩
  · have HN : Hid (pP 16 64 200 l = none ∧ Fk [92, 72] B w W1) := by
      refine ⟨?_, (H0.out.1.trans hf).more (by simp)⟩
      cases l with
      | nil => rfl
      | cons x y => cases hn
    clear hf hn hW
    rw [pan] at hp
    subst hp
    go_wp2
    exact ⟨rfl, HN.out.2, .inl ⟨HN.out.1, rfl⟩⟩
  have hl : l = c :: l1 := by
    cases l with
    | nil => cases hc
    | cons x y => cases hc; rfl
  have H1 : Hid (Fk [92] B w W1 ∧ Pg B W1 g r l1 none 0 0 [] ∧ Blk W1 d2 25 p00.cells ∧ l = c :: l1) := ⟨H0.out.1.trans hf, hp1, H0.out.2.2.fk hf (by decide), hl⟩
  clear hf hc hl hp1 hW H0
  by_cases hk : c = 80
  · subst hk
    have e80 : (((80 : UInt8).toNat : Nat) : Int) = 80 := rfl
    rw [e80]
    clear e80
    have HO : Hid (pP 16 64 200 l = (tT 16 l1).bind fun a => (nN 1099511627776 a.2).bind fun t => (tT 200 t.2).bind fun s => (nN 16 s.2).bind fun n => (rep hH n.1 n.2).bind fun d => (nN 16 d.2).bind fun m => (rep (oO 64 200 d.1) m.1 m.2).bind fun o => some (mkP a.1 t.1 s.1 d.1 o.1, o.2)) := by
      show _ = _
      rw [H1.out.2.2.2]
      unfold pP
      simp only
      rw [if_pos (by trivial)]
    go_wp2_with fail
    refine (need_yes _).mono ?_
    rintro e W2 ⟨rfl, hw⟩
    subst hw
    obtain ⟨d3, hd3⟩ : ∃ d, W1.heap.size = d := ⟨_, rfl⟩
    obtain ⟨W2, hW2⟩ : ∃ W, W1.alloc (.cells p00.cells.toArray 25) = W := ⟨_, rfl⟩
    have b2 : Below W1.heap.size W1 W2 := by rw [← hW2]; exact below_al _ _
    have k3 : Blk W2 d3 25 p00.cells := by rw [← hW2, ← hd3]; exact Blk.new W1 _ _
    have HD : Hid (d2 < d3) := by have := H1.out.2.2.1.lt; show _ < _; omega
    have H2 : Hid (Fk [92] B w W2 ∧ Pg B W2 g r l1 none 0 0 [] ∧ Blk W2 d2 25 p00.cells ∧ Blk W2 d3 25 p00.cells) := ⟨H1.out.1.then b2 H1.out.2.1.lt.2.1, H1.out.2.1.below b2, H1.out.2.2.1.below b2 H1.out.2.2.1.lt, k3⟩
    clear b2 k3 H1
    go_wp2_with fail
    refine (text83 H2.out.2.1 16 (by omega)).mono ?_
    rintro e W3 ⟨hf, (⟨hn, hp⟩ | ⟨s, l2, hs, ⟨rfl, hss⟩, hp1⟩)⟩
    · have HN : Hid (pP 16 64 200 l = none ∧ Fk [92, 72] B w W3) := ⟨by rw [HO.out, hn]; rfl, (H2.out.1.trans hf).more (by simp)⟩
      clear hf hn hW2 hd3
      rw [pan] at hp
      subst hp
      go_wp2
      exact ⟨rfl, HN.out.2, .inl ⟨HN.out.1, rfl⟩⟩
    clear hW2 hd3
    have k3 : Blk W3 d3 25 p00.cells := H2.out.2.2.2.fk hf (by decide)
    have k2 : Blk W3 d2 25 p00.cells := H2.out.2.2.1.fk hf (by decide)
    have e0 : W3.cell? ⟨d3, 0, none⟩ = some (.string e0) := k3.cell rfl
    have f0 := k3.free 0
    obtain ⟨W4, hW4⟩ : ∃ W2, W3.setCell ⟨d3, 0, none⟩ (.string s) = W2 := ⟨_, rfl⟩
    have hg2 : W3.grownBy W4 (some d3) := by rw [← hW4]; exact grown_setCell _ _ _ _
    have hpp := hp1.put (H2.out.1.trans hf) k3 hg2 (by have := HP.out; have := HD.out; omega) HP.out.2.1 (by decide)
    have H4 : Hid (Fk [92] B w W4 ∧ Pg B W4 g r l2 none 0 0 [] ∧ Blk W4 d2 25 p00.cells ∧ Blk W4 d3 25 ({ p00 with au := s } : PV).cells ∧ tT 16 l1 = some (s, l2) ∧ s.size ≤ 16) := ⟨hpp.1, hpp.2, k2.kept hg2 (by have := HD.out; simp; omega), by have h := k3.set 0 (.string s); rw [hW4] at h; exact h, hs, hss⟩
    clear hf hs hss hp1 k3 k2 hg2 hpp H2
    go_wp2_with fail
    refine (number84 H4.out.2.1 1099511627776 (by omega)).mono ?_
    rintro e W5 ⟨hf, (⟨hn, hp⟩ | ⟨t, l3, ht, ⟨rfl, htt⟩, hp1⟩)⟩
    · have HN : Hid (pP 16 64 200 l = none ∧ Fk [92, 72] B w W5) := ⟨by rw [HO.out, H4.out.2.2.2.2.1]; simp only [Option.bind_some, hn]; rfl, (H4.out.1.trans hf).more (by simp)⟩
      clear hf hn hW4 e0 f0
      rw [pan] at hp
      subst hp
      go_wp2
      exact ⟨rfl, HN.out.2, .inl ⟨HN.out.1, rfl⟩⟩
    clear hW4 e0 f0
    have k3 : Blk W5 d3 25 ({ p00 with au := s } : PV).cells := H4.out.2.2.2.1.fk hf (by decide)
    have k2 : Blk W5 d2 25 p00.cells := H4.out.2.2.1.fk hf (by decide)
    have e0 : W5.cell? ⟨d3, 1, none⟩ = some (iv 0) := k3.cell rfl
    have f0 := k3.free 1
    obtain ⟨W6, hW6⟩ : ∃ W2, W5.setCell ⟨d3, 1, none⟩ (iv (t : Int)) = W2 := ⟨_, rfl⟩
    have hg2 : W5.grownBy W6 (some d3) := by rw [← hW6]; exact grown_setCell _ _ _ _
    have hpp := hp1.put (H4.out.1.trans hf) k3 hg2 (by have := HP.out; have := HD.out; omega) HP.out.2.1 (by decide)
    have H6 : Hid (Fk [92] B w W6 ∧ Pg B W6 g r l3 none 0 0 [] ∧ Blk W6 d2 25 p00.cells ∧ Blk W6 d3 25 ({ p00 with au := s, tm := (t : Int) } : PV).cells ∧ tT 16 l1 = some (s, l2) ∧ s.size ≤ 16 ∧ nN 1099511627776 l2 = some (t, l3)) := ⟨hpp.1, hpp.2, k2.kept hg2 (by have := HD.out; simp; omega), by have h := k3.set 1 (iv (t : Int)); rw [hW6] at h; exact h, H4.out.2.2.2.2.1, H4.out.2.2.2.2.2, ht⟩
    clear hf ht htt hp1 k3 k2 hg2 hpp H4
    go_wp2_with fail
    refine (text83 H6.out.2.1 200 (by omega)).mono ?_
    rintro e W7 ⟨hf, (⟨hn, hp⟩ | ⟨s2, l4, hs, ⟨rfl, hss⟩, hp1⟩)⟩
    · have HN : Hid (pP 16 64 200 l = none ∧ Fk [92, 72] B w W7) := ⟨by rw [HO.out, H6.out.2.2.2.2.1]; simp only [Option.bind_some, H6.out.2.2.2.2.2.2, hn]; rfl, (H6.out.1.trans hf).more (by simp)⟩
      clear hf hn hW6 e0 f0
      rw [pan] at hp
      subst hp
      go_wp2
      exact ⟨rfl, HN.out.2, .inl ⟨HN.out.1, rfl⟩⟩
    clear hW6 e0 f0
    have k3 : Blk W7 d3 25 ({ p00 with au := s, tm := (t : Int) } : PV).cells := H6.out.2.2.2.1.fk hf (by decide)
    have k2 : Blk W7 d2 25 p00.cells := H6.out.2.2.1.fk hf (by decide)
    have e0 : W7.cell? ⟨d3, 2, none⟩ = some (.string e0) := k3.cell rfl
    have f0 := k3.free 2
    obtain ⟨W8, hW8⟩ : ∃ W2, W7.setCell ⟨d3, 2, none⟩ (.string s2) = W2 := ⟨_, rfl⟩
    have hg2 : W7.grownBy W8 (some d3) := by rw [← hW8]; exact grown_setCell _ _ _ _
    have hpp := hp1.put (H6.out.1.trans hf) k3 hg2 (by have := HP.out; have := HD.out; omega) HP.out.2.1 (by decide)
    have H8 : Hid (Fk [92] B w W8 ∧ Pg B W8 g r l4 none 0 0 [] ∧ Blk W8 d2 25 p00.cells ∧ Blk W8 d3 25 ({ p00 with au := s, tm := (t : Int), nt := s2 } : PV).cells ∧ pP 16 64 200 l = (nN 16 l4).bind (fun n => (rep hH n.1 n.2).bind fun d => (nN 16 d.2).bind fun m => (rep (oO 64 200 d.1) m.1 m.2).bind fun o => some (mkP s t s2 d.1 o.1, o.2)) ∧ s.size ≤ 16 ∧ s2.size ≤ 200) := ⟨hpp.1, hpp.2, k2.kept hg2 (by have := HD.out; simp; omega), by have h := k3.set 2 (.string s2); rw [hW8] at h; exact h, by rw [HO.out, H6.out.2.2.2.2.1]; simp only [Option.bind_some, H6.out.2.2.2.2.2.2, hs], H6.out.2.2.2.2.2.1, hss⟩
    clear hf hs hss hp1 k3 k2 hg2 hpp H6 HO
    go_wp2_with fail
    refine (number84 H8.out.2.1 16 (by omega)).mono ?_
    rintro e W9 ⟨hf, (⟨hn, hp⟩ | ⟨n, l5, hnn, ⟨rfl, hn16⟩, hp1⟩)⟩
    · have HN : Hid (pP 16 64 200 l = none ∧ Fk [92, 72] B w W9) := ⟨by rw [H8.out.2.2.2.2.1, hn]; rfl, (H8.out.1.trans hf).more (by simp)⟩
      clear hf hn hW8 e0 f0
      rw [pan] at hp
      subst hp
      go_wp2
      exact ⟨rfl, HN.out.2, .inl ⟨HN.out.1, rfl⟩⟩
    clear hW8 e0 f0
    obtain ⟨q1, hq1⟩ : ∃ q1 : PV, { p00 with au := s, tm := (t : Int), nt := s2 } = q1 := ⟨_, rfl⟩
    have H9 : Hid (Fk [92] B w W9 ∧ Pg B W9 g r l5 none 0 0 [] ∧ Blk W9 d2 25 p00.cells ∧ Blk W9 d3 25 q1.cells) := ⟨H8.out.1.trans hf, hp1, H8.out.2.2.1.fk hf (by decide), by rw [← hq1]; exact H8.out.2.2.2.1.fk hf (by decide)⟩
    have HN : Hid (n ≤ 16 ∧ pP 16 64 200 l = (rep hH n l5).bind fun d => (nN 16 d.2).bind fun m => (rep (oO 64 200 d.1) m.1 m.2).bind fun o => some (mkP s t s2 d.1 o.1, o.2)) := ⟨hn16, by rw [H8.out.2.2.2.2.1, hnn]; rfl⟩
    have HS : Hid (s.size ≤ 16 ∧ s2.size ≤ 200 ∧ { p00 with au := s, tm := (t : Int), nt := s2 } = q1) := ⟨H8.out.2.2.2.2.2.1, H8.out.2.2.2.2.2.2, hq1⟩
    have qn : (n : Int) ≤ 16 := by omega
    clear hf hnn hn16 hp1 H8 hq1
    go_wp2
    go_loopw [19] (fun x wr => ∃ i : Nat, x = iv (i : Int) ∧ (i : Int) ≤ (n : Int) ∧ Hid (∃ D l6 da dc, RepI hH n l5 i D l6 ∧ Fk [92, 72] B w wr ∧ Pg B wr g r l6 da i dc D ∧ wr.ownsRow w.heap.size 37 32 (.slice da i dc) i (hsC D) ∧ Blk wr d2 25 p00.cells ∧ Blk wr d3 25 q1.cells)) (fun x _ => n - (intOf x).toNat)
    case atStart => exact ⟨0, rfl, by omega, [], l5, none, 0, RepI.start _ _ _, H9.out.1.more (by simp), H9.out.2.1, ⟨rfl, .inl ⟨rfl, rfl⟩⟩, H9.out.2.2.1, H9.out.2.2.2⟩
    case round =>
      obtain ⟨V, hV⟩ : ∃ V, V = wr := ⟨_, rfl⟩
      subst hV
      obtain ⟨i, rfl, qi, HI0⟩ := hrel
      obtain ⟨D, l6, da, dc, h1, h2, h3, h4, h5, h6⟩ := HI0.out
      have HI : Hid (RepI hH n l5 i D l6 ∧ Fk [92, 72] B w V ∧ Pg B V g r l6 da i dc D ∧ V.ownsRow w.heap.size 37 32 (.slice da i dc) i (hsC D) ∧ Blk V d2 25 p00.cells ∧ Blk V d3 25 q1.cells) := ⟨h1, h2, h3, h4, h5, h6⟩
      clear HI0 h1 h2 h3 h4 h5 h6
      by_cases hi : i < n
      · have q1' : (i : Int) < (n : Int) := by omega
        have HIM : Hid (i < n) := hi
        have HLc : Hid (([.pointer (some ⟨r, 0, none⟩), .slice da i dc] : List Value)[1]? = some (.slice da i dc)) := rfl
        have HLo : Hid (B ≤ w.heap.size ∧ w.heap.size ≤ V.heap.size) := ⟨HP.out.2.1, HI.out.2.1.size⟩
        have HLb : Hid (B ≤ g) := HP.out.2.2.1
        have HPg : Hid (Pg B V g r l6 da i dc D) := HI.out.2.2.1
        have HBk : Hid (Blk V g 72 [.pointer (some ⟨r, 0, none⟩), .slice da i dc]) := HI.out.2.2.1.blk
        have HOw : Hid (V.ownsRow w.heap.size 37 32 (.slice da i dc) i (hsC D)) := HI.out.2.2.2.1
        have HRn : Hid (i ≤ 64) := by have := HN.out.1; show _ ≤ _; omega
        clear hi qi
        go_wp2_with fail
        refine pl8 ?_ HLc HLo HLb HPg HBk HOw HRn ?_
        · rintro c a' V1 hdf rfl hfk hn
          refine ⟨hdf, HI.out.2.1.trans (hfk.more (by simp)), .inl ⟨?_, rfl⟩⟩
          rw [HN.out.2, HI.out.1.none HIM.out hn]
          rfl
        · intro Vc Vm Va x l7 ra2 rc2 z ht hfk hpg hbb hgr how hbk
          go_wp2
          go_roundw
          case rel =>
            have hgs := grown_setCell Va g 1 (.slice ra2 (i + 1) rc2)
            have hfm : Fk [92, 72] B w Vm := HI.out.2.1.trans (hfk.more (by simp))
            have hpm : Pg B Vm g r l7 da i dc D := hpg.below hbb
            have hO2 : Vm.ownsRow w.heap.size 37 32 (.slice da i dc) i (hsC D) := own_fk HOw.out hfk (by decide)
            have hfa : Fk [37] B Vm Va := fk_own hO2 hgr HLo.out.1 (by have := HLo.out; have := hfk.size; omega) (by simp)
            have hfw : Fk [92, 72] B w Va := hfm.far_own hO2 hgr (Nat.le_refl _) HP.out.2.1
            have hfs : Fk [72] B Va (Va.setCell ⟨g, 1, none⟩ (.slice ra2 (i + 1) rc2)) := Fk.of_blk hgs hbk HLb.out (by simp)
            obtain ⟨gg, cap, L, k, hr, he⟩ := hpm.rd
            have how2 : (Va.setCell ⟨g, 1, none⟩ (.slice ra2 (i + 1) rc2)).ownsRow w.heap.size 37 32 (.slice ra2 (i + 1) rc2) (i + 1) (hsC (D ++ [x])) := by
              have e : hsC (D ++ [x]) = hsC D ++ U x := by unfold hsC; simp
              rw [e]
              exact own_fk how hfs (by decide)
            refine ⟨i + 1, by simp, by have := HIM.out; omega, D ++ [x], l7, ra2, rc2, HI.out.1.next HIM.out ht.1, hfw.trans (hfs.more (by simp)), ?_, how2, ?_, ?_⟩
            · refine ⟨HP.out.2.2.1, hbk.set 1 _, ⟨gg, cap, L, k, (hr.fk hfa (by decide) (by decide)).fk hfs (by decide) (by decide), he⟩, own_lo how2 HP.out.2.1, by rw [List.length_append, HI.out.1.2.1]; rfl, ?_, by have := HIM.out; have := HN.out.1; omega⟩
              intro y hy
              rcases List.mem_append.1 hy with h | h
              · exact HI.out.2.2.1.d32 y h
              · rw [List.mem_singleton.1 h]; exact ht.2
            · exact (((HI.out.2.2.2.2.1.fk hfk (by decide)).fk hfa (by decide))).fk hfs (by decide)
            · exact (((HI.out.2.2.2.2.2.fk hfk (by decide)).fk hfa (by decide))).fk hfs (by decide)
          case measure => have := HIM.out; simp only [intOf]; omega
      · have q1' : (n : Int) ≤ (i : Int) := by omega
        obtain rfl : i = n := by have := HI.out.1.1; omega
        have HO : Hid (pP 16 64 200 l = (nN 16 l6).bind fun m => (rep (oO 64 200 D) m.1 m.2).bind fun o => some (mkP s t s2 D o.1, o.2)) := by show _ = _; rw [HN.out.2, HI.out.1.done]; rfl
        have HDl : Hid (D.length = i ∧ i ≤ 16) := ⟨HI.out.1.2.1, HN.out.1⟩
        have c1 := HI.out.2.2.1.c1
        have k3 := HI.out.2.2.2.2.2
        have e3 : V.cell? ⟨d3, 3, none⟩ = some (.slice none 0 0) := by rw [← HS.out.2.2] at k3; exact k3.cell rfl
        have f3 := k3.free 3
        obtain ⟨Wb, hWb⟩ : ∃ W2, V.setCell ⟨d3, 3, none⟩ (.slice da i dc) = W2 := ⟨_, rfl⟩
        have hg2 : V.grownBy Wb (some d3) := by rw [← hWb]; exact grown_setCell _ _ _ _
        have hfs : Fk [25] B V Wb := Fk.of_blk hg2 k3 (by have := HP.out; have := HD.out; omega) (by simp)
        obtain ⟨q2, hq2⟩ : ∃ q2 : PV, { q1 with da := da, dn := i, dc := dc, D := D } = q2 := ⟨_, rfl⟩
        have Hb : Hid (Fk [92, 72] B w Wb ∧ Pg B Wb g r l6 da i dc D ∧ Blk Wb d2 25 p00.cells ∧ Blk Wb d3 25 q2.cells ∧ { q1 with da := da, dn := i, dc := dc, D := D } = q2) := by
          refine ⟨HI.out.2.1.far hg2 (by have := HP.out; have := HD.out; omega) HP.out.2.1, HI.out.2.2.1.fk hfs (by decide) (by decide) (by decide) (by decide), HI.out.2.2.2.2.1.kept hg2 (by have := HD.out; simp; omega), ?_, hq2⟩
          have h := k3.set 3 (.slice da i dc)
          rw [hWb] at h
          rw [← hq2]
          exact h
        clear hi qi HI HN qn k3 hg2 hfs hq2 H9
        go_wp2_with fail
        refine (number84 Hb.out.2.1 16 (by omega)).mono ?_
        rintro e Wc ⟨hf, (⟨hn, hp⟩ | ⟨m, l7, hm, ⟨rfl, hm16⟩, hp1⟩)⟩
        · have HNN : Hid (pP 16 64 200 l = none ∧ Fk [92, 72] B w Wc) := ⟨by rw [HO.out, hn]; rfl, Hb.out.1.trans (hf.more (by simp))⟩
          clear hf hn hWb c1 e3 f3
          rw [pan] at hp
          subst hp
          go_wp2
          exact ⟨rfl, HNN.out.2, .inl ⟨HNN.out.1, rfl⟩⟩
        clear hWb c1 e3 f3
        have Hc : Hid (Fk [92, 72] B w Wc ∧ Pg B Wc g r l7 da i dc D ∧ Blk Wc d2 25 p00.cells ∧ Blk Wc d3 25 q2.cells) := ⟨Hb.out.1.trans (hf.more (by simp)), hp1, Hb.out.2.2.1.fk hf (by decide), Hb.out.2.2.2.1.fk hf (by decide)⟩
        have HM : Hid (m ≤ 16 ∧ { q1 with da := da, dn := i, dc := dc, D := D } = q2 ∧ pP 16 64 200 l = (rep (oO 64 200 D) m l7).bind fun o => some (mkP s t s2 D o.1, o.2)) := ⟨hm16, Hb.out.2.2.2.2, by rw [HO.out, hm]; rfl⟩
        have qm : (m : Int) ≤ 16 := by omega
        clear hf hm hm16 hp1 Hb HO
        go_wp2
        have g0 : decide ((i : Int) < (i : Int)) = false := decide_eq_false (by omega)
        go_loopw [40] (fun x wr => ∃ j : Nat, x = iv (j : Int) ∧ (j : Int) ≤ (m : Int) ∧ Hid (∃ O Q l8 oa oc, RepI (oO 64 200 D) m l7 j O l8 ∧ Q.length = j ∧ Q.map OpV.strip = O.map OpV.strip ∧ (∀ q ∈ Q, q.ok ∧ StG wr q) ∧ Fk [92, 72] B w wr ∧ Pg B wr g r l8 da i dc D ∧ wr.ownsRow w.heap.size 46 69 (.slice oa j oc) j (cellsO Q) ∧ Blk wr d2 25 p00.cells ∧ Blk wr d3 25 ({ q2 with oa := oa, on := j, oc := oc, O := Q } : PV).cells)) (fun x _ => m - (intOf x).toNat)
        case atStart =>
          refine ⟨0, rfl, by omega, [], [], l7, none, 0, RepI.start _ _ _, rfl, rfl, by simp, Hc.out.1, Hc.out.2.1, ⟨rfl, .inl ⟨rfl, rfl⟩⟩, Hc.out.2.2.1, ?_⟩
          have e : ({ q2 with oa := none, on := 0, oc := 0, O := [] } : PV) = q2 := by rw [← HM.out.2.1, ← HS.out.2.2]; rfl
          rw [e]
          exact Hc.out.2.2.2
        case round =>
          obtain ⟨V, hV⟩ : ∃ V, V = wr := ⟨_, rfl⟩
          subst hV
          obtain ⟨j, rfl, qj, HI0⟩ := hrel
          obtain ⟨O, Q, l8, oa, oc, h1, h2, h3, h4, h5, h6, h7, h8, h9⟩ := HI0.out
          obtain ⟨q3, hq3⟩ : ∃ q3 : PV, { q2 with oa := oa, on := j, oc := oc, O := Q } = q3 := ⟨_, rfl⟩
          rw [hq3] at h9
          have HI : Hid (RepI (oO 64 200 D) m l7 j O l8 ∧ Q.length = j ∧ Q.map OpV.strip = O.map OpV.strip ∧ (∀ q ∈ Q, q.ok ∧ StG V q) ∧ Fk [92, 72] B w V ∧ Pg B V g r l8 da i dc D ∧ V.ownsRow w.heap.size 46 69 (.slice oa j oc) j (cellsO Q) ∧ Blk V d2 25 p00.cells ∧ Blk V d3 25 q3.cells ∧ { q2 with oa := oa, on := j, oc := oc, O := Q } = q3) := ⟨h1, h2, h3, h4, h5, h6, h7, h8, h9, hq3⟩
          clear HI0 h1 h2 h3 h4 h5 h6 h7 h8 h9 hq3
          by_cases hj : j < m
          · have q1' : (j : Int) < (m : Int) := by omega
            have HIM : Hid (j < m) := hj
            have HLc : Hid (q3.cells[4]? = some (.slice oa j oc)) := by show _ = _; rw [← HI.out.2.2.2.2.2.2.2.2.2]; rfl
            have HLo : Hid (B ≤ w.heap.size ∧ w.heap.size ≤ V.heap.size) := ⟨HP.out.2.1, HI.out.2.2.2.2.1.size⟩
            have HLb : Hid (B ≤ d3) := by have := HP.out; have := HD.out; show _ ≤ _; omega
            have HPg : Hid (Pg B V g r l8 da i dc D) := HI.out.2.2.2.2.2.1
            have HBk : Hid (Blk V d3 25 q3.cells) := HI.out.2.2.2.2.2.2.2.2.1
            have HOw : Hid (V.ownsRow w.heap.size 46 69 (.slice oa j oc) j (cellsO Q)) := HI.out.2.2.2.2.2.2.1
            have HRn : Hid (j ≤ 64) := by have := HM.out.1; show _ ≤ _; omega
            clear hj qj
            go_wp2_with fail
            refine pl13 ?_ HLc HLo HLb HPg HBk HOw HRn ?_
            · rintro c a' V1 hdf rfl hfk hn
              refine ⟨hdf, HI.out.2.2.2.2.1.trans (hfk.more (by simp)), .inl ⟨?_, rfl⟩⟩
              rw [HM.out.2.2, HI.out.1.none HIM.out hn]
              rfl
            · intro Vc Vm Va x qq l9 ra2 rc2 z ht hfk hpg hbb hgr how hbk
              go_wp2
              go_roundw
              case rel =>
                have hgs := grown_setCell Va d3 4 (.slice ra2 (j + 1) rc2)
                have hfm : Fk [92, 72] B w Vm := HI.out.2.2.2.2.1.trans (hfk.more (by simp))
                have hpm : Pg B Vm g r l9 da i dc D := hpg.below hbb
                have hO2 : Vm.ownsRow w.heap.size 46 69 (.slice oa j oc) j (cellsO Q) := own_fk HOw.out hfk (by decide)
                have hfa : Fk [46] B Vm Va := fk_own hO2 hgr HLo.out.1 (by have := HLo.out; have := hfk.size; omega) (by simp)
                have hfw : Fk [92, 72] B w Va := hfm.far_own hO2 hgr (Nat.le_refl _) HP.out.2.1
                have hfs : Fk [25] B Va (Va.setCell ⟨d3, 4, none⟩ (.slice ra2 (j + 1) rc2)) := Fk.of_blk hgs hbk HLb.out (by simp)
                refine ⟨j + 1, by simp, by have := HIM.out; omega, O ++ [x], Q ++ [qq], l9, ra2, rc2, HI.out.1.next HIM.out ht.1, by rw [List.length_append, HI.out.2.1]; rfl, by rw [List.map_append, List.map_append, HI.out.2.2.1]; simp only [List.map_cons, List.map_nil, ht.2.1], ?_, hfw.far hgs (by have := HP.out; have := HD.out; omega) HP.out.2.1, (hpm.fk hfa (by decide) (by decide) (by decide) (by decide)).fk hfs (by decide) (by decide) (by decide) (by decide), ?_, ?_, ?_⟩
                · intro y hy
                  rcases List.mem_append.1 hy with h | h
                  · exact ⟨(HI.out.2.2.2.1 y h).1, (((HI.out.2.2.2.1 y h).2.fk hfk (by decide)).fk hfa (by decide)).fk hfs (by decide)⟩
                  · rw [List.mem_singleton.1 h]
                    exact ⟨ht.2.2.1, ((ht.2.2.2.below hbb).fk hfa (by decide)).fk hfs (by decide)⟩
                · have e : cellsO (Q ++ [qq]) = cellsO Q ++ qq.cells := by unfold cellsO; simp
                  rw [e]
                  exact own_fk how hfs (by decide)
                · exact ((HI.out.2.2.2.2.2.2.2.1.fk hfk (by decide)).fk hfa (by decide)).kept hgs (by have := HD.out; simp; omega)
                · have hs := hbk.set 4 (.slice ra2 (j + 1) rc2)
                  rw [← HI.out.2.2.2.2.2.2.2.2.2] at hs
                  exact hs
              case measure => have := HIM.out; simp only [intOf]; omega
          · have q1' : (m : Int) ≤ (j : Int) := by omega
            obtain rfl : j = m := by have := HI.out.1.1; omega
            have HX : Hid (Blk V d3 25 q3.cells ∧ Blk V d2 25 p00.cells ∧ Fk [92, 72] B w V ∧ Pg B V g r l8 da i dc D ∧ pP 16 64 200 l = some (mkP s t s2 D O, l8) ∧ PT V q3 ∧ Lk (mkP s t s2 D O) q3) := by
              refine ⟨HI.out.2.2.2.2.2.2.2.2.1, HI.out.2.2.2.2.2.2.2.1, HI.out.2.2.2.2.1, HI.out.2.2.2.2.2.1, by rw [HM.out.2.2, HI.out.1.done]; rfl, ?_, ?_⟩
              · rw [← HI.out.2.2.2.2.2.2.2.2.2, ← HM.out.2.1, ← HS.out.2.2]
                exact ⟨own_lo HI.out.2.2.2.2.2.1.dp (Nat.zero_le _), HDl.out.1, HI.out.2.2.2.2.2.1.d32, own_lo HI.out.2.2.2.2.2.2.1 (Nat.zero_le _), HI.out.2.1, HI.out.2.2.2.1, by show i ≤ _; have := HDl.out.2; omega, by show j ≤ _; have := HM.out.1; omega, by show s.size ≤ _; have := HS.out.1; omega, by show s2.size ≤ _; have := HS.out.2.1; omega⟩
              · rw [← HI.out.2.2.2.2.2.2.2.2.2, ← HM.out.2.1, ← HS.out.2.2]
                exact ⟨rfl, rfl, rfl, HDl.out.1.symm, rfl, HI.out.1.2.1.symm, HI.out.2.2.1⟩
            clear hj qj HI HM qm
            go_wp2_with (with_reducible change wpList _ _ _ ({ dst := some 50, op := _, type := _, pos := _, after := _, guard := _ } :: _) _ _; refine Hid.out ?_)
            show wpList _ _ _ _ _ _
            refine wpList_load_mid rfl 25 (.tmp 3) rfl d3 0 rfl q3.cells _ HX.out.1.range0 Tryz.underlying25 rfl (info25 q3) ?_
            go_wp2_with (with_reducible change wpList _ _ _ ({ dst := none, op := Op.store 25 _ _, type := _, pos := _, after := _, guard := _ } :: _) _ _; refine Hid.out ?_)
            show wpList _ _ _ _ _ _
            refine wpList_store_blk rfl 25 (.tmp 2) (.tmp 50) rfl d2 0 25 p00.cells q3.cells rfl rfl HX.out.2.1 (Nat.le_refl _) (info25 q3) (PV.one _) ?_
            intro W9 hx hgs
            have HF : Hid (Blk W9 d2 25 q3.cells ∧ PE B g r l w (.returned (.agg q3.cells.toArray)) W9) := by
              have hf : Fk [25] B V W9 := Fk.of_blk hgs.out HX.out.2.1 (by have := HP.out; omega) (by simp)
              have hpg := HX.out.2.2.2.1.fk hf (by decide) (by decide) (by decide) (by decide)
              exact ⟨blk_all hx.out rfl, HX.out.2.2.1.far hgs.out (by have := HP.out; omega) HP.out.2.1, .inr ⟨_, q3, l8, _, HX.out.2.2.2.2.1, rfl, HX.out.2.2.2.2.2.1.fk hf (by decide) (by decide) (by decide), HX.out.2.2.2.2.2.2, hpg.rd, hpg.blk⟩⟩
            clear hx hgs HX
            go_wp2
            exact ret_c rfl rfl rfl HF.out.1 Tryz.underlying25 rfl (info25 q3) HF.out.2
  have hne : ((c.toNat : Nat) : Int) ≠ 80 := fun e => hk (UInt8.toNat_inj.1 (by show c.toNat = 80; omega))
  have ebq : (((c.toNat : Nat) : Int) == 80) = false := by simpa using hne
  have HN : Hid (pP 16 64 200 l = none) := by
    show _ = _
    rw [H1.out.2.2.2]
    unfold pP
    simp only
    rw [if_neg hk]
  obtain ⟨m, hm⟩ : ∃ m, c.toNat = m := ⟨_, rfl⟩
  rw [hm] at ebq ⊢
  clear hk hne hm
  go_wp2_with fail
  refine (need_no _).mono ?_
  rintro e w2 ⟨hp, hw⟩
  subst hw
  rw [pan] at hp
  subst hp
  go_wp2
  exact ⟨rfl, H1.out.1.more (by simp), .inl ⟨HN.out, rfl⟩⟩
end Go.Proofs.YtgdecjacbkicmaaGreatDoor.Oct

/- Layer 10 (patch): Decode of the program. -/
namespace Go.Proofs.YtgdecjacbkicmaaGreatDoor.Oct
open Go.RowKit
set_option maxRecDepth 100000
set_option linter.unusedSimpArgs false
set_option linter.unusedVariables false

theorem Lk.tw {p q : PV} (h : Lk p q) : Tw p q := ⟨h.au, h.tm, h.nt, h.D, h.dn, h.on, h.O.symm⟩
def RE (w : World) (l : List UInt8) (e : Ending) (w' : World) : Prop := Below w.heap.size w w' ∧ ((e = pan ∧ ∀ p, pP 16 64 200 l = some (p, []) → chk p ≠ 0) ∨ ∃ p q, pP 16 64 200 l = some (p, []) ∧ chk p = 0 ∧ e = .returned (.agg q.cells.toArray) ∧ PT w' q ∧ Tw p q)
theorem zero86 (W : World) : (zeroValue 72).run Tryz.prog W = .ok (.agg #[.pointer none, .slice none 0 0]) W := by kernel_rfl
theorem built86 (r : Nat) : Tryz.prog.built 72 [(0, .pointer (some ⟨r, 0, none⟩))] = some #[.pointer (some ⟨r, 0, none⟩), .slice none 0 0] := by kernel_rfl
theorem info86 : (Tryz.prog.info? 72).map (·.size) = some 2 := by kernel_rfl
set_option maxHeartbeats 8000000 in
theorem read30 (a : Option Addr) (n c : Nat) (l : List UInt8) (w : World) (hin : In w a n c l) : Calls Tryz.prog 15 #[.slice a n c] w (RE w l) := by
  have hZ := zero25
  have hZ6 := zero86
  obtain ⟨d2, hd2⟩ : ∃ d, w.heap.size = d := ⟨_, rfl⟩
  obtain ⟨W, hW⟩ : ∃ W, w.alloc (.cells p00.cells.toArray 25) = W := ⟨_, rfl⟩
  have b1 : Below w.heap.size w W := by rw [← hW]; exact below_al _ _
  have k2 : Blk W d2 25 p00.cells := by rw [← hW, ← hd2]; exact Blk.new w _ _
  have H0 : Hid (Below w.heap.size w W ∧ Blk W d2 25 p00.cells ∧ w.heap.size = d2 ∧ In W a n c l) := ⟨b1, k2, hd2, hin.below b1⟩
  clear hin b1 k2
  go_enter Tryz.func15, Tryz.ntmps15
  go_wp2_with fail
  refine (over_is a n c l W H0.out.2.2.2).mono ?_
  rintro e W1 ⟨r, gg, rfl, hr1, hb1⟩
  have H1 : Hid (Below w.heap.size w W1 ∧ Blk W1 d2 25 p00.cells ∧ RdAt W.heap.size W1 r gg n l 0 ∧ w.heap.size = d2 ∧ W.heap.size ≤ W1.heap.size ∧ d2 < W.heap.size) := ⟨below_tr H0.out.1 hb1, H0.out.2.1.below hb1 H0.out.2.1.lt, hr1, H0.out.2.2.1, hb1.size, H0.out.2.1.lt⟩
  clear hr1 hb1 hW H0 hd2
  have HBL := built86 r
  go_wp2_with (with_reducible change wpList _ _ _ ({ dst := some 7, op := _, type := _, pos := _, after := _, guard := _ } :: _) _ _; refine Hid.out ?_)
  show wpList _ _ _ _ _ _
  refine wpList_built rfl 72 _ rfl #[.pointer (some ⟨r, 0, none⟩), .slice none 0 0] (by rw [← HBL]; first | (simp; done) | (simp; rfl)) ?_
  clear HBL
  obtain ⟨g, hg⟩ : ∃ d, W1.heap.size = d := ⟨_, rfl⟩
  go_wp2_with (with_reducible change wpList _ _ _ ({ dst := none, op := Op.store 72 _ _, type := _, pos := _, after := _, guard := _ } :: _) _ _; refine Hid.out ?_)
  show wpList _ _ _ _ _ _
  refine wpList_store_blk rfl 72 (.tmp 3) (.tmp 7) rfl g 0 72 [.pointer none, .slice none 0 0] [.pointer (some ⟨r, 0, none⟩), .slice none 0 0] (by rw [← hg]; rfl) rfl (by rw [← hg]; exact Blk.new W1 _ _) (Nat.le_refl _) info86 (by intro v hv; simp only [List.mem_cons, List.not_mem_nil, or_false] at hv; rcases hv with rfl | rfl <;> rfl) ?_
  intro W3 hx hgs
  have H3 : Hid (Below w.heap.size w W3 ∧ Blk W3 d2 25 p00.cells ∧ Pg W.heap.size W3 g r l none 0 0 [] ∧ w.heap.size = d2 ∧ d2 < W.heap.size) := by
    have hb3 : Below W1.heap.size W1 W3 := below_gr (below_al W1 _) hgs.out (by omega)
    have hf : Fk [] W.heap.size W1 W3 := Fk.of_below hb3 H1.out.2.2.2.2.1
    exact ⟨below_tr H1.out.1 hb3, H1.out.2.1.below hb3 H1.out.2.1.lt, ⟨by have := H1.out.2.2.2.2.1; omega, blk_all hx.out rfl, ⟨gg, n, l, 0, H1.out.2.2.1.fk hf (by simp) (by simp), List.drop_zero⟩, ⟨rfl, .inl ⟨rfl, rfl⟩⟩, rfl, (by intro h hh; cases hh), by omega⟩, H1.out.2.2.2.1, H1.out.2.2.2.2.2⟩
  clear hx hgs hg H1
  go_wp2_with fail
  refine (patch55 H3.out.2.2.1).mono ?_
  rintro e W4 ⟨hf, (⟨hn, hp⟩ | ⟨p, q, l', dv, hpp, rfl, hpr, hlk, hrd, hbk⟩)⟩
  · have HN : Hid (RE w l pan W4) := ⟨H3.out.1.trans (hf.below.mono (by have := H3.out; omega)), .inl ⟨rfl, fun p h => by rw [hn] at h; cases h⟩⟩
    clear hf hn
    have hpq := hp
    rw [pan] at hp
    subst hp
    go_wp2
    exact ⟨rfl, HN.out⟩
  obtain ⟨g2, cap, L, k, hr, hl'⟩ := hrd
  obtain ⟨d4, hd4⟩ : ∃ d, W4.heap.size = d := ⟨_, rfl⟩
  have H4 : Hid (Below w.heap.size w W4 ∧ Blk W4 d2 25 p00.cells ∧ pP 16 64 200 l = some (p, l') ∧ PT W4 q ∧ Tw p q ∧ RdAt W.heap.size W4 r g2 cap L k ∧ L.drop k = l' ∧ Blk W4 g 72 [.pointer (some ⟨r, 0, none⟩), dv] ∧ w.heap.size = d2 ∧ W4.heap.size = d4) := ⟨H3.out.1.trans (hf.below.mono (by have := H3.out; omega)), H3.out.2.1.fk hf (by decide), hpp, hpr, hlk.tw, hr, hl', hbk, H3.out.2.2.2.1, hd4⟩
  clear hf hpp hpr hlk hr hl' hbk H3
  go_wp2_with (with_reducible change wpList _ _ _ ({ dst := none, op := Op.store 25 _ _, type := _, pos := _, after := _, guard := _ } :: _) _ _; refine Hid.out ?_)
  show wpList _ _ _ _ _ _
  refine wpList_store_blk rfl 25 (.tmp 4) (.tmp 8) rfl d4 0 25 p00.cells q.cells rfl rfl (by rw [← H4.out.2.2.2.2.2.2.2.2.2]; exact Blk.new W4 _ _) (Nat.le_refl _) (info25 q) (PV.one _) ?_
  intro W5 hx hgs
  have H5 : Hid (Below w.heap.size w W5 ∧ Blk W5 d2 25 p00.cells ∧ pP 16 64 200 l = some (p, l') ∧ PT W5 q ∧ Tw p q ∧ RdAt W.heap.size W5 r g2 cap L k ∧ L.drop k = l' ∧ Blk W5 g 72 [.pointer (some ⟨r, 0, none⟩), dv] ∧ w.heap.size = d2 ∧ Blk W5 d4 25 q.cells) := by
    have h4 := H4.out
    have hb : Below W4.heap.size W4 W5 := below_gr (below_al W4 _) hgs.out (by omega)
    exact ⟨below_tr h4.1 hb, h4.2.1.below hb h4.2.1.lt, h4.2.2.1, h4.2.2.2.1.below hb, h4.2.2.2.2.1, h4.2.2.2.2.2.1.fk (S := []) (B' := 0) (Fk.of_below hb (Nat.zero_le _)) (by simp) (by simp), h4.2.2.2.2.2.2.1, h4.2.2.2.2.2.2.2.1.below hb h4.2.2.2.2.2.2.2.1.lt, h4.2.2.2.2.2.2.2.2.1, blk_all hx.out rfl⟩
  clear hx hgs H4 hd4
  have c0 : W5.cell? ⟨g, 0, none⟩ = some (.pointer (some ⟨r, 0, none⟩)) := H5.out.2.2.2.2.2.2.2.1.cell rfl
  by_cases hk : k < L.length
  · have HN : Hid (∀ p, pP 16 64 200 l = some (p, []) → chk p ≠ 0) := fun p2 h2 => by
      rw [H5.out.2.2.1] at h2
      have e : l' = [] := by cases h2; rfl
      have := H5.out.2.2.2.2.2.2.1
      rw [e, List.drop_eq_nil_iff] at this
      omega
    have he := end_is H5.out.2.2.2.2.2.1
    rw [if_pos hk] at he
    have HE : Hid (Calls Tryz.prog 34 #[.pointer (some ⟨r, 0, none⟩)] W5 fun e w' => e = .returned (iv 12) ∧ ∃ n, w' = W5.drewN n) := he
    clear he hk
    go_wp2_with fail
    refine HE.out.mono ?_
    rintro e W6 ⟨rfl, m, rfl⟩
    go_wp2_with fail
    refine (need_no _).mono ?_
    rintro e w2 ⟨hp, hw⟩
    subst hw
    have HF : Hid (RE w l pan (W5.drewN m)) := ⟨H5.out.1.trans ⟨rfl, rfl, rfl, Nat.le_refl _, fun _ _ => rfl⟩, .inl ⟨rfl, HN.out⟩⟩
    rw [pan] at hp
    subst hp
    go_wp2
    exact ⟨rfl, HF.out⟩
  · have he := end_is H5.out.2.2.2.2.2.1
    rw [if_neg hk] at he
    have HE : Hid (Calls Tryz.prog 34 #[.pointer (some ⟨r, 0, none⟩)] W5 fun e w' => e = .returned (iv 0) ∧ ∃ n, w' = W5.drewN n) := he
    have hl0 : l' = [] := by rw [← H5.out.2.2.2.2.2.2.1, List.drop_eq_nil_iff]; omega
    have HL : Hid (pP 16 64 200 l = some (p, [])) := by show _ = _; rw [H5.out.2.2.1, hl0]
    obtain ⟨E, hE⟩ : ∃ E, chk p = E := ⟨_, rfl⟩
    have HC : Hid (chk p = E) := hE
    clear he hk hl0 hE
    go_wp2_with fail
    refine HE.out.mono ?_
    rintro e W6 ⟨rfl, m, hm⟩
    have H6 : Hid (Below w.heap.size w W6 ∧ Blk W6 d2 25 p00.cells ∧ PT W6 q ∧ Blk W6 d4 25 q.cells) := by
      have hb : Below W5.heap.size W5 W6 := by rw [hm]; exact ⟨rfl, rfl, rfl, Nat.le_refl _, fun _ _ => rfl⟩
      exact ⟨below_tr H5.out.1 hb, H5.out.2.1.below hb H5.out.2.1.lt, H5.out.2.2.2.1.below hb, H5.out.2.2.2.2.2.2.2.2.2.below hb H5.out.2.2.2.2.2.2.2.2.2.lt⟩
    clear hm c0 HE
    go_wp2_with (with_reducible change wpList _ _ _ ({ dst := some 14, op := _, type := _, pos := _, after := _, guard := _ } :: _) _ _; refine Hid.out ?_)
    show wpList _ _ _ _ _ _
    refine wpList_load_want rfl 25 (.tmp 4) rfl d4 0 rfl q.cells _ H6.out.2.2.2.range0 Tryz.underlying25 rfl (info25 q) ?_
    go_wp2_with fail
    refine (check_is W6 q H6.out.2.2.1.pr E (by rw [H5.out.2.2.2.2.1.chk]; exact HC.out)).mono ?_
    rintro e W7 ⟨rfl, hb7⟩
    have H7 : Hid (Below w.heap.size w W7 ∧ Blk W7 d2 25 p00.cells ∧ PT W7 q ∧ Blk W7 d4 25 q.cells ∧ w.heap.size = d2 ∧ Tw p q) := ⟨below_tr H6.out.1 hb7, H6.out.2.1.below hb7 H6.out.2.1.lt, H6.out.2.2.1.below hb7, H6.out.2.2.2.below hb7 H6.out.2.2.2.lt, H5.out.2.2.2.2.2.2.2.2.1, H5.out.2.2.2.2.1⟩
    clear hb7 H6 H5
    by_cases hE0 : E = 0
    · subst hE0
      go_wp2_with fail
      refine (need_yes _).mono ?_
      rintro e w2 ⟨rfl, hw⟩
      subst hw
      go_wp2_with (with_reducible change wpList _ _ _ ({ dst := some 19, op := _, type := _, pos := _, after := _, guard := _ } :: _) _ _; refine Hid.out ?_)
      show wpList _ _ _ _ _ _
      refine wpList_load_mid rfl 25 (.tmp 4) rfl d4 0 rfl q.cells _ H7.out.2.2.2.1.range0 Tryz.underlying25 rfl (info25 q) ?_
      go_wp2_with (with_reducible change wpList _ _ _ ({ dst := none, op := Op.store 25 _ _, type := _, pos := _, after := _, guard := _ } :: _) _ _; refine Hid.out ?_)
      show wpList _ _ _ _ _ _
      refine wpList_store_blk rfl 25 (.tmp 2) (.tmp 19) rfl d2 0 25 p00.cells q.cells rfl rfl H7.out.2.1 (Nat.le_refl _) (info25 q) (PV.one _) ?_
      intro W8 hx hgs
      have HF : Hid (Blk W8 d2 25 q.cells ∧ RE w l (.returned (.agg q.cells.toArray)) W8) := by
        have hpr : PT W8 q := H7.out.2.2.1.fk (Fk.of_blk (S := [25]) (B := 0) hgs.out H7.out.2.1 (Nat.zero_le _) (by simp)) (by decide) (by decide) (by decide)
        exact ⟨blk_all hx.out rfl, below_gr H7.out.1 hgs.out (by have := H7.out; omega), .inr ⟨p, q, HL.out, HC.out, rfl, hpr, H7.out.2.2.2.2.2⟩⟩
      clear hx hgs H7
      go_wp2
      exact ret_c rfl rfl rfl HF.out.1 Tryz.underlying25 rfl (info25 q) HF.out.2
    · have eE : (E == 0) = false := by simpa using hE0
      have HF : Hid (RE w l pan W7) := ⟨H7.out.1, .inl ⟨rfl, fun p2 h2 => by rw [HL.out] at h2; cases h2; rw [HC.out]; exact hE0⟩⟩
      clear hE0
      go_wp2_with fail
      refine (need_no _).mono ?_
      rintro e w2 ⟨hp, hw⟩
      subst hw
      rw [pan] at hp
      subst hp
      go_wp2
      exact ⟨rfl, HF.out⟩
end Go.Proofs.YtgdecjacbkicmaaGreatDoor.Oct

/- Layer 10 (patch): Decode of the program: the deferred closure, and whole. -/
namespace Go.Proofs.YtgdecjacbkicmaaGreatDoor.Oct
open Go.RowKit
set_option maxRecDepth 100000
set_option linter.unusedSimpArgs false
set_option linter.unusedVariables false

theorem results_cc {fn : Func} {p q : Tmp} {ty ty2 : TypeId} (h : fn.results = #[.cell p ty, .cell q ty2]) (tmps : Array Value) (P : Program) (w : World) :
    (results fn tmps).run P w =
      ((asAddr (tmps.getD p undef)).run P w).andThen fun a w₁ => ((loadVar ty a).run P w₁).andThen fun v w₂ => ((asAddr (tmps.getD q undef)).run P w₂).andThen fun b w₃ => ((loadVar ty2 b).run P w₃).andThen fun u w₄ => .ok (.tuple #[v, u]) w₄ := by
  simp only [results, h]
  simp [Sem.run_bind, Result.andThen]
theorem info29 : (Tryz.prog.info? 29).map (·.size) = some 1 := by kernel_rfl
theorem load29 {w : World} {c : Nat} {x : Int} (h : w.cell? ⟨c, 0, none⟩ = some (iv x)) : (loadVar 29 ⟨c, 0, none⟩).run Tryz.prog w = .ok (iv x) w := by
  obtain ⟨i, hi, hs⟩ := Option.map_eq_some_iff.1 info29
  simp [loadVar, typeInfo, sizeOf, hi, hs, h, Tryz.underlying29, TypeDesc.isRow, go_sem]
theorem build25 (W : World) : (Instr.build 25 #[]).run Tryz.prog W = .ok (.agg p00.cells.toArray) W := by kernel_rfl
theorem catch29_p {w : World} {b c : Nat} {L : List Value} {x : Int} {v : Value} {u : TypeId} (hb : Blk w b 25 L) (hl : L.length = 5) (hc : Blk w c 29 [iv x]) (hne : b ≠ c) (older : List PanicEntry) :
    CallsD Tryz.prog 14 #[.pointer (some ⟨b, 0, none⟩), .pointer (some ⟨c, 0, none⟩)] (.panicking ({ v := .iface u v, recovered := false } :: older)) w fun e u' w' =>
      e = .returned (.tuple #[]) ∧ u' = .panicking ({ v := .iface u v, recovered := true } :: older) ∧ Blk w' b 25 p00.cells ∧ Blk w' c 29 [iv 103] ∧ Fk [25, 29] (min b c) w w' := by
  have hB := build25
  refine callsD_of_wpS Tryz.func14 rfl fun c₀ cs hu => ?_
  apply wpS_seq
  apply wpS_region
  simp [wpOpsS, go_sem, recoverD, hu, Tryz.ntmps14, Exit.thenS]
  refine wpS_cond (t := true) (by simp [Act.eval, Array.replicate]) ?_
  simp only [if_true]
  refine wpS_of_wp ?_
  go_wp2_with (with_reducible change wpList _ _ _ ({ dst := none, op := Op.store 25 _ _, type := _, pos := _, after := _, guard := _ } :: _) _ _; refine Hid.out ?_)
  show wpList _ _ _ _ _ _
  refine wpList_store_blk rfl 25 (.tmp 0) (.tmp 4) rfl b 0 25 L p00.cells rfl rfl hb (by rw [hl]; exact Nat.le_refl _) (info25 p00) (PV.one _) ?_
  intro W1 hx hgs
  have k1 : Blk W1 b 25 p00.cells := blk_all hx.out (by rw [hl]; rfl)
  have kc : Blk W1 c 29 [iv x] := hc.kept hgs.out (by simp; omega)
  have c0 : W1.cell? ⟨c, 0, none⟩ = some (iv x) := kc.cell rfl
  have f0 := kc.free 0
  have hf1 : Fk [25, 29] (min b c) w W1 := Fk.of_blk hgs.out hb (Nat.min_le_left _ _) (by simp)
  have hgs2 := grown_setCell W1 c 0 (iv 103)
  have HF : Hid (Blk (W1.setCell ⟨c, 0, none⟩ (iv 103)) b 25 p00.cells ∧ Blk (W1.setCell ⟨c, 0, none⟩ (iv 103)) c 29 [iv 103] ∧ Fk [25, 29] (min b c) w (W1.setCell ⟨c, 0, none⟩ (iv 103))) := ⟨k1.kept hgs2 (by simp; omega), kc.set 0 _, hf1.trans (Fk.of_blk hgs2 kc (Nat.min_le_right _ _) (by simp))⟩
  clear hx hgs k1 kc hf1 hgs2 hb hl hc hne
  go_wp2
  have HFo := HF.out
  simp [bodyPostS, results, Tryz.results14]
  exact HFo
theorem catch29_r {w : World} {b c : Nat} :
    CallsD Tryz.prog 14 #[.pointer (some ⟨b, 0, none⟩), .pointer (some ⟨c, 0, none⟩)] .returning w fun e u' w' => e = .returned (.tuple #[]) ∧ u' = .returning ∧ w' = w := by
  refine callsD_of_wpS Tryz.func14 rfl fun c₀ cs hu => ?_
  apply wpS_seq
  apply wpS_region
  simp [wpOpsS, go_sem, recoverD, hu, Tryz.ntmps14, Exit.thenS]
  refine wpS_cond (t := false) (by simp [Act.eval, Array.replicate]) ?_
  simp only [Bool.false_eq_true, if_false]
  refine wpS_of_wp (wp_skip ?_)
  cases c₀
  simp_all [bodyPostS, results, Tryz.results14]
def DP (w : World) (l : List UInt8) (e : Ending) (w' : World) : Prop := Below w.heap.size w w' ∧ ((e = .returned (.tuple #[.agg p00.cells.toArray, iv 103]) ∧ ∀ p, pP 16 64 200 l = some (p, []) → chk p ≠ 0) ∨ ∃ p q, pP 16 64 200 l = some (p, []) ∧ chk p = 0 ∧ e = .returned (.tuple #[.agg q.cells.toArray, iv 0]) ∧ PT w' q ∧ Tw p q)
theorem zero29 (W : World) : (zeroValue 29).run Tryz.prog W = .ok (iv 0) W := by kernel_rfl
theorem results16 {w : World} {b c : Nat} {q : PV} {x : Int} {tmps : Array Value} (h1 : tmps.getD 2 undef = .pointer (some ⟨b, 0, none⟩)) (h2 : tmps.getD 3 undef = .pointer (some ⟨c, 0, none⟩)) (hb : Blk w b 25 q.cells) (hc : Blk w c 29 [iv x]) :
    (results Tryz.f7 tmps).run Tryz.prog w = .ok (.tuple #[.agg q.cells.toArray, iv x]) w := by
  have hl := run_loadVar_mid (P := Tryz.prog) w b 0 25 q.cells _ hb.range0 Tryz.underlying25 rfl (info25 q)
  have hl2 := load29 (hc.cell (i := 0) rfl)
  rw [results_cc (p := 2) (q := 3) (ty := 25) (ty2 := 29) (by kernel_rfl), h1, h2]
  simp [asAddr, hl, hl2, Result.andThen]
set_option maxHeartbeats 4000000 in
theorem decode16 (a : Option Addr) (n c : Nat) (l : List UInt8) (w : World) (hin : In w a n c l) : Calls Tryz.prog 7 #[.slice a n c] w (DP w l) := by
  have hmf : ∀ (fn : Fn) (first cap : Array Value) (w : World), (Instr.makeFunc fn first cap).run Tryz.prog w = .ok (.func fn first cap) w := fun _ _ _ _ => rfl
  have hZ := zero25
  have hZ9 := zero29
  obtain ⟨d2, hd2⟩ : ∃ d, w.heap.size = d := ⟨_, rfl⟩
  obtain ⟨Wa, hWa⟩ : ∃ W, w.alloc (.cells p00.cells.toArray 25) = W := ⟨_, rfl⟩
  obtain ⟨d3, hd3⟩ : ∃ d, Wa.heap.size = d := ⟨_, rfl⟩
  obtain ⟨W, hW⟩ : ∃ W, Wa.alloc (.cells #[iv 0] 29) = W := ⟨_, rfl⟩
  have b1 : Below w.heap.size w Wa := by rw [← hWa]; exact below_al _ _
  have b2 : Below Wa.heap.size Wa W := by rw [← hW]; exact below_al _ _
  have k2a : Blk Wa d2 25 p00.cells := by rw [← hWa, ← hd2]; exact Blk.new w _ _
  have k3 : Blk W d3 29 [iv 0] := by rw [← hW, ← hd3]; exact Blk.new Wa _ _
  have H0 : Hid (Below w.heap.size w W ∧ Blk W d2 25 p00.cells ∧ Blk W d3 29 [iv 0] ∧ In W a n c l ∧ w.heap.size = d2 ∧ d2 < d3 ∧ d3 < W.heap.size) := ⟨below_tr b1 b2, k2a.below b2 k2a.lt, k3, (hin.below b1).below b2, hd2, by have := k2a.lt; omega, k3.lt⟩
  clear hin b1 b2 k2a k3
  go_enter_defers Tryz.func7, Tryz.ntmps7
  go_wp2_with fail
  refine (read30 a n c l W H0.out.2.2.2.1).mono ?_
  rintro e W1 ⟨hb1, (⟨hp, hn⟩ | ⟨p, q, hpp, hck, rfl, hpt, htw⟩)⟩
  · have H1 : Hid (Below w.heap.size w W1 ∧ Blk W1 d2 25 p00.cells ∧ Blk W1 d3 29 [iv 0] ∧ ∀ p, pP 16 64 200 l = some (p, []) → chk p ≠ 0) := ⟨below_tr H0.out.1 hb1, H0.out.2.1.below hb1 H0.out.2.1.lt, H0.out.2.2.1.below hb1 H0.out.2.2.1.lt, hn⟩
    rw [pan] at hp
    subst hp
    clear hb1 hn hW hWa hd2 hd3
    go_wp2
    refine leaves_cons (f := 14) (args := #[.pointer (some ⟨d2, 0, none⟩), .pointer (some ⟨d3, 0, none⟩)]) (by simp) (by simp [go_sem]) ?_
    refine (catch29_p H1.out.2.1 rfl H1.out.2.2.1 (by have := H0.out; omega) []).mono ?_
    rintro e u' W3 ⟨rfl, rfl, hk2, hk3, hf⟩
    have HB : DP w l (.returned (.tuple #[.agg p00.cells.toArray, iv 103])) W3 := ⟨H1.out.1.trans (hf.below.mono (by have := H0.out; omega)), .inl ⟨rfl, H1.out.2.2.2⟩⟩
    refine ⟨_, results16 (q := p00) rfl rfl hk2 hk3, HB⟩
  · have H1 : Hid (Below w.heap.size w W1 ∧ Blk W1 d2 25 p00.cells ∧ Blk W1 d3 29 [iv 0] ∧ PT W1 q) := ⟨below_tr H0.out.1 hb1, H0.out.2.1.below hb1 H0.out.2.1.lt, H0.out.2.2.1.below hb1 H0.out.2.2.1.lt, hpt⟩
    have HQ : Hid (pP 16 64 200 l = some (p, []) ∧ chk p = 0 ∧ Tw p q) := ⟨hpp, hck, htw⟩
    clear hb1 hpp hck hpt htw hW hWa hd2 hd3
    go_wp2_with (with_reducible change wpList _ _ _ ({ dst := none, op := Op.store 25 _ _, type := _, pos := _, after := _, guard := _ } :: _) _ _; refine Hid.out ?_)
    show wpList _ _ _ _ _ _
    refine wpList_store_blk rfl 25 (.tmp 2) (.tmp 6) rfl d2 0 25 p00.cells q.cells rfl rfl H1.out.2.1 (Nat.le_refl _) (info25 q) (PV.one _) ?_
    intro W2 hx hgs
    have hf2 : Fk [25, 29] d2 W1 W2 := Fk.of_blk hgs.out H1.out.2.1 (Nat.le_refl _) (by simp)
    have k3 : Blk W2 d3 29 [iv 0] := H1.out.2.2.1.kept hgs.out (by have := H0.out; simp; omega)
    have c3 : W2.cell? ⟨d3, 0, none⟩ = some (iv 0) := k3.cell rfl
    have f3 := k3.free 0
    obtain ⟨W3, hW3⟩ : ∃ W, W2.setCell ⟨d3, 0, none⟩ (iv 0) = W := ⟨_, rfl⟩
    have hg3 : W2.grownBy W3 (some d3) := by rw [← hW3]; exact grown_setCell _ _ _ _
    have hf3 : Fk [25, 29] d2 W1 W3 := hf2.trans (Fk.of_blk hg3 k3 (by have := H0.out; omega) (by simp))
    have HB : Hid (Blk W3 d2 25 q.cells ∧ Blk W3 d3 29 [iv 0] ∧ DP w l (.returned (.tuple #[.agg q.cells.toArray, iv 0])) W3) := by
      refine ⟨(blk_all hx.out rfl).kept hg3 (by have := H0.out; simp; omega), by rw [← hW3]; exact k3.set 0 _, H1.out.1.trans (hf3.below.mono (by have := H0.out; omega)), .inr ⟨p, q, HQ.out.1, HQ.out.2.1, rfl, H1.out.2.2.2.fk hf3 (by decide) (by decide) (by decide), HQ.out.2.2⟩⟩
    clear hx hgs hf2 k3 hg3 hf3 H1
    go_wp2
    refine leaves_cons (f := 14) (args := #[.pointer (some ⟨d2, 0, none⟩), .pointer (some ⟨d3, 0, none⟩)]) (by simp) (by simp [go_sem]) ?_
    refine (catch29_r).mono ?_
    rintro e u' W4 ⟨rfl, rfl, rfl⟩
    refine ⟨_, results16 (q := q) rfl rfl HB.out.1 HB.out.2.1, HB.out.2.2⟩
end Go.Proofs.YtgdecjacbkicmaaGreatDoor.Oct
