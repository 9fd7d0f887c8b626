/-
  Layer 12 (deps): copies: its statement that appends, whatever its order.
  Layer 12 (deps): items that are turned, and what each needs the other way round, say the same. Plain facts.
  Layer 12 (deps): copies.
  Layer 12 (deps): DepsOrders: its comparison, whatever its order.
  Layer 12 (deps): DepsOrders.
-/
import Derived.Test.YtijkpkcopjkhkaaMo6
/- Layer 12 (deps): copies: its statement that appends, whatever its order. -/
namespace Go.Proofs.Ytijkpkcopjkhkaa.Oct
open Go.RowKit
set_option linter.unusedSimpArgs false

section
variable {o : Oper} {a : Act} {w : World} {K : Act → World → Prop} {Q : Exit → Act → World → Prop}
theorem wp_bslice0 (hop : o.op = Op.buildSlice 26 0 #[]) (hK : K (a.put o.dst (.slice (some ⟨w.heap.size, 0, none⟩) 0 0)) (w.alloc (.cells #[] 34))) : Oper.wp Try.prog o a w K Q := by
  unfold Oper.wp execOp
  simp [hop, run_bslice0, Result.andThen]
  exact hK
theorem wp_app (s x : Operand) (hop : o.op = Op.call { callee := Callee.builtin Builtin.append, args := #[s, x], argTypes := #[26, 26] }) (B : Nat) (v : Value) (n : Nat) (hs : List Hs) (oa : Option Addr) (m c : Nat) (xs : List Hs) (hv : a.eval s = v) (hx : a.eval x = .slice oa m c)
    (hown : w.ownsRow B 34 32 v n (UU hs)) (hxs : HsR w oa m xs) (hn : n + m ≤ 1000000) (hB : B ≤ w.heap.size)
    (hK : ∀ v' w', w'.ownsRow B 34 32 v' (n + m) (UU (hs ++ xs)) → w.grownBy w' v.ownBlock → (v'.ownBlock = v.ownBlock ∨ v'.ownBlock = some w.heap.size) → K (a.put o.dst v') w') : Oper.wp Try.prog o a w K Q := by
  obtain ⟨v', w', hrun, r1, r2, r3⟩ := run_app w B o.type v n hs oa m c xs hown hxs hn hB
  unfold Oper.wp execOp
  simp only [hop, resolve, invoke, builtin, Sem.run_bind, Sem.run_pure, Result.andThen_ok, List.map_toArray, List.map_cons, List.map_nil, hv, hx, hrun]
  exact hK v' w' r1 r2 r3
theorem wp_build36 (x y : Operand) (hop : o.op = Op.build 36 #[(0, x), (1, y)]) (nm : Hs) (hl : nm.length = 32) (ds : List Hs) (p : Option Addr) (n c : Nat) (hx : a.eval x = .agg (U nm).toArray) (hy : a.eval y = .slice p n c)
    (hK : K (a.put o.dst (.agg (It.cells ⟨nm, ds, p, n, c⟩).toArray)) w) : Oper.wp Try.prog o a w K Q := by
  unfold Oper.wp execOp
  simp [hop, hx, hy, run_build36 nm hl ds p n c, Result.andThen]
  exact hK
theorem wp_bslice36 (x : Operand) (hop : o.op = Op.buildSlice 22 1 #[(0, x)]) (y : It) (hl : y.name.length = 32) (hx : a.eval x = .agg y.cells.toArray)
    (hK : K (a.put o.dst (.slice (some ⟨w.heap.size, 0, none⟩) 1 1)) (w.alloc (.cells y.cells.toArray 36))) : Oper.wp Try.prog o a w K Q := by
  unfold Oper.wp execOp
  simp [hop, hx, run_bslice36 y hl, Result.andThen]
  exact hK
theorem wp_app36 (s x : Operand) (hop : o.op = Op.call { callee := Callee.builtin Builtin.append, args := #[s, x], argTypes := #[22, 22] }) (B : Nat) (v : Value) (n : Nat) (cs : List Value) (y : It) (hl : y.name.length = 32) (hv : a.eval s = v) (b : Nat) (hx : a.eval x = .slice (some ⟨b, 0, none⟩) 1 1)
    (hown : w.ownsRow B 36 33 v n cs) (hy : w.rangeAt b 0 y.cells) (hn : n + 1 ≤ 1000000) (hB : B ≤ w.heap.size)
    (hK : ∀ v' w', w'.ownsRow B 36 33 v' (n + 1) (cs ++ y.cells) → w.grownBy w' v.ownBlock → ¬ v' = .slice none 0 0 → K (a.put o.dst v') w') : Oper.wp Try.prog o a w K Q := by
  obtain ⟨i, hi, hs1, hby, z, hz, hzs⟩ := info36'
  obtain ⟨v', w', hrun, r1, r2, r3⟩ := run_append_own_wide (P := Try.prog) w B 22 o.type 36 i z 33 56 Try.underlying22 hi hz hs1 hby hzs (by omega) v n cs hown ⟨b, 0, none⟩ 1 1 y.cells (by rw [y.cells_length hl]) (fun j u hj => by rw [Addr.add_lit]; exact hy j u hj) (cells_one y) (by unfold maxLen; omega) (by omega) hB
  unfold Oper.wp execOp
  simp only [hop, resolve, invoke, builtin, Sem.run_bind, Sem.run_pure, Result.andThen_ok, List.map_toArray, List.map_cons, List.map_nil, hv, hx, hrun]
  exact hK v' w' r1 r2 (fun e => by have := (r3.1 e).2; omega)
end
theorem own_below36 {w w' : World} {B n : Nat} {v : Value} {xs : List Value} (h : w.ownsRow B 36 33 v n xs) (hb : Below w.heap.size w w') : w'.ownsRow B 36 33 v n xs := by
  refine ⟨h.1, ?_⟩
  rcases h.2 with h2 | ⟨g, cap, cur, e, h1, h2, h3⟩
  · exact .inl h2
  · exact .inr ⟨g, cap, cur, e, h1, (hb.block g (Array.getElem?_eq_some_iff.1 h2).1).trans h2, h3⟩
theorem own_rowT {w : World} {B n c : Nat} {e sz : Nat} {g off : Nat} {xs : List Value} (h : w.ownsRow B e sz (.slice (some ⟨g, off, none⟩) n c) n xs) : RowT w e g := by
  rcases h.2 with ⟨h, _⟩ | ⟨g', cap, cur, h, _, hg, _⟩
  · cases h
  · cases h
    exact ⟨_, _, hg⟩
theorem rowT_ne {w : World} {B n e sz g t : Nat} {v : Value} {xs : List Value} (h : RowT w t g) (ho : w.ownsRow B e sz v n xs) (hne : t ≠ e) : some g ≠ v.ownBlock := by
  rcases ho.2 with ⟨rfl, _⟩ | ⟨g', cap, cur, rfl, _, hg, _⟩
  · simp [Value.ownBlock]
  · intro e1
    have : g = g' := by simpa [Value.ownBlock] using e1
    subst this
    obtain ⟨cs, fr, h1⟩ := h
    rw [h1] at hg
    cases hg
    exact hne rfl
set_option maxRecDepth 100000 in
set_option maxHeartbeats 2000000 in
theorem copies_region {Q : Exit → Act → World → Prop} {x0 x1 x2 x4 x6 x7 x8 x9 x10 x11 x12 x13 x14 x15 x16 x17 x18 x19 x20 x21 x22 x23 : Value} {ds : List Deferred} {A : World} {B i c xb : Nat} {p : Option Addr} {x : It} {cs : List Value}
    (hl : x.name.length = 32) (hn : x.n ≤ 90000) (hi : i ≤ 90000) (HB : Hid (B ≤ A.heap.size ∧ xb < A.heap.size ∧ some xb ≠ (Value.slice p i c).ownBlock)) (HK : Hid (A.rangeAt xb 0 x.cells)) (HD : Hid (HsR A x.a x.n x.deps)) (HO : Hid (A.ownsRow B 36 33 (.slice p i c) i cs))
    (hQ : ∀ (a6 : Option Addr) (c6 g8 : Nat) (p9 : Option Addr) (c9 : Nat) (V : World), Hid (V.ownsRow B 36 33 (.slice p9 (i + 1) c9) (i + 1) (cs ++ (⟨x.name, x.deps, a6, x.n, c6⟩ : It).cells) ∧ Below B A V ∧ (∀ g, RowT A 34 g → V.heap[g]? = A.heap[g]?) ∧ HsR V a6 x.n x.deps ∧ x.n ≤ c6 ∧ (∀ g off, a6 = some ⟨g, off, none⟩ → RowT V 34 g)) → Q .normal { tmps := #[x0, x1, x2, .slice p9 (i + 1) c9, x4, .pointer (some ⟨xb, 0, none⟩), x6, x7, x8, x9, x10, x11, .slice p i c, .pointer (some ⟨xb, 0, none⟩), .agg (U x.name).toArray, .slice (some ⟨A.heap.size, 0, none⟩) 0 0, .pointer (some ⟨xb, 32, none⟩), .slice x.a x.n x.c, .slice a6 x.n c6, .agg (⟨x.name, x.deps, a6, x.n, c6⟩ : It).cells.toArray, .slice (some ⟨g8, 0, none⟩) 1 1, .slice p9 (i + 1) c9, x22, x23], defers := ds } V) :
    (Code.region 5 #[{ dst := some 12, op := Op.move (Operand.tmp 3), type := 22, pos := "law.go:35", after := #[], guard := none }, { dst := some 13, op := Op.fieldAddr 36 (Operand.tmp 5) 0, type := 0, pos := "law.go:35", after := #[], guard := none }, { dst := some 14, op := Op.load 34 (Operand.tmp 13), type := 34, pos := "law.go:35", after := #[{ on := 1, ground := Ground.data }], guard := none }, { dst := some 15, op := Op.buildSlice 26 0 #[], type := 26, pos := "law.go:35", after := #[], guard := none }, { dst := some 16, op := Op.fieldAddr 36 (Operand.tmp 5) 1, type := 0, pos := "law.go:35", after := #[], guard := none }, { dst := some 17, op := Op.load 26 (Operand.tmp 16), type := 26, pos := "law.go:35", after := #[{ on := 4, ground := Ground.data }], guard := none }, { dst := some 18, op := Op.call { callee := Callee.builtin Builtin.append, args := #[Operand.tmp 15, Operand.tmp 17], argTypes := #[26, 26] }, type := 26, pos := "law.go:35", after := #[{ on := 3, ground := Ground.data }, { on := 5, ground := Ground.data }], guard := none }, { dst := some 19, op := Op.build 36 #[(0, Operand.tmp 14), (1, Operand.tmp 18)], type := 36, pos := "law.go:35", after := #[{ on := 2, ground := Ground.data }, { on := 6, ground := Ground.data }], guard := none }, { dst := some 20, op := Op.buildSlice 22 1 #[(0, Operand.tmp 19)], type := 22, pos := "law.go:35", after := #[{ on := 7, ground := Ground.data }], guard := none }, { dst := some 21, op := Op.call { callee := Callee.builtin Builtin.append, args := #[Operand.tmp 12, Operand.tmp 20], argTypes := #[22, 22] }, type := 22, pos := "law.go:35", after := #[{ on := 0, ground := Ground.data }, { on := 8, ground := Ground.data }, { on := 6, ground := Ground.chain }], guard := none }, { dst := some 3, op := Op.assign (Operand.tmp 21), type := 22, pos := "law.go:35", after := #[{ on := 9, ground := Ground.data }, { on := 9, ground := Ground.chain }, { on := 0, ground := Ground.phase }, { on := 1, ground := Ground.phase }, { on := 2, ground := Ground.phase }, { on := 3, ground := Ground.phase }, { on := 4, ground := Ground.phase }, { on := 5, ground := Ground.phase }, { on := 6, ground := Ground.phase }, { on := 7, ground := Ground.phase }, { on := 8, ground := Ground.phase }, { on := 9, ground := Ground.phase }], guard := none }] true).wp Try.prog Q { tmps := #[x0, x1, x2, .slice p i c, x4, .pointer (some ⟨xb, 0, none⟩), x6, x7, x8, x9, x10, x11, x12, x13, x14, x15, x16, x17, x18, x19, x20, x21, x22, x23], defers := ds } A := by
  refine Code.wp_mono (Q := fun x a' w' => match x with | .normal => Q .normal a' w' | _ => False) (by intro x a' w' h; cases x <;> first | exact h | exact h.elim) ?_
  refine wp_region_held (S := fun V => Below B A V ∧ V.rangeAt xb 0 x.cells) (by kernel_rfl) ?_
  have hS0 : Hid (Below B A A.drew ∧ A.drew.rangeAt xb 0 x.cells) := ⟨below_drew A, HK.out⟩
  change wpAnyH Try.prog .any _ _ (fun V => Below B A V ∧ V.rangeAt xb 0 x.cells) 11 (Array.replicate 11 false) _ A.drew
  refine wpAnyH_take (i := 0) (oi := { dst := some 12, op := Op.move (Operand.tmp 3), type := 22, pos := "law.go:35", after := #[], guard := none }) (v := .slice p i c) rfl (by kernel_rfl) (by kernel_rfl) (by kernel_rfl) (fun _ _ _ h => h.elim) (Or.inl ⟨by rfl, ?y0⟩) hS0.out ?_
  case y0 =>
    intro V hV
    go_simp
  simp only [Act.put, List.setIfInBounds_toArray, List.set_cons_zero, List.set_cons_succ]
  refine wpAnyH_take (i := 1) (oi := { dst := some 13, op := Op.fieldAddr 36 (Operand.tmp 5) 0, type := 0, pos := "law.go:35", after := #[], guard := none }) (v := .pointer (some ⟨xb, 0, none⟩)) rfl (by kernel_rfl) (by kernel_rfl) (by kernel_rfl) (fun _ _ _ h => h.elim) (Or.inl ⟨by rfl, ?y1⟩) hS0.out ?_
  case y1 =>
    intro V hV
    go_simp
  simp only [Act.put, List.setIfInBounds_toArray, List.set_cons_zero, List.set_cons_succ]
  refine wpAnyH_take (i := 2) (oi := { dst := some 14, op := Op.load 34 (Operand.tmp 13), type := 34, pos := "law.go:35", after := #[{ on := 1, ground := Ground.data }], guard := none }) (v := .agg (U x.name).toArray) rfl (by kernel_rfl) (by kernel_rfl) (by kernel_rfl) (fun _ _ _ h => h.elim) (yieldsIf_load_mid (by rfl) _ _ rfl _ _ rfl (U x.name) _ (fun V hV => rangeAt_left (show V.rangeAt xb 0 (U x.name ++ [.slice x.a x.n x.c]) from hV.2)) Try.underlying34 rfl (info34 x.name hl)) hS0.out ?_
  simp only [Act.put, List.setIfInBounds_toArray, List.set_cons_zero, List.set_cons_succ]
  refine wpAnyH_take (i := 4) (oi := { dst := some 16, op := Op.fieldAddr 36 (Operand.tmp 5) 1, type := 0, pos := "law.go:35", after := #[], guard := none }) (v := .pointer (some ⟨xb, 32, none⟩)) rfl (by kernel_rfl) (by kernel_rfl) (by kernel_rfl) (fun _ _ _ h => h.elim) (Or.inl ⟨by rfl, ?y4⟩) hS0.out ?_
  case y4 =>
    intro V hV
    go_simp
  simp only [Act.put, List.setIfInBounds_toArray, List.set_cons_zero, List.set_cons_succ]
  refine wpAnyH_take (i := 5) (oi := { dst := some 17, op := Op.load 26 (Operand.tmp 16), type := 26, pos := "law.go:35", after := #[{ on := 4, ground := Ground.data }], guard := none }) (v := .slice x.a x.n x.c) rfl (by kernel_rfl) (by kernel_rfl) (by kernel_rfl) (fun _ _ _ h => h.elim) (Or.inl ⟨by rfl, ?y5⟩) hS0.out ?_
  case y5 =>
    intro V hV
    have q : V.cell? ⟨xb, 32, none⟩ = some (.slice x.a x.n x.c) := by
      have := hV.2 32 (.slice x.a x.n x.c) (by simp [It.cells, U_length, hl])
      simpa using this
    go_simp
  simp only [Act.put, List.setIfInBounds_toArray, List.set_cons_zero, List.set_cons_succ]
  refine wpAnyH_ready (rs := [3]) (by kernel_rfl) (by simp) (AllReadyH.cons (i := 3) (o := { dst := some 15, op := Op.buildSlice 26 0 #[], type := 26, pos := "law.go:35", after := #[], guard := none }) rfl ?_ AllReadyH.nil)
  intro K1 hK1
  rw [if_pos (by rfl)]
  refine wp_bslice0 rfl ?_
  obtain ⟨W1, hW1⟩ : ∃ W1, A.drew.alloc (.cells #[] 34) = W1 := ⟨_, rfl⟩
  have F1 : Hid (Below A.heap.size A W1 ∧ W1.ownsRow A.heap.size 34 32 (.slice (some ⟨A.heap.size, 0, none⟩) 0 0) 0 (UU [])) := by
    rw [← hW1]
    exact ⟨(below_drew A).alloc (Nat.le_refl _) _, own_empty A.drew A.heap.size (Nat.le_refl _)⟩
  rw [hW1]
  clear hW1
  have hS1 : Hid (Below B A W1 ∧ W1.rangeAt xb 0 x.cells) := ⟨F1.out.1.mono HB.out.1, rangeAt_same HK.out (F1.out.1.block _ HB.out.2.1)⟩
  refine hK1.out _ _ hS1.out ?_
  clear hK1
  intro _
  try simp only [Act.put, List.setIfInBounds_toArray, List.set_cons_zero, List.set_cons_succ]
  refine wpAnyH_ready (rs := [6]) (by kernel_rfl) (by simp) (AllReadyH.cons (i := 6) (o := { dst := some 18, op := Op.call { callee := Callee.builtin Builtin.append, args := #[Operand.tmp 15, Operand.tmp 17], argTypes := #[26, 26] }, type := 26, pos := "law.go:35", after := #[{ on := 3, ground := Ground.data }, { on := 5, ground := Ground.data }], guard := none }) rfl ?_ AllReadyH.nil)
  intro K1 hK1
  rw [if_pos (by rfl)]
  refine wp_app (.tmp 15) (.tmp 17) rfl A.heap.size (.slice (some ⟨A.heap.size, 0, none⟩) 0 0) 0 [] x.a x.n x.c x.deps rfl rfl F1.out.2 (HD.out.below F1.out.1) (by omega) F1.out.1.size ?_
  intro v6 W2 r1 r2 r3
  rw [Nat.zero_add, List.nil_append] at r1
  obtain ⟨a6, c6, rfl, r4, r5, _⟩ := own_read r1 HD.out.2.1
  have F2 : Hid (Below A.heap.size A W2 ∧ HsR W2 a6 x.n x.deps ∧ x.n ≤ c6 ∧ ∀ g off, a6 = some ⟨g, off, none⟩ → RowT W2 34 g) := ⟨below_row F1.out.1 r2 F1.out.2, r4, r5, fun g off e => by subst e; exact own_rowT r1⟩
  clear r1 r2 r3 r4 r5
  have hS2 : Hid (Below B A W2 ∧ W2.rangeAt xb 0 x.cells) := ⟨F2.out.1.mono HB.out.1, rangeAt_same HK.out (F2.out.1.block _ HB.out.2.1)⟩
  refine hK1.out _ _ hS2.out ?_
  clear hK1
  intro _
  try simp only [Act.put, List.setIfInBounds_toArray, List.set_cons_zero, List.set_cons_succ]
  refine wpAnyH_ready (rs := [7]) (by kernel_rfl) (by simp) (AllReadyH.cons (i := 7) (o := { dst := some 19, op := Op.build 36 #[(0, Operand.tmp 14), (1, Operand.tmp 18)], type := 36, pos := "law.go:35", after := #[{ on := 2, ground := Ground.data }, { on := 6, ground := Ground.data }], guard := none }) rfl ?_ AllReadyH.nil)
  intro K1 hK1
  rw [if_pos (by rfl)]
  refine wp_build36 (.tmp 14) (.tmp 18) rfl x.name hl x.deps a6 x.n c6 rfl rfl ?_
  have hS3 : Hid (Below B A W2 ∧ W2.rangeAt xb 0 x.cells) := hS2.out
  refine hK1.out _ _ hS3.out ?_
  clear hK1
  intro _
  try simp only [Act.put, List.setIfInBounds_toArray, List.set_cons_zero, List.set_cons_succ]
  refine wpAnyH_ready (rs := [8]) (by kernel_rfl) (by simp) (AllReadyH.cons (i := 8) (o := { dst := some 20, op := Op.buildSlice 22 1 #[(0, Operand.tmp 19)], type := 22, pos := "law.go:35", after := #[{ on := 7, ground := Ground.data }], guard := none }) rfl ?_ AllReadyH.nil)
  intro K1 hK1
  rw [if_pos (by rfl)]
  refine wp_bslice36 (.tmp 19) rfl (⟨x.name, x.deps, a6, x.n, c6⟩ : It) hl rfl ?_
  obtain ⟨W3, hW3⟩ : ∃ W3, W2.alloc (.cells (⟨x.name, x.deps, a6, x.n, c6⟩ : It).cells.toArray 36) = W3 := ⟨_, rfl⟩
  obtain ⟨g8, hg8⟩ : ∃ g8, W2.heap.size = g8 := ⟨_, rfl⟩
  have F3 : Hid (Below W2.heap.size W2 W3 ∧ W3.rangeAt g8 0 (⟨x.name, x.deps, a6, x.n, c6⟩ : It).cells ∧ W3.ownsRow B 36 33 (.slice p i c) i cs) := by
    rw [← hW3, ← hg8]
    refine ⟨(Below.refl _ W2).alloc (Nat.le_refl _) _, ?_, own_below36 (own_below36 HO.out F2.out.1) ((Below.refl _ W2).alloc (Nat.le_refl _) _)⟩
    intro j v hj
    exact (Blk.new W2 (⟨x.name, x.deps, a6, x.n, c6⟩ : It).cells.toArray 36).cell (i := 0 + j) (v := v) (by simpa using hj)
  rw [hW3, hg8]
  clear hW3 hg8
  have hS4 : Hid (Below B A W3 ∧ W3.rangeAt xb 0 x.cells) := ⟨(bt F2.out.1 F3.out.1).mono HB.out.1, rangeAt_same HK.out ((bt F2.out.1 F3.out.1).block _ HB.out.2.1)⟩
  refine hK1.out _ _ hS4.out ?_
  clear hK1
  intro _
  try simp only [Act.put, List.setIfInBounds_toArray, List.set_cons_zero, List.set_cons_succ]
  refine wpAnyH_ready (rs := [9]) (by kernel_rfl) (by simp) (AllReadyH.cons (i := 9) (o := { dst := some 21, op := Op.call { callee := Callee.builtin Builtin.append, args := #[Operand.tmp 12, Operand.tmp 20], argTypes := #[22, 22] }, type := 22, pos := "law.go:35", after := #[{ on := 0, ground := Ground.data }, { on := 8, ground := Ground.data }, { on := 6, ground := Ground.chain }], guard := none }) rfl ?_ AllReadyH.nil)
  intro K1 hK1
  rw [if_pos (by rfl)]
  refine wp_app36 (.tmp 12) (.tmp 20) rfl B (.slice p i c) i cs (⟨x.name, x.deps, a6, x.n, c6⟩ : It) hl rfl g8 rfl F3.out.2.2 F3.out.2.1 (by omega) (Nat.le_trans HB.out.1 (bt F2.out.1 F3.out.1).size) ?_
  intro v9 W4 r1 r2 r3
  obtain ⟨p9, c9, rfl, hp9⟩ : ∃ p9 c9, v9 = .slice p9 (i + 1) c9 ∧ True := by
    rcases r1.2 with ⟨e, e2⟩ | ⟨g, cap, cur, e, _⟩
    · exact absurd e r3
    · exact ⟨_, cap, e, trivial⟩
  have F4 : Hid (W4.ownsRow B 36 33 (.slice p9 (i + 1) c9) (i + 1) (cs ++ (⟨x.name, x.deps, a6, x.n, c6⟩ : It).cells) ∧ Below B A W4 ∧ (∀ g, RowT A 34 g → W4.heap[g]? = A.heap[g]?) ∧ HsR W4 a6 x.n x.deps ∧ x.n ≤ c6 ∧ (∀ g off, a6 = some ⟨g, off, none⟩ → RowT W4 34 g)) := by
    have b3 := bt F2.out.1 F3.out.1
    have keep : ∀ g, RowT W3 34 g → W4.heap[g]? = W3.heap[g]? := fun g hg => r2.block g hg.lt (rowT_ne hg F3.out.2.2 (by omega))
    refine ⟨r1, ?_, fun g hg => ?_, ?_, F2.out.2.2.1, fun g off e => ?_⟩
    · exact ⟨r2.os.trans b3.os, r2.tape.trans b3.tape, r2.output.trans b3.output, Nat.le_trans b3.size r2.size, fun k hk => (r2.block k (by have := b3.size; have := HB.out.1; omega) (fun e => by have := (F3.out.2.2.lt _ e.symm).1; omega)).trans (b3.block k (by have := HB.out.1; omega))⟩
    · have h1 := b3.block g hg.lt
      exact (keep g (hg.same h1)).trans h1
    · refine (F2.out.2.1.below F3.out.1).same r2.size (fun g off e => keep g ?_)
      have h2 := F2.out.2.2.2 g off e
      exact h2.same (F3.out.1.block g h2.lt)
    · have h2 := F2.out.2.2.2 g off e
      have h3 := h2.same (F3.out.1.block g h2.lt)
      exact h3.same (keep g h3)
  have F5 : Hid (W4.rangeAt xb 0 x.cells) := rangeAt_same HK.out ((r2.block xb (by have := (bt F2.out.1 F3.out.1).size; have := HB.out.2.1; omega) HB.out.2.2).trans ((bt F2.out.1 F3.out.1).block xb HB.out.2.1))
  clear r1 r2 r3 hp9
  have hS5 : Hid (Below B A W4 ∧ W4.rangeAt xb 0 x.cells) := ⟨F4.out.2.1, F5.out⟩
  refine hK1.out _ _ hS5.out ?_
  clear hK1
  intro _
  try simp only [Act.put, List.setIfInBounds_toArray, List.set_cons_zero, List.set_cons_succ]
  refine wpAnyH_take (i := 10) (oi := { dst := some 3, op := Op.assign (Operand.tmp 21), type := 22, pos := "law.go:35", after := #[{ on := 9, ground := Ground.data }, { on := 9, ground := Ground.chain }, { on := 0, ground := Ground.phase }, { on := 1, ground := Ground.phase }, { on := 2, ground := Ground.phase }, { on := 3, ground := Ground.phase }, { on := 4, ground := Ground.phase }, { on := 5, ground := Ground.phase }, { on := 6, ground := Ground.phase }, { on := 7, ground := Ground.phase }, { on := 8, ground := Ground.phase }, { on := 9, ground := Ground.phase }], guard := none }) (v := .slice p9 (i + 1) c9) rfl (by kernel_rfl) (by kernel_rfl) (by kernel_rfl) (fun _ _ _ h => h.elim) (Or.inl ⟨by rfl, ?y10⟩) hS5.out ?_
  case y10 =>
    intro V hV
    go_simp
  simp only [Act.put, List.setIfInBounds_toArray, List.set_cons_zero, List.set_cons_succ]
  refine wpAnyH_done (by kernel_rfl) ?_ _
  exact hQ a6 c6 g8 p9 c9 W4 F4
end Go.Proofs.Ytijkpkcopjkhkaa.Oct

/- Layer 12 (deps): items that are turned, and what each needs the other way round, say the same. Plain facts. -/
namespace Go.Proofs.Ytijkpkcopjkhkaa.Oct

/-- the i-th of items that are turned by c -/
def rotN (len c i : Nat) : Nat := (i + c) % len
def rotL (l : List It) (c n : Nat) : List It := (List.range n).filterMap fun i => l[rotN l.length c i]?
theorem rotL_succ {l : List It} {c n : Nat} {x : It} (h : l[rotN l.length c n]? = some x) : rotL l c (n + 1) = rotL l c n ++ [x] := by
  unfold rotL
  rw [List.range_succ, List.filterMap_append]
  simp [h]
theorem rotL_all (l : List It) (c : Nat) (hc : c < l.length) : rotL l c l.length = l.drop c ++ l.take c := by
  have key : ∀ n, n ≤ l.length → rotL l c n = (l.drop c ++ l.take c).take n := by
    intro n
    induction n with
    | zero => intro _; simp [rotL]
    | succ n ih =>
      intro hn
      have hlt : rotN l.length c n < l.length := Nat.mod_lt _ (by omega)
      rw [rotL_succ (List.getElem?_eq_getElem hlt), ih (by omega), List.take_add_one]
      congr 1
      have e : (l.drop c ++ l.take c)[n]? = l[rotN l.length c n]? := by
        unfold rotN
        by_cases h : n + c < l.length
        · rw [List.getElem?_append_left (by simp; omega), Nat.mod_eq_of_lt h, List.getElem?_drop, Nat.add_comm]
        · have : (n + c) % l.length = n + c - l.length := by
            rw [Nat.mod_eq_sub_mod (by omega)]
            exact Nat.mod_eq_of_lt (by omega)
          rw [List.getElem?_append_right (by simp; omega), this, List.length_drop, List.getElem?_take_of_lt (by omega)]
          congr 1
          omega
      rw [e, List.getElem?_eq_getElem hlt]
      rfl
  rw [key l.length (Nat.le_refl _), List.take_of_length_le (by simp; omega)]
def kd (x : It) : Hs × List Hs := (x.name, x.deps)
def kr (x : It) : Hs × List Hs := (x.name, x.deps.reverse)
/-- items that were turned say the same -/
theorem turned_alike {l m : List It} {c : Nat} (hc : c < l.length) (hm : m.map kd = ((rotL l c l.length).map kr).reverse) : Alike l m ∧ many m = many l := by
  rw [rotL_all l c hc] at hm
  have hp : (m.map kd).Perm (l.map kr) := by
    rw [hm]
    refine (List.reverse_perm _).trans (List.Perm.map _ ?_)
    refine List.perm_append_comm.trans ?_
    rw [List.take_append_drop]
  have hn : (m.map (·.name)).Perm (l.map (·.name)) := by
    have := hp.map Prod.fst
    simpa [Function.comp_def, kd, kr] using this
  refine ⟨⟨?_, ?_, ?_, ?_⟩, ?_⟩
  · have := hp.length_eq; simpa using this.symm
  · exact hn.nodup_iff.symm
  · exact fun h => hn.mem_iff.symm
  · intro n d
    constructor
    · rintro ⟨x, hx, e, hd⟩
      have h1 : kr x ∈ m.map kd := hp.mem_iff.2 (List.mem_map.2 ⟨x, hx, rfl⟩)
      obtain ⟨y, hy, he⟩ := List.mem_map.1 h1
      simp only [kd, kr, Prod.mk.injEq] at he
      exact ⟨y, hy, he.1.trans e, by rw [he.2]; simpa using hd⟩
    · rintro ⟨y, hy, e, hd⟩
      have h1 : kd y ∈ l.map kr := hp.mem_iff.1 (List.mem_map.2 ⟨y, hy, rfl⟩)
      obtain ⟨x, hx, he⟩ := List.mem_map.1 h1
      simp only [kd, kr, Prod.mk.injEq] at he
      refine ⟨x, hx, he.1.trans e, ?_⟩
      rw [← he.2] at hd
      simpa using hd
  · unfold many
    have := (hp.map (fun p => p.2.length)).sum_nat
    simpa [Function.comp_def, kd, kr] using this
end Go.Proofs.Ytijkpkcopjkhkaa.Oct

/- Layer 12 (deps): copies. -/
namespace Go.Proofs.Ytijkpkcopjkhkaa.Oct
open Go.RowKit

/-- an item whose hashes lie in a row of hashes -/
def ItC (w : World) (x : It) : Prop := ItOk w x ∧ ∀ g off, x.a = some ⟨g, off, none⟩ → RowT w 34 g
theorem ItC.keep {w w' : World} {x : It} (h : ItC w x) (hs : w.heap.size ≤ w'.heap.size) (hk : ∀ g, RowT w 34 g → w'.heap[g]? = w.heap[g]?) : ItC w' x :=
  ⟨⟨h.1.1, h.1.2.1.same hs (fun g off e => hk g (h.2 g off e)), h.1.2.2⟩, fun g off e => (h.2 g off e).same (hk g (h.2 g off e))⟩
theorem ItC.below {w w' : World} {x : It} (h : ItC w x) (hb : Below w.heap.size w w') : ItC w' x := h.keep hb.size (fun g hg => hb.block g hg.lt)
def CopyP (w : World) (len : Nat) (l : List It) (e : Ending) (w' : World) : Prop := ∃ p c ms, e = .returned (.slice p len c) ∧ Hid (MRow w' p len ms ∧ ms.map kd = l.map kd) ∧ Hid (Below w.heap.size w w')
theorem map_take_kd {l : List It} {i : Nat} {x : It} (h : l[i]? = some x) : (l.take (i + 1)).map kd = (l.take i).map kd ++ [kd x] := by
  rw [List.take_add_one, h]; simp

set_option maxRecDepth 100000 in
set_option maxHeartbeats 4000000 in
theorem copies_is (w : World) (a : Option Addr) (len cap : Nat) (l : List It) (hi : Its w a len l) (hn : len ≤ 90000) (hm : many l ≤ 90000) :
    Calls Try.prog 10 #[.slice a len cap] w (CopyP w len l) := by
  have HA : Hid (Its w a len l ∧ len ≤ 90000 ∧ many l ≤ 90000 ∧ l.length = len) := ⟨hi, hn, hm, hi.1⟩
  have q5 : (len : Int) ≤ 90000 := by omega
  obtain ⟨Z, hZl, hZ⟩ := zero36
  have HZ : Hid (Z.length = 33) := hZl
  clear hi hn hm hZl
  go_enter Try.func10, Try.ntmps10
  go_wp2
  go_loopw [8, 3] (fun u v wr => ∃ (i : Nat) (p : Option Addr) (c : Nat) (ms : List It), u = .int .i64 (i : Int) ∧ v = .slice p i c ∧ Hid (i ≤ len ∧ Below w.heap.size w wr ∧ wr.ownsRow w.heap.size 36 33 (.slice p i c) i (CC ms) ∧ (∀ x ∈ ms, ItC wr x) ∧ ms.map kd = (l.take i).map kd)) (fun u _ _ => len - (intOf u).toNat)
  case atStart => exact ⟨0, none, 0, [], rfl, rfl, ⟨Nat.zero_le _, Below.refl _ _, ⟨by simp [CC], .inl ⟨rfl, rfl⟩⟩, by simp, by simp⟩⟩
  case round =>
    obtain ⟨i, p, c, ms, rfl, rfl, HJ⟩ := hrel
    by_cases hin : i < len
    · obtain ⟨x, hx⟩ : ∃ x, l[i]? = some x := ⟨_, List.getElem?_eq_getElem (by rw [HA.out.2.2.2]; exact hin)⟩
      obtain ⟨b, off, rfl, hb, hel⟩ := HA.out.1.2 (by omega)
      have HX : Hid (i < len ∧ l[i]? = some x ∧ x.name.length = 32) := ⟨hin, hx, (hel i x hx).1⟩
      have HRA : Hid (wr.rangeAt b (off + i * 33) x.cells) := rangeAt_same (hel i x hx).2.1 (HJ.out.2.1.block b hb)
      have HDW : Hid (HsR w x.a x.n x.deps) := (hel i x hx).2.2.1
      have HXN : Hid (x.n ≤ 90000) := by show _ ≤ _; have h1 := dep_le l i x hx; have h2 := HDW.out.1; have h3 := HA.out.2.2.1; omega
      have q2 : (i : Int) < (len : Int) := by omega
      clear hel hx hin hb
      go_wp2_with (first
        | (with_reducible change wpList _ _ _ ({ dst := some 11, op := _, type := _, pos := _, after := _, guard := _ } :: _) _ _
           refine wpList_load_mid rfl 36 (.tmp 10) rfl b (off + i * 33) rfl x.cells _ HRA.out Try.underlying36 rfl (info36 x HX.out.2.2) ?_)
        | (with_reducible change wpList _ _ _ ({ dst := none, op := Op.store 36 _ _, type := _, pos := _, after := _, guard := _ } :: _) _ _
           refine wpList_store_fresh rfl 36 (.tmp 5) (.tmp 11) rfl Z x.cells 36 rfl rfl (by rw [x.cells_length HX.out.2.2, HZ.out]) (info36 x HX.out.2.2) (cells_one x) ?_)
        | fail)
      obtain ⟨V, hV⟩ : ∃ V, wr.alloc (.cells x.cells.toArray 36) = V := ⟨_, rfl⟩
      obtain ⟨xb, hxb⟩ : ∃ xb, wr.heap.size = xb := ⟨_, rfl⟩
      have HV : Hid (Below w.heap.size w V ∧ V.rangeAt xb 0 x.cells ∧ V.ownsRow w.heap.size 36 33 (.slice p i c) i (CC ms) ∧ (∀ y ∈ ms, ItC V y) ∧ xb < V.heap.size ∧ some xb ≠ (Value.slice p i c).ownBlock) := by
        have h1 : Below wr.heap.size wr V := by rw [← hV]; exact (Below.refl _ wr).alloc (Nat.le_refl _) _
        refine ⟨bt HJ.out.2.1 h1, ?_, own_below36 HJ.out.2.2.1 h1, fun y hy => (HJ.out.2.2.2.1 y hy).below h1, by rw [← hV, ← hxb]; simp, fun e => ?_⟩
        · rw [← hV, ← hxb]
          intro j v hj
          exact (Blk.new wr x.cells.toArray 36).cell (i := 0 + j) (v := v) (by simpa using hj)
        · have := (HJ.out.2.2.1.lt _ e.symm).2
          omega
      rw [hV, hxb]
      clear hV hxb HRA
      refine copies_region (B := w.heap.size) (x := x) (cs := CC ms) HX.out.2.2 HXN.out (by have := HX.out.1; have := HA.out.2.1; omega) ⟨HV.out.1.size, HV.out.2.2.2.2.1, HV.out.2.2.2.2.2⟩ HV.out.2.1 (HDW.out.below HV.out.1) HV.out.2.2.1 ?_
      intro a6 c6 g8 p9 c9 V4 HF
      obtain ⟨y, hy⟩ : ∃ y : It, y = ⟨x.name, x.deps, a6, x.n, c6⟩ := ⟨_, rfl⟩
      have HG : Hid (Below w.heap.size w V4 ∧ V4.ownsRow w.heap.size 36 33 (.slice p9 (i + 1) c9) (i + 1) (CC (ms ++ [y])) ∧ (∀ z ∈ ms ++ [y], ItC V4 z) ∧ kd y = kd x) := by
        refine ⟨HV.out.1.trans HF.out.2.1, ?_, fun z hz => ?_, by rw [hy]; rfl⟩
        · have := HF.out.1
          rw [← hy] at this
          simpa [CC] using this
        · rcases List.mem_append.1 hz with hz | hz
          · exact (HV.out.2.2.2.1 z hz).keep HF.out.2.1.size HF.out.2.2.1
          · simp at hz
            subst hz hy
            exact ⟨⟨HX.out.2.2, HF.out.2.2.2.1, HF.out.2.2.2.2.1, by show x.n ≤ _; have := HXN.out; omega⟩, HF.out.2.2.2.2.2⟩
      clear HF hy
      go_wp2
      refine ⟨⟨i + 1, p9, c9, ms ++ [y], by simp, rfl, ⟨HX.out.1, HG.out.1, HG.out.2.1, HG.out.2.2.1, ?_⟩⟩, ?_⟩
      · rw [map_take_kd HX.out.2.1, List.map_append, HJ.out.2.2.2.2, List.map_cons, HG.out.2.2.2]
        rfl
      · have := HX.out.1; simp [intOf]; omega
    · have q2 : ¬ (i : Int) < (len : Int) := by omega
      obtain rfl : i = len := by have := HJ.out.1; omega
      clear hin
      have HF : Hid (MRow wr p i ms ∧ ms.map kd = l.map kd) := by
        have hk := HJ.out.2.2.2.2
        rw [List.take_of_length_le (by have := HA.out.2.2.2; omega)] at hk
        refine ⟨⟨?_, ?_, fun x hx => (HJ.out.2.2.2.1 x hx).1⟩, hk⟩
        · have := congrArg List.length hk
          simp at this
          rw [this, HA.out.2.2.2]
        · obtain ⟨a', c', e, _, h1, _⟩ := (show Bs 36 33 w.heap.size wr (.slice p i c) i (CC ms) from .inr ⟨CC_one ms, HJ.out.2.2.1⟩).read
          cases e
          exact h1
      go_wp2
      go_ret
      exact ⟨p, c, ms, rfl, HF, HJ.out.2.1⟩
end Go.Proofs.Ytijkpkcopjkhkaa.Oct

/- Layer 12 (deps): DepsOrders: its comparison, whatever its order. -/
namespace Go.Proofs.Ytijkpkcopjkhkaa.Oct
open Go.RowKit
set_option linter.unusedSimpArgs false

set_option maxRecDepth 100000 in
set_option maxHeartbeats 2000000 in
theorem orders_region {Q : Exit → Act → World → Prop} {x1 x2 x4 x5 x6 x7 x9 x10 x11 x12 x13 x14 x15 x16 x17 x18 x19 x20 x21 x22 x23 x24 x25 x26 x27 x28 x29 x30 x31 x32 x33 x34 x35 x36 x37 x38 x39 x40 x41 x42 x43 x44 x45 x46 x47 x48 x49 x50 x51 x52 x53 x54 x55 x56 x57 x58 x59 x60 x61 x62 x63 x64 x65 : Value} {ds : List Deferred} {A : World} {g off c g3 off3 c3 n i ny cy nx cx : Nat} {ax ay : Option Addr} {x : Hs} {dd : List Hs}
    (hx : x.length = 32) (q1 : (i : Int) < (n : Int)) (HK : Hid (A.rangeAt g3 (off3 + i * 33) (U x) ∧ A.rangeAt g (off + i * 33) (U x) ∧ g3 < A.heap.size ∧ g < A.heap.size)) (HC : Hid (A.cell? ⟨g3, off3 + i * 33 + 32, none⟩ = some (.slice ay ny cy) ∧ A.cell? ⟨g, off + i * 33 + 32, none⟩ = some (.slice ax nx cx))) (HD : Hid (HsR A ay ny dd ∧ HsR A ax nx dd ∧ ny ≤ 100000 ∧ nx ≤ 100000)) (heq : ∀ W, (Op.equalIn 10000 34 (.agg (U x).toArray) (.agg (U x).toArray)).run Try.prog W = .ok true W)
    (hQ : ∀ (V : World), Below A.heap.size A V → Q .normal { tmps := #[.slice (some ⟨g, off, none⟩) n c, x1, x2, .slice (some ⟨g3, off3, none⟩) n c3, x4, x5, x6, x7, .int .i64 (i : Int), x9, x10, x11, x12, x13, x14, x15, x16, x17, x18, x19, x20, x21, x22, x23, x24, x25, x26, x27, x28, x29, x30, x31, x32, x33, x34, x35, x36, x37, x38, .slice (some ⟨g3, off3, none⟩) n c3, .int .i64 (i : Int), .pointer (some ⟨g3, off3 + i * 33, none⟩), .pointer (some ⟨g3, off3 + i * 33, none⟩), .agg (U x).toArray, .slice (some ⟨g, off, none⟩) n c, .int .i64 (i : Int), .pointer (some ⟨g, off + i * 33, none⟩), .pointer (some ⟨g, off + i * 33, none⟩), .agg (U x).toArray, .bool false, .bool false, .slice (some ⟨g3, off3, none⟩) n c3, .int .i64 (i : Int), .pointer (some ⟨g3, off3 + i * 33, none⟩), .pointer (some ⟨g3, off3 + i * 33 + 32, none⟩), .slice ay ny cy, .slice (some ⟨g, off, none⟩) n c, .int .i64 (i : Int), .pointer (some ⟨g, off + i * 33, none⟩), .pointer (some ⟨g, off + i * 33 + 32, none⟩), .slice ax nx cx, .bool true, .bool false, .bool false, x64, x65], defers := ds } V) :
    (Code.region 11 #[{ dst := some 39, op := Op.move (Operand.tmp 3), type := 22, pos := "law.go:52", after := #[], guard := none }, { dst := some 40, op := Op.move (Operand.tmp 8), type := 3, pos := "law.go:52", after := #[], guard := none }, { dst := some 41, op := Op.indexAddr 22 (Operand.tmp 39) (Operand.tmp 40), type := 0, pos := "law.go:52", after := #[{ on := 0, ground := Ground.data }, { on := 1, ground := Ground.data }], guard := none }, { dst := some 42, op := Op.fieldAddr 36 (Operand.tmp 41) 0, type := 0, pos := "law.go:52", after := #[{ on := 2, ground := Ground.data }], guard := none }, { dst := some 43, op := Op.load 34 (Operand.tmp 42), type := 34, pos := "law.go:52", after := #[{ on := 3, ground := Ground.data }], guard := none }, { dst := some 44, op := Op.move (Operand.tmp 0), type := 22, pos := "law.go:52", after := #[], guard := none }, { dst := some 45, op := Op.move (Operand.tmp 8), type := 3, pos := "law.go:52", after := #[], guard := none }, { dst := some 46, op := Op.indexAddr 22 (Operand.tmp 44) (Operand.tmp 45), type := 0, pos := "law.go:52", after := #[{ on := 5, ground := Ground.data }, { on := 6, ground := Ground.data }], guard := none }, { dst := some 47, op := Op.fieldAddr 36 (Operand.tmp 46) 0, type := 0, pos := "law.go:52", after := #[{ on := 7, ground := Ground.data }], guard := none }, { dst := some 48, op := Op.load 34 (Operand.tmp 47), type := 34, pos := "law.go:52", after := #[{ on := 8, ground := Ground.data }], guard := none }, { dst := some 49, op := Op.binOp BinOp.neq 34 (Operand.tmp 43) (Operand.tmp 48) 34, type := 4, pos := "law.go:52", after := #[{ on := 4, ground := Ground.data }, { on := 9, ground := Ground.data }], guard := none }, { dst := some 50, op := Op.move (Operand.tmp 49), type := 4, pos := "law.go:52", after := #[{ on := 10, ground := Ground.data }], guard := none }, { dst := some 51, op := Op.move (Operand.tmp 3), type := 22, pos := "law.go:52", after := #[{ on := 11, ground := Ground.guard }], guard := some (11, false) }, { dst := some 52, op := Op.move (Operand.tmp 8), type := 3, pos := "law.go:52", after := #[{ on := 11, ground := Ground.guard }], guard := some (11, false) }, { dst := some 53, op := Op.indexAddr 22 (Operand.tmp 51) (Operand.tmp 52), type := 0, pos := "law.go:52", after := #[{ on := 12, ground := Ground.data }, { on := 13, ground := Ground.data }, { on := 11, ground := Ground.guard }], guard := some (11, false) }, { dst := some 54, op := Op.fieldAddr 36 (Operand.tmp 53) 1, type := 0, pos := "law.go:52", after := #[{ on := 14, ground := Ground.data }, { on := 11, ground := Ground.guard }], guard := some (11, false) }, { dst := some 55, op := Op.load 26 (Operand.tmp 54), type := 26, pos := "law.go:52", after := #[{ on := 15, ground := Ground.data }, { on := 11, ground := Ground.guard }], guard := some (11, false) }, { dst := some 56, op := Op.move (Operand.tmp 0), type := 22, pos := "law.go:52", after := #[{ on := 11, ground := Ground.guard }], guard := some (11, false) }, { dst := some 57, op := Op.move (Operand.tmp 8), type := 3, pos := "law.go:52", after := #[{ on := 11, ground := Ground.guard }], guard := some (11, false) }, { dst := some 58, op := Op.indexAddr 22 (Operand.tmp 56) (Operand.tmp 57), type := 0, pos := "law.go:52", after := #[{ on := 17, ground := Ground.data }, { on := 18, ground := Ground.data }, { on := 11, ground := Ground.guard }], guard := some (11, false) }, { dst := some 59, op := Op.fieldAddr 36 (Operand.tmp 58) 1, type := 0, pos := "law.go:52", after := #[{ on := 19, ground := Ground.data }, { on := 11, ground := Ground.guard }], guard := some (11, false) }, { dst := some 60, op := Op.load 26 (Operand.tmp 59), type := 26, pos := "law.go:52", after := #[{ on := 20, ground := Ground.data }, { on := 11, ground := Ground.guard }], guard := some (11, false) }, { dst := some 61, op := Op.call { callee := Callee.value (Operand.func 13), args := #[Operand.tmp 55, Operand.tmp 60], argTypes := #[26, 26] }, type := 4, pos := "law.go:52", after := #[{ on := 16, ground := Ground.data }, { on := 21, ground := Ground.data }, { on := 11, ground := Ground.chain }, { on := 11, ground := Ground.guard }], guard := some (11, false) }, { dst := some 62, op := Op.unOp UnOp.not 4 (Operand.tmp 61), type := 4, pos := "law.go:52", after := #[{ on := 22, ground := Ground.data }, { on := 11, ground := Ground.guard }], guard := some (11, false) }, { dst := some 63, op := Op.pick (Operand.tmp 50) (Operand.const (Value.bool true)) (Operand.tmp 62), type := 4, pos := "law.go:52", after := #[{ on := 11, ground := Ground.data }, { on := 23, ground := Ground.data }], guard := none }] true).wp Try.prog Q { tmps := #[.slice (some ⟨g, off, none⟩) n c, x1, x2, .slice (some ⟨g3, off3, none⟩) n c3, x4, x5, x6, x7, .int .i64 (i : Int), x9, x10, x11, x12, x13, x14, x15, x16, x17, x18, x19, x20, x21, x22, x23, x24, x25, x26, x27, x28, x29, x30, x31, x32, x33, x34, x35, x36, x37, x38, x39, x40, x41, x42, x43, x44, x45, x46, x47, x48, x49, x50, x51, x52, x53, x54, x55, x56, x57, x58, x59, x60, x61, x62, x63, x64, x65], defers := ds } A := by
  refine Code.wp_mono (Q := fun x a' w' => match x with | .normal => Q .normal a' w' | _ => False) (by intro x a' w' h; cases x <;> first | exact h | exact h.elim) ?_
  refine wp_region_held (S := fun V => Below A.heap.size A V) (by kernel_rfl) ?_
  have hS0 : Hid (Below A.heap.size A A.drew) := below_drew A
  change wpAnyH Try.prog .any _ _ (fun V => Below A.heap.size A V) 25 (Array.replicate 25 false) _ A.drew
  refine wpAnyH_take (i := 0) (oi := { dst := some 39, op := Op.move (Operand.tmp 3), type := 22, pos := "law.go:52", after := #[], guard := none }) (v := .slice (some ⟨g3, off3, none⟩) n c3) rfl (by kernel_rfl) (by kernel_rfl) (by kernel_rfl) (fun _ _ _ h => h.elim) (Or.inl ⟨by rfl, ?y0⟩) hS0.out ?_
  case y0 =>
    intro V hV
    go_simp
  simp only [Act.put, List.setIfInBounds_toArray, List.set_cons_zero, List.set_cons_succ]
  refine wpAnyH_take (i := 1) (oi := { dst := some 40, op := Op.move (Operand.tmp 8), type := 3, pos := "law.go:52", after := #[], guard := none }) (v := .int .i64 (i : Int)) rfl (by kernel_rfl) (by kernel_rfl) (by kernel_rfl) (fun _ _ _ h => h.elim) (Or.inl ⟨by rfl, ?y1⟩) hS0.out ?_
  case y1 =>
    intro V hV
    go_simp
  simp only [Act.put, List.setIfInBounds_toArray, List.set_cons_zero, List.set_cons_succ]
  refine wpAnyH_take (i := 2) (oi := { dst := some 41, op := Op.indexAddr 22 (Operand.tmp 39) (Operand.tmp 40), type := 0, pos := "law.go:52", after := #[{ on := 0, ground := Ground.data }, { on := 1, ground := Ground.data }], guard := none }) (v := .pointer (some ⟨g3, off3 + i * 33, none⟩)) rfl (by kernel_rfl) (by kernel_rfl) (by kernel_rfl) (fun _ _ _ h => h.elim) (Or.inl ⟨by rfl, ?y2⟩) hS0.out ?_
  case y2 =>
    intro V hV
    go_simp
  simp only [Act.put, List.setIfInBounds_toArray, List.set_cons_zero, List.set_cons_succ]
  refine wpAnyH_take (i := 3) (oi := { dst := some 42, op := Op.fieldAddr 36 (Operand.tmp 41) 0, type := 0, pos := "law.go:52", after := #[{ on := 2, ground := Ground.data }], guard := none }) (v := .pointer (some ⟨g3, off3 + i * 33, none⟩)) rfl (by kernel_rfl) (by kernel_rfl) (by kernel_rfl) (fun _ _ _ h => h.elim) (Or.inl ⟨by rfl, ?y3⟩) hS0.out ?_
  case y3 =>
    intro V hV
    go_simp
  simp only [Act.put, List.setIfInBounds_toArray, List.set_cons_zero, List.set_cons_succ]
  refine wpAnyH_take (i := 4) (oi := { dst := some 43, op := Op.load 34 (Operand.tmp 42), type := 34, pos := "law.go:52", after := #[{ on := 3, ground := Ground.data }], guard := none }) (v := .agg (U x).toArray) rfl (by kernel_rfl) (by kernel_rfl) (by kernel_rfl) (fun _ _ _ h => h.elim) (yieldsIf_load_mid (by rfl) _ _ rfl _ _ rfl (U x) _ (fun V hV => rangeAt_same (HK.out.1) ((show Below A.heap.size A V from hV).block _ (HK.out.2.2.1))) Try.underlying34 rfl (info34 x hx)) hS0.out ?_
  simp only [Act.put, List.setIfInBounds_toArray, List.set_cons_zero, List.set_cons_succ]
  refine wpAnyH_take (i := 5) (oi := { dst := some 44, op := Op.move (Operand.tmp 0), type := 22, pos := "law.go:52", after := #[], guard := none }) (v := .slice (some ⟨g, off, none⟩) n c) rfl (by kernel_rfl) (by kernel_rfl) (by kernel_rfl) (fun _ _ _ h => h.elim) (Or.inl ⟨by rfl, ?y5⟩) hS0.out ?_
  case y5 =>
    intro V hV
    go_simp
  simp only [Act.put, List.setIfInBounds_toArray, List.set_cons_zero, List.set_cons_succ]
  refine wpAnyH_take (i := 6) (oi := { dst := some 45, op := Op.move (Operand.tmp 8), type := 3, pos := "law.go:52", after := #[], guard := none }) (v := .int .i64 (i : Int)) rfl (by kernel_rfl) (by kernel_rfl) (by kernel_rfl) (fun _ _ _ h => h.elim) (Or.inl ⟨by rfl, ?y6⟩) hS0.out ?_
  case y6 =>
    intro V hV
    go_simp
  simp only [Act.put, List.setIfInBounds_toArray, List.set_cons_zero, List.set_cons_succ]
  refine wpAnyH_take (i := 7) (oi := { dst := some 46, op := Op.indexAddr 22 (Operand.tmp 44) (Operand.tmp 45), type := 0, pos := "law.go:52", after := #[{ on := 5, ground := Ground.data }, { on := 6, ground := Ground.data }], guard := none }) (v := .pointer (some ⟨g, off + i * 33, none⟩)) rfl (by kernel_rfl) (by kernel_rfl) (by kernel_rfl) (fun _ _ _ h => h.elim) (Or.inl ⟨by rfl, ?y7⟩) hS0.out ?_
  case y7 =>
    intro V hV
    go_simp
  simp only [Act.put, List.setIfInBounds_toArray, List.set_cons_zero, List.set_cons_succ]
  refine wpAnyH_take (i := 8) (oi := { dst := some 47, op := Op.fieldAddr 36 (Operand.tmp 46) 0, type := 0, pos := "law.go:52", after := #[{ on := 7, ground := Ground.data }], guard := none }) (v := .pointer (some ⟨g, off + i * 33, none⟩)) rfl (by kernel_rfl) (by kernel_rfl) (by kernel_rfl) (fun _ _ _ h => h.elim) (Or.inl ⟨by rfl, ?y8⟩) hS0.out ?_
  case y8 =>
    intro V hV
    go_simp
  simp only [Act.put, List.setIfInBounds_toArray, List.set_cons_zero, List.set_cons_succ]
  refine wpAnyH_take (i := 9) (oi := { dst := some 48, op := Op.load 34 (Operand.tmp 47), type := 34, pos := "law.go:52", after := #[{ on := 8, ground := Ground.data }], guard := none }) (v := .agg (U x).toArray) rfl (by kernel_rfl) (by kernel_rfl) (by kernel_rfl) (fun _ _ _ h => h.elim) (yieldsIf_load_mid (by rfl) _ _ rfl _ _ rfl (U x) _ (fun V hV => rangeAt_same (HK.out.2.1) ((show Below A.heap.size A V from hV).block _ (HK.out.2.2.2))) Try.underlying34 rfl (info34 x hx)) hS0.out ?_
  simp only [Act.put, List.setIfInBounds_toArray, List.set_cons_zero, List.set_cons_succ]
  refine wpAnyH_take (i := 10) (oi := { dst := some 49, op := Op.binOp BinOp.neq 34 (Operand.tmp 43) (Operand.tmp 48) 34, type := 4, pos := "law.go:52", after := #[{ on := 4, ground := Ground.data }, { on := 9, ground := Ground.data }], guard := none }) (v := .bool false) rfl (by kernel_rfl) (by kernel_rfl) (by kernel_rfl) (fun _ _ _ h => h.elim) (Or.inl ⟨by rfl, ?y10⟩) hS0.out ?_
  case y10 =>
    intro V hV
    go_simp
  simp only [Act.put, List.setIfInBounds_toArray, List.set_cons_zero, List.set_cons_succ]
  refine wpAnyH_take (i := 11) (oi := { dst := some 50, op := Op.move (Operand.tmp 49), type := 4, pos := "law.go:52", after := #[{ on := 10, ground := Ground.data }], guard := none }) (v := .bool false) rfl (by kernel_rfl) (by kernel_rfl) (by kernel_rfl) (fun _ _ _ h => h.elim) (Or.inl ⟨by rfl, ?y11⟩) hS0.out ?_
  case y11 =>
    intro V hV
    go_simp
  simp only [Act.put, List.setIfInBounds_toArray, List.set_cons_zero, List.set_cons_succ]
  refine wpAnyH_take (i := 12) (oi := { dst := some 51, op := Op.move (Operand.tmp 3), type := 22, pos := "law.go:52", after := #[{ on := 11, ground := Ground.guard }], guard := some (11, false) }) (v := .slice (some ⟨g3, off3, none⟩) n c3) rfl (by kernel_rfl) (by kernel_rfl) (by kernel_rfl) (fun _ _ _ h => h.elim) (Or.inl ⟨by rfl, ?y12⟩) hS0.out ?_
  case y12 =>
    intro V hV
    go_simp
  simp only [Act.put, List.setIfInBounds_toArray, List.set_cons_zero, List.set_cons_succ]
  refine wpAnyH_take (i := 13) (oi := { dst := some 52, op := Op.move (Operand.tmp 8), type := 3, pos := "law.go:52", after := #[{ on := 11, ground := Ground.guard }], guard := some (11, false) }) (v := .int .i64 (i : Int)) rfl (by kernel_rfl) (by kernel_rfl) (by kernel_rfl) (fun _ _ _ h => h.elim) (Or.inl ⟨by rfl, ?y13⟩) hS0.out ?_
  case y13 =>
    intro V hV
    go_simp
  simp only [Act.put, List.setIfInBounds_toArray, List.set_cons_zero, List.set_cons_succ]
  refine wpAnyH_take (i := 14) (oi := { dst := some 53, op := Op.indexAddr 22 (Operand.tmp 51) (Operand.tmp 52), type := 0, pos := "law.go:52", after := #[{ on := 12, ground := Ground.data }, { on := 13, ground := Ground.data }, { on := 11, ground := Ground.guard }], guard := some (11, false) }) (v := .pointer (some ⟨g3, off3 + i * 33, none⟩)) rfl (by kernel_rfl) (by kernel_rfl) (by kernel_rfl) (fun _ _ _ h => h.elim) (Or.inl ⟨by rfl, ?y14⟩) hS0.out ?_
  case y14 =>
    intro V hV
    go_simp
  simp only [Act.put, List.setIfInBounds_toArray, List.set_cons_zero, List.set_cons_succ]
  refine wpAnyH_take (i := 15) (oi := { dst := some 54, op := Op.fieldAddr 36 (Operand.tmp 53) 1, type := 0, pos := "law.go:52", after := #[{ on := 14, ground := Ground.data }, { on := 11, ground := Ground.guard }], guard := some (11, false) }) (v := .pointer (some ⟨g3, off3 + i * 33 + 32, none⟩)) rfl (by kernel_rfl) (by kernel_rfl) (by kernel_rfl) (fun _ _ _ h => h.elim) (Or.inl ⟨by rfl, ?y15⟩) hS0.out ?_
  case y15 =>
    intro V hV
    go_simp
  simp only [Act.put, List.setIfInBounds_toArray, List.set_cons_zero, List.set_cons_succ]
  refine wpAnyH_take (i := 16) (oi := { dst := some 55, op := Op.load 26 (Operand.tmp 54), type := 26, pos := "law.go:52", after := #[{ on := 15, ground := Ground.data }, { on := 11, ground := Ground.guard }], guard := some (11, false) }) (v := .slice ay ny cy) rfl (by kernel_rfl) (by kernel_rfl) (by kernel_rfl) (fun _ _ _ h => h.elim) (Or.inl ⟨by rfl, ?y16⟩) hS0.out ?_
  case y16 =>
    intro V hV
    have q : V.cell? ⟨g3, off3 + i * 33 + 32, none⟩ = some (.slice ay ny cy) := ((show Below A.heap.size A V from hV).cell (p := ⟨g3, _, none⟩) HK.out.2.2.1).trans HC.out.1
    go_simp
  simp only [Act.put, List.setIfInBounds_toArray, List.set_cons_zero, List.set_cons_succ]
  refine wpAnyH_take (i := 17) (oi := { dst := some 56, op := Op.move (Operand.tmp 0), type := 22, pos := "law.go:52", after := #[{ on := 11, ground := Ground.guard }], guard := some (11, false) }) (v := .slice (some ⟨g, off, none⟩) n c) rfl (by kernel_rfl) (by kernel_rfl) (by kernel_rfl) (fun _ _ _ h => h.elim) (Or.inl ⟨by rfl, ?y17⟩) hS0.out ?_
  case y17 =>
    intro V hV
    go_simp
  simp only [Act.put, List.setIfInBounds_toArray, List.set_cons_zero, List.set_cons_succ]
  refine wpAnyH_take (i := 18) (oi := { dst := some 57, op := Op.move (Operand.tmp 8), type := 3, pos := "law.go:52", after := #[{ on := 11, ground := Ground.guard }], guard := some (11, false) }) (v := .int .i64 (i : Int)) rfl (by kernel_rfl) (by kernel_rfl) (by kernel_rfl) (fun _ _ _ h => h.elim) (Or.inl ⟨by rfl, ?y18⟩) hS0.out ?_
  case y18 =>
    intro V hV
    go_simp
  simp only [Act.put, List.setIfInBounds_toArray, List.set_cons_zero, List.set_cons_succ]
  refine wpAnyH_take (i := 19) (oi := { dst := some 58, op := Op.indexAddr 22 (Operand.tmp 56) (Operand.tmp 57), type := 0, pos := "law.go:52", after := #[{ on := 17, ground := Ground.data }, { on := 18, ground := Ground.data }, { on := 11, ground := Ground.guard }], guard := some (11, false) }) (v := .pointer (some ⟨g, off + i * 33, none⟩)) rfl (by kernel_rfl) (by kernel_rfl) (by kernel_rfl) (fun _ _ _ h => h.elim) (Or.inl ⟨by rfl, ?y19⟩) hS0.out ?_
  case y19 =>
    intro V hV
    go_simp
  simp only [Act.put, List.setIfInBounds_toArray, List.set_cons_zero, List.set_cons_succ]
  refine wpAnyH_take (i := 20) (oi := { dst := some 59, op := Op.fieldAddr 36 (Operand.tmp 58) 1, type := 0, pos := "law.go:52", after := #[{ on := 19, ground := Ground.data }, { on := 11, ground := Ground.guard }], guard := some (11, false) }) (v := .pointer (some ⟨g, off + i * 33 + 32, none⟩)) rfl (by kernel_rfl) (by kernel_rfl) (by kernel_rfl) (fun _ _ _ h => h.elim) (Or.inl ⟨by rfl, ?y20⟩) hS0.out ?_
  case y20 =>
    intro V hV
    go_simp
  simp only [Act.put, List.setIfInBounds_toArray, List.set_cons_zero, List.set_cons_succ]
  refine wpAnyH_take (i := 21) (oi := { dst := some 60, op := Op.load 26 (Operand.tmp 59), type := 26, pos := "law.go:52", after := #[{ on := 20, ground := Ground.data }, { on := 11, ground := Ground.guard }], guard := some (11, false) }) (v := .slice ax nx cx) rfl (by kernel_rfl) (by kernel_rfl) (by kernel_rfl) (fun _ _ _ h => h.elim) (Or.inl ⟨by rfl, ?y21⟩) hS0.out ?_
  case y21 =>
    intro V hV
    have q : V.cell? ⟨g, off + i * 33 + 32, none⟩ = some (.slice ax nx cx) := ((show Below A.heap.size A V from hV).cell (p := ⟨g, _, none⟩) HK.out.2.2.2).trans HC.out.2
    go_simp
  simp only [Act.put, List.setIfInBounds_toArray, List.set_cons_zero, List.set_cons_succ]
  refine wpAnyH_ready (rs := [22]) (by kernel_rfl) (by simp) (AllReadyH.cons (i := 22) (o := { dst := some 61, op := Op.call { callee := Callee.value (Operand.func 13), args := #[Operand.tmp 55, Operand.tmp 60], argTypes := #[26, 26] }, type := 4, pos := "law.go:52", after := #[{ on := 16, ground := Ground.data }, { on := 21, ground := Ground.data }, { on := 11, ground := Ground.chain }, { on := 11, ground := Ground.guard }], guard := some (11, false) }) rfl ?_ AllReadyH.nil)
  intro K1 hK1
  rw [if_pos (by rfl)]
  have HC1 := hashes_true A.drew ay ny cy ax nx cx dd (HD.out.1.below hS0.out) (HD.out.2.1.below hS0.out) HD.out.2.2.1 HD.out.2.2.2
  go_wp2_with fail
  refine HC1.mono ?_
  rintro e V1 ⟨rfl, HB1⟩
  dsimp only
  clear HC1
  have hS1 : Hid (Below A.heap.size A V1) := hS0.out.trans (HB1.out.mono hS0.out.size)
  refine hK1.out _ _ hS1.out ?_
  clear hK1
  intro _
  try simp only [Act.put, List.setIfInBounds_toArray, List.set_cons_zero, List.set_cons_succ]
  refine wpAnyH_take (i := 23) (oi := { dst := some 62, op := Op.unOp UnOp.not 4 (Operand.tmp 61), type := 4, pos := "law.go:52", after := #[{ on := 22, ground := Ground.data }, { on := 11, ground := Ground.guard }], guard := some (11, false) }) (v := .bool false) rfl (by kernel_rfl) (by kernel_rfl) (by kernel_rfl) (fun _ _ _ h => h.elim) (Or.inl ⟨by rfl, ?y23⟩) hS1.out ?_
  case y23 =>
    intro V hV
    go_simp
  simp only [Act.put, List.setIfInBounds_toArray, List.set_cons_zero, List.set_cons_succ]
  refine wpAnyH_take (i := 24) (oi := { dst := some 63, op := Op.pick (Operand.tmp 50) (Operand.const (Value.bool true)) (Operand.tmp 62), type := 4, pos := "law.go:52", after := #[{ on := 11, ground := Ground.data }, { on := 23, ground := Ground.data }], guard := none }) (v := .bool false) rfl (by kernel_rfl) (by kernel_rfl) (by kernel_rfl) (fun _ _ _ h => h.elim) (Or.inl ⟨by rfl, ?y24⟩) hS1.out ?_
  case y24 =>
    intro V hV
    go_simp
  simp only [Act.put, List.setIfInBounds_toArray, List.set_cons_zero, List.set_cons_succ]
  refine wpAnyH_done (by kernel_rfl) ?_ _
  exact hQ V1 hS1.out
end Go.Proofs.Ytijkpkcopjkhkaa.Oct

/- Layer 12 (deps): DepsOrders. -/
namespace Go.Proofs.Ytijkpkcopjkhkaa.Oct
open Go.RowKit

theorem copies_alike {l m : List It} (h : m.map kd = l.map kd) : Alike m l ∧ many m = many l := by
  have hn : m.map (·.name) = l.map (·.name) := by
    have := congrArg (List.map Prod.fst) h
    simpa [Function.comp_def, kd] using this
  refine ⟨⟨by simpa using congrArg List.length h, by rw [hn], fun x => by rw [hn], fun n d => ?_⟩, ?_⟩
  · have key : ∀ (l : List It), (∃ x ∈ l, x.name = n ∧ d ∈ x.deps) ↔ ∃ q ∈ l.map kd, q.1 = n ∧ d ∈ q.2 := by
      intro l
      constructor
      · rintro ⟨x, hx, h1, h2⟩
        exact ⟨kd x, List.mem_map.2 ⟨x, hx, rfl⟩, h1, h2⟩
      · rintro ⟨q, hq, h1, h2⟩
        obtain ⟨x, hx, rfl⟩ := List.mem_map.1 hq
        exact ⟨x, hx, h1, h2⟩
    rw [key, key, h]
  · unfold many
    have := congrArg (fun q => (q.map (fun p => p.2.length)).sum) h
    simpa [Function.comp_def, kd] using this
theorem kd_at {l m : List It} (h : m.map kd = l.map kd) {i : Nat} {x : It} (hx : l[i]? = some x) : ∃ y, m[i]? = some y ∧ y.name = x.name ∧ y.deps = x.deps := by
  have h1 := congrArg (·[i]?) h
  simp only [List.getElem?_map, hx, Option.map_some] at h1
  obtain ⟨y, hy, e⟩ := Option.map_eq_some_iff.1 h1
  simp only [kd, Prod.mk.injEq] at e
  exact ⟨y, hy, e.1, e.2⟩

set_option maxRecDepth 100000 in
set_option maxHeartbeats 4000000 in
theorem orders_law (l : List It) (a : Option Addr) (len cap : Nat) (w : World) (hi : Its w a len l) (hc : len ≤ cap ∧ cap ≤ maxLen) :
    Calls Try.prog 3 #[.slice a len cap] w (Law w) := by
  have HI : Hid (Its w a len l ∧ l.length = len ∧ len ≤ cap) := ⟨hi, hi.1, hc.1⟩
  have H8 : Hid (Calls Try.prog 8 #[.slice a len cap] w (LightP w len l)) := light_is w a len cap l hi hc
  have q5 : (len : Int) ≤ 9223372036854775807 := by have h1 := hc.1; have h2 := hc.2; unfold maxLen at h2; omega
  clear hi hc
  go_enter Try.func3, Try.ntmps3
  go_wp2_with fail
  refine H8.out.mono ?_
  rintro e w' ⟨b, rfl, HL, rfl⟩
  cases b with
  | false =>
    go_wp2_with fail
    refine (lives_is w).mono ?_
    rintro e w1 ⟨rfl, HB1⟩
    go_wp2
    go_ret
    exact ⟨rfl, HB1.out⟩
  | true =>
    have HM : Hid (len ≤ 300 ∧ many l ≤ 90000) := ⟨(HL.out rfl).1, by have := (HL.out rfl).2; omega⟩
    clear HL
    go_wp2_with fail
    refine (copies_is w a len cap l HI.out.1 (by have := HM.out.1; omega) HM.out.2).mono ?_
    rintro e w1 ⟨p3, c3, ms, rfl, HC, HB1⟩
    have HAL : Hid (Alike ms l ∧ many ms ≤ 90000) := by
      have := copies_alike HC.out.2
      exact ⟨this.1, by rw [this.2]; exact HM.out.2⟩
    go_wp2_with fail
    refine (order_is w1 p3 len c3 ms HC.out.1.its (by have := HM.out.1; omega) HAL.out.2).mono ?_
    rintro e w2 ⟨pa, na, ca, er, hs, rfl, HR1, HO1, HB2⟩
    have HB12 : Hid (Below w.heap.size w w2) := bt HB1.out HB2.out
    go_wp2_with fail
    refine (rorder_is w2 a len cap l (HI.out.1.below HB12.out) HI.out.2.2 (by have := HM.out.1; omega) HM.out.2).mono ?_
    rintro e w3 ⟨pb, nb, cb, er2, hs2, rfl, HR2, HO2, HB3⟩
    obtain ⟨rfl, rfl⟩ := OrdA.same HAL.out.1 HO1.out HO2.out
    have HB13 : Hid (Below w.heap.size w w3) := bt HB12.out HB3.out
    go_wp2_with fail
    refine (hashes_true w3 pa na ca pb nb cb hs (HR1.out.1.below HB3.out) HR2.out.1 HR1.out.2 HR2.out.2).mono ?_
    rintro e w4 ⟨rfl, HB4⟩
    have HB14 : Hid (Below w.heap.size w w4 ∧ MRow w4 p3 len ms) := ⟨bt HB13.out HB4.out, ((HC.out.1.below HB2.out).below HB3.out).below HB4.out⟩
    go_wp2
    go_loopw [36] (fun u wr => ∃ i : Nat, u = .int .i64 (i : Int) ∧ Hid (i ≤ len ∧ Below w4.heap.size w4 wr)) (fun u _ => len - (intOf u).toNat)
    case atStart => exact ⟨0, rfl, ⟨Nat.zero_le _, Below.refl _ _⟩⟩
    case round =>
      obtain ⟨i, rfl, HJ⟩ := hrel
      have HBW : Hid (Below w.heap.size w wr ∧ Its wr p3 len ms) := ⟨bt HB14.out.1 HJ.out.2, (HB14.out.2.below HJ.out.2).its⟩
      by_cases hin : i < len
      · obtain ⟨x, hx⟩ : ∃ x, l[i]? = some x := ⟨_, List.getElem?_eq_getElem (by rw [HI.out.2.1]; exact hin)⟩
        obtain ⟨y, hy, hyn, hyd⟩ := kd_at HC.out.2 hx
        obtain ⟨b, off, rfl, hb, hel⟩ := (HI.out.1.below HBW.out.1).2 (by omega)
        obtain ⟨b3, off3, h3, hb3, hel3⟩ := HBW.out.2.2 (by omega)
        subst h3
        have HX : Hid (i < len ∧ x.name.length = 32) := ⟨hin, (hel i x hx).1⟩
        have q1 : (i : Int) < (len : Int) := by omega
        have HK : Hid (wr.rangeAt b3 (off3 + i * 33) (U x.name) ∧ wr.rangeAt b (off + i * 33) (U x.name) ∧ b3 < wr.heap.size ∧ b < wr.heap.size) := ⟨by have := (hel3 i y hy).nm; rw [hyn] at this; exact this, (hel i x hx).nm, hb3, hb⟩
        have HCC : Hid (wr.cell? ⟨b3, off3 + i * 33 + 32, none⟩ = some (.slice y.a y.n y.c) ∧ wr.cell? ⟨b, off + i * 33 + 32, none⟩ = some (.slice x.a x.n x.c)) := ⟨(hel3 i y hy).dep, (hel i x hx).dep⟩
        have HD : Hid (HsR wr y.a y.n x.deps ∧ HsR wr x.a x.n x.deps ∧ y.n ≤ 100000 ∧ x.n ≤ 100000) := by
          have h1 := (hel3 i y hy).2.2.1
          have h2 := (hel i x hx).2.2.1
          rw [hyd] at h1
          have h4 := dep_le l i x hx
          have h5 := HM.out.2
          have h6 := h1.1
          have h7 := h2.1
          exact ⟨h1, h2, by omega, by omega⟩
        have heq := eqH x.name x.name HX.out.2 HX.out.2
        rw [decide_eq_true rfl] at heq
        have HEQ : Hid (∀ W, (Op.equalIn 10000 34 (.agg (U x.name).toArray) (.agg (U x.name).toArray)).run Try.prog W = .ok true W) := heq
        clear heq hel hel3 hx hy hyn hyd hin hb hb3
        go_wp2
        refine orders_region (x := x.name) (dd := x.deps) HX.out.2 q1 HK HCC HD HEQ.out ?_
        intro V hV
        have HV : Hid (Below w4.heap.size w4 V) := bt HJ.out.2 hV
        clear hV
        go_wp2
        refine ⟨⟨i + 1, by simp, ⟨HX.out.1, HV.out⟩⟩, ?_⟩
        have := HX.out.1; simp [intOf]; omega
      · have q1 : ¬ (i : Int) < (len : Int) := by omega
        clear hin
        go_wp2_with fail
        refine (lives_is wr).mono ?_
        rintro e w5 ⟨rfl, HB5⟩
        go_wp2
        go_ret
        exact ⟨rfl, bt HBW.out.1 HB5.out⟩
end Go.Proofs.Ytijkpkcopjkhkaa.Oct
