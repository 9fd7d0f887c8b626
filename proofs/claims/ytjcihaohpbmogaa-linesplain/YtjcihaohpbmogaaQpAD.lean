/-
  Layer 11 (lines): rows of vertices of one's own; sets of vertices; laws of the walk.
  Layer 11 (lines), plain: what a vertex is ahead of: steps, and the list that goes on from each of its own.
  Layer 11 (lines), plain: additions, their steps, and an order in which all steps rise: one more addition, put in right behind its up, keeps one.
-/
import Derived.Test.YtjcihaohpbmogaaQpAC
/- Layer 11 (lines): rows of vertices of one's own; sets of vertices; laws of the walk. -/
namespace Go.Proofs.Ytjcihaohpbmogaa.Oct
open Go.RowKit
set_option maxRecDepth 100000
set_option linter.unusedSimpArgs false
set_option linter.unusedVariables false
set_option linter.unusedSectionVars false

theorem rangeAt_app {w : World} {g o : Nat} {a b : List Value} (h1 : w.rangeAt g o a) (h2 : w.rangeAt g (o + a.length) b) : w.rangeAt g o (a ++ b) := by
  intro j v hj
  by_cases hlt : j < a.length
  · rw [List.getElem?_append_left hlt] at hj; exact h1 j v hj
  · rw [List.getElem?_append_right (by omega)] at hj
    have := h2 (j - a.length) v hj
    rw [show o + a.length + (j - a.length) = o + j by omega] at this
    exact this
theorem rangeAt_left {w : World} {g o : Nat} {a b : List Value} (h : w.rangeAt g o (a ++ b)) : w.rangeAt g o a := by
  intro j v hj
  exact h j v (by rw [List.getElem?_append_left (List.getElem?_eq_some_iff.1 hj).1]; exact hj)
theorem rangeAt_right {w : World} {g o : Nat} {a b : List Value} (h : w.rangeAt g o (a ++ b)) : w.rangeAt g (o + a.length) b := by
  intro j v hj
  have := h (a.length + j) v (by rw [List.getElem?_append_right (by omega), show a.length + j - a.length = j by omega]; exact hj)
  rw [show o + (a.length + j) = o + a.length + j by omega] at this
  exact this
theorem rangeAt_FV {w : World} {g : Nat} : ∀ (vs : List Vx) (off : Nat), (∀ x ∈ vs, Vk x) → ((∀ i v, vs[i]? = some v → w.rangeAt g (off + i * 33) v.cells) ↔ w.rangeAt g off (FV vs))
  | [], off, _ => ⟨fun _ j v hj => by simp [FV] at hj, fun _ i h hi => by simp at hi⟩
  | x :: vs, off, hl => by
    have hx := Vx.len (hl x (by simp)).1
    have ih := rangeAt_FV (w := w) (g := g) vs (off + 33) (fun y hy => hl y (by simp [hy]))
    have e : FV (x :: vs) = x.cells ++ FV vs := by simp [FV]
    rw [e]
    constructor
    · intro h
      refine rangeAt_app (by simpa using h 0 x rfl) ?_
      rw [hx]
      refine ih.1 fun i y hy => ?_
      have := h (i + 1) y (by simpa using hy)
      rw [show off + (i + 1) * 33 = off + 33 + i * 33 by omega] at this
      exact this
    · intro h i y hi
      cases i with
      | zero => simp at hi; subst hi; simpa using rangeAt_left h
      | succ i =>
        have h2 := rangeAt_right h
        rw [hx] at h2
        have := ih.2 h2 i y (by simpa using hi)
        rw [show off + (i + 1) * 33 = off + 33 + i * 33 by omega]
        exact this
/-- a row of vertices of the call's own -/
def OV (B : Nat) (w : World) (v : Value) (n : Nat) (vs : List Vx) : Prop := w.ownsRow B 34 33 v n (FV vs) ∧ (∀ x ∈ vs, Vk x)
theorem OV.len {B : Nat} {w : World} {v : Value} {n : Nat} {vs : List Vx} (h : OV B w v n vs) : vs.length = n := by
  have := h.1.1
  rw [FV_len vs h.2] at this
  omega
/-- it can be read -/
theorem OV.read {w : World} {B : Nat} {v : Value} {n : Nat} {vs : List Vx} (h : OV B w v n vs) : ∃ a c, v = .slice a n c ∧ VsR w a n vs ∧ n ≤ c ∧ (a = none ∨ ∃ g, a = some ⟨g, 0, none⟩ ∧ B ≤ g) := by
  have hlen := h.len
  rcases h.1.2 with ⟨rfl, rfl⟩ | ⟨g, cap, cur, rfl, h1, h2, h3, h4, h5, h6⟩
  · exact ⟨none, 0, rfl, ⟨hlen, h.2, fun h => absurd h (by omega)⟩, Nat.le_refl _, .inl rfl⟩
  · refine ⟨some ⟨g, 0, none⟩, cap, rfl, ⟨hlen, h.2, fun _ => ⟨g, 0, rfl, (Array.getElem?_eq_some_iff.1 h2).1, ?_⟩⟩, h3, .inr ⟨g, rfl, h1⟩⟩
    refine (rangeAt_FV vs 0 h.2).2 ?_
    intro j u hj
    have := h.1.cells (g := g) rfl j u hj
    rw [Addr.add_lit] at this
    exact this
theorem OV.below {B : Nat} {w w' : World} {v : Value} {n : Nat} {vs : List Vx} (h : OV B w v n vs) (hb : Below w.heap.size w w') : OV B w' v n vs := by
  refine ⟨⟨h.1.1, ?_⟩, h.2⟩
  rcases h.1.2 with h1 | ⟨g, cap, cur, h1, h2, h3, h4⟩
  · exact .inl h1
  · exact .inr ⟨g, cap, cur, h1, h2, (hb.block g (Array.getElem?_eq_some_iff.1 h3).1).trans h3, h4⟩
theorem OV.lo {B B' : Nat} {w : World} {v : Value} {n : Nat} {vs : List Vx} (h : OV B w v n vs) (hB : B' ≤ B) : OV B' w v n vs := by
  refine ⟨⟨h.1.1, ?_⟩, h.2⟩
  rcases h.1.2 with h1 | ⟨g, cap, cur, h1, h2, h3, h4⟩
  · exact .inl h1
  · exact .inr ⟨g, cap, cur, h1, by omega, h3, h4⟩
theorem OV.kept {B b : Nat} {w w' : World} {v : Value} {n : Nat} {vs : List Vx} (h : OV B w v n vs) (hg : w.grownBy w' (some b)) (hb : b < B) : OV B w' v n vs := by
  refine ⟨⟨h.1.1, ?_⟩, h.2⟩
  rcases h.1.2 with h1 | ⟨g, cap, cur, h1, h2, h3, h4⟩
  · exact .inl h1
  · exact .inr ⟨g, cap, cur, h1, h2, (hg.block g (Array.getElem?_eq_some_iff.1 h3).1 (fun e => by cases e; omega)).trans h3, h4⟩
theorem OV.nil (B : Nat) (w : World) : OV B w (.slice none 0 0) 0 [] := ⟨⟨rfl, .inl ⟨rfl, rfl⟩⟩, by simp⟩
/-- its last element taken off -/
theorem OV.cut {w : World} {B : Nat} {a : Option Addr} {n c : Nat} {vs : List Vx} {v : Vx} (h : OV B w (.slice a (n + 1) c) (n + 1) (vs ++ [v])) : OV B w (.slice a n c) n vs := by
  have hlen := h.len
  rw [List.length_append, List.length_singleton] at hlen
  have hvs : ∀ x ∈ vs, Vk x := fun x hx => h.2 x (by simp [hx])
  have hl := FV_len vs hvs
  have e : n = vs.length := by omega
  refine ⟨⟨by rw [hl, e], ?_⟩, hvs⟩
  rcases h.1.2 with ⟨h1, h2⟩ | ⟨g', cap, cur, h1, h2, h3, h4, h5, h6, h7⟩
  · cases h1
  · simp only [Value.slice.injEq] at h1
    obtain ⟨rfl, _, rfl⟩ := h1
    refine .inr ⟨g', c, cur, rfl, h2, h3, by omega, h5, h6, ?_⟩
    have := congrArg (List.take (n * 33)) h7
    rw [List.take_take, Nat.min_eq_left (by omega), FV_append, List.take_left' (by rw [hl, e])] at this
    exact this
theorem info34' : ∃ i : TypeInfo, Try.prog.info? 34 = some i ∧ i.size = 33 ∧ i.bytes = 40 ∧ ∃ z, i.zero = some z ∧ z.cells.size = 33 := by
  obtain ⟨i, hi, he⟩ := Option.map_eq_some_iff.1 (show (Try.prog.info? 34).map (fun i => (i.size, i.bytes, i.zero.map (·.cells.size))) = some (33, 40, some 33) by kernel_rfl)
  simp only [Prod.mk.injEq] at he
  obtain ⟨z, hz, hz2⟩ := Option.map_eq_some_iff.1 he.2.2
  exact ⟨i, hi, he.1, he.2.1, z, hz, hz2⟩
theorem run_app (w : World) (B : Nat) (ty : TypeId) (v : Value) (n : Nat) (vs : List Vx) (o : Option Addr) (m c : Nat) (xs : List Vx) (hown : OV B w v n vs) (hx : VsR w o m xs) (hn : n + m ≤ 1000000) (hB : B ≤ w.heap.size) :
    ∃ v' w', (Builtin.append_ #[35, 35] ty #[v, .slice o m c]).run Try.prog w = .ok v' w' ∧ OV B w' v' (n + m) (vs ++ xs) ∧ w.grownBy w' v.ownBlock ∧ (v'.ownBlock = v.ownBlock ∨ v'.ownBlock = some w.heap.size) := by
  have hown0 := hown
  obtain ⟨hown, hvs⟩ := hown
  obtain ⟨i, hi, hs1, hby, z, hz, hzs⟩ := info34'
  have h63 : n + m ≤ maxLen := by unfold maxLen; omega
  have hbytes : (n + m) * 40 ≤ 140737488355328 := by omega
  have hk : ∀ x ∈ vs ++ xs, Vk x := fun x hx' => by
    rcases List.mem_append.1 hx' with h | h
    · exact hvs x h
    · exact hx.2.1 x h
  by_cases hm : 0 < m
  · obtain ⟨g, off, rfl, hg, hel⟩ := hx.2.2 hm
    have hr := (rangeAt_FV xs off hx.2.1).1 hel
    have hnews : ∀ j u, (FV xs)[j]? = some u → w.cell? ((⟨g, off, none⟩ : Addr).add j) = some u := fun j u hj => by rw [Addr.add_lit]; exact hr j u hj
    have hl : (FV xs).length = m * 33 := by rw [FV_len _ hx.2.1, hx.1]
    obtain ⟨v', w', hrun, ho, hg2, _⟩ := run_append_own w B 35 ty 34 i z 33 40 Try.underlying35 hi hz hs1 hby hzs (by omega) v n (FV vs) hown ⟨g, off, none⟩ m c (FV xs) hl hnews (FV_one xs) h63 hbytes hB
    refine ⟨v', w', hrun, ⟨by rw [FV_append]; exact ho, hk⟩, hg2, ?_⟩
    rcases hown.2 with ⟨rfl, rfl⟩ | ⟨g', cap, cur, rfl, hbg, hg', hnc, hcm, hcs, htake⟩
    · have hr2 := run_append_nil (P := Try.prog) w 35 ty 34 i z Try.underlying35 hi hz ⟨g, off, none⟩ m c (FV xs) (by rw [hs1]; exact hl) hnews (by omega) (by omega) (by rw [hby]; omega)
      rw [hr2] at hrun
      injection hrun with e1 e2
      exact .inr (by rw [← e1]; rfl)
    · by_cases hroom : n + m ≤ cap
      · have hr2 := run_append_room (P := Try.prog) w 35 ty 34 i Try.underlying35 hi g' n cap cur hg' ⟨g, off, none⟩ m c (FV xs) (by rw [hs1]; exact hl) hnews (FV_one xs) hroom (by rw [hs1, hl, hcs, ← Nat.add_mul]; exact Nat.mul_le_mul_right _ hroom)
        rw [hr2] at hrun
        injection hrun with e1 e2
        exact .inl (by rw [← e1]; rfl)
      · have holds := hown.cells (g := g') rfl
        have hr2 := run_append_grow (P := Try.prog) w 35 ty 34 i z Try.underlying35 hi hz ⟨g', 0, none⟩ n cap (FV vs) (by rw [hs1]; exact hown.1) holds ⟨g, off, none⟩ m c (FV xs) (by rw [hs1]; exact hl) hnews (by omega) (by omega) (growslice_fits (by omega) (by rw [hby]; exact hbytes))
        rw [hr2] at hrun
        injection hrun with e1 e2
        exact .inr (by rw [← e1]; rfl)
  · obtain rfl : m = 0 := by omega
    have hxs : xs = [] := List.eq_nil_of_length_eq_zero hx.1
    subst hxs
    obtain ⟨a, cap, rfl, _, hc, _⟩ : ∃ a cap, v = .slice a n cap ∧ True ∧ n ≤ cap ∧ True := by
      rcases hown.2 with ⟨rfl, rfl⟩ | ⟨g, cap, cur, rfl, h1, h2, h3, h4⟩
      · exact ⟨none, 0, rfl, trivial, Nat.le_refl _, trivial⟩
      · exact ⟨_, cap, rfl, trivial, h3, trivial⟩
    refine ⟨_, w, run_append_zero w 35 ty 34 i Try.underlying35 hi a o n cap c hc, by simpa using hown0, World.grownBy.refl _ _, .inl rfl⟩
theorem fold_set : ∀ (cs : List Value) (k : Nat) (A : Array Value), A.size = k + cs.length → ((cs.zipIdx k).foldl (fun a x => a.setIfInBounds x.2 x.1) A).toList = A.toList.take k ++ cs
  | [], k, A, h => by
    rw [List.take_of_length_le (by simp at h ⊢; omega)]; simp
  | c :: cs, k, A, h => by
    rw [List.zipIdx_cons, List.foldl_cons, fold_set cs (k + 1) _ (by simp at h ⊢; omega)]
    have hk : k < A.toList.length := by simp at h ⊢; omega
    simp only [Array.toList_setIfInBounds]
    rw [List.take_succ_eq_append_getElem (by simpa using hk), List.take_set_of_le (Nat.le_refl _)]
    simp
theorem run_bslice1 (v : Vx) (hv : v.ok) (W : World) : (Instr.buildSlice 35 1 #[(0, .agg v.cells.toArray)]).run Try.prog W = .ok (.slice (some ⟨W.heap.size, 0, none⟩) 1 1) (W.alloc (.cells v.cells.toArray 34)) := by
  obtain ⟨i, hi, hs1, hby, z, hz, hzs⟩ := info34'
  have hl := Vx.len hv
  generalize v.cells = L at hl ⊢
  have e : ∀ A : Array Value, A.size = 33 → List.foldl (fun cs (x : Value × Nat) => cs.setIfInBounds x.2 x.1) A L.zipIdx = L.toArray := by
    intro A hA
    apply Array.toList_inj.1
    rw [fold_set L 0 A (by rw [hl, hA])]
    simp
  simp [Instr.buildSlice, run_underlying Try.underlying35, sizeOf, typeInfo, hi, hs1, zeroValue, hz, Instr.fill, Value.cells, hl, e]
  simp [newRow]
theorem new34 (w : World) (v : Vx) : (w.alloc (.cells v.cells.toArray 34)).rangeAt w.heap.size 0 v.cells := (Blk.new w v.cells.toArray 34).range0
theorem VsR.one (w : World) (v : Vx) (hv : Vk v) : VsR (w.alloc (.cells v.cells.toArray 34)) (some ⟨w.heap.size, 0, none⟩) 1 [v] := by
  refine ⟨rfl, by simpa using hv, fun _ => ⟨_, _, rfl, by simp, fun i x hi => ?_⟩⟩
  cases i with
  | zero =>
    simp at hi; subst hi
    simpa using new34 w v
  | succ i => simp at hi
theorem OV.one (w : World) (v : Vx) (hv : Vk v) {B : Nat} (hB : B ≤ w.heap.size) : OV B (w.alloc (.cells v.cells.toArray 34)) (.slice (some ⟨w.heap.size, 0, none⟩) 1 1) 1 [v] := by
  have hl := Vx.len hv.1
  have hb := Blk.new w v.cells.toArray 34
  refine ⟨⟨by simp [FV, hl], .inr ⟨_, 1, v.cells.toArray, rfl, hB, hb, Nat.le_refl _, by unfold maxLen; omega, by simp [hl], by rw [List.take_of_length_le (by simp [hl])]; simp [FV]⟩⟩, by simpa using hv⟩
section
variable {ops : Array Oper} {rest : List Oper} {o : Oper} {a : Act} {w : World} {Q : Exit → Act → World → Prop}
theorem wpList_bslice1 (hg : o.guard = none) (x : Operand) (hop : o.op = Op.buildSlice 35 1 #[(0, x)]) (v : Vx) (hv : v.ok) (hx : a.eval x = .agg v.cells.toArray)
    (hK : wpList Try.prog ops Q rest (a.put o.dst (.slice (some ⟨w.heap.size, 0, none⟩) 1 1)) (w.alloc (.cells v.cells.toArray 34))) : wpList Try.prog ops Q (o :: rest) a w := by
  refine wpList_plain hg fun K' hK' => ?_
  unfold Oper.wp execOp
  simp [hop, hx, run_bslice1 v hv, Result.andThen]
  exact hK' _ _ hK
theorem wpList_app (hg : o.guard = none) (s x : Operand) (hop : o.op = Op.call { callee := Callee.builtin Builtin.append, args := #[s, x], argTypes := #[35, 35] }) (B : Nat) (v : Value) (n : Nat) (hs : List Vx) (oa : Option Addr) (m c : Nat) (xs : List Vx) (hv : a.eval s = v) (hx : a.eval x = .slice oa m c)
    (hown : OV B w v n hs) (hxs : VsR w oa m xs) (hn : n + m ≤ 1000000) (hB : B ≤ w.heap.size)
    (hK : ∀ v' w', OV B w' v' (n + m) (hs ++ xs) → w.grownBy w' v.ownBlock → (v'.ownBlock = v.ownBlock ∨ v'.ownBlock = some w.heap.size) → wpList Try.prog ops Q rest (a.put o.dst v') w') : wpList Try.prog ops Q (o :: rest) a w := by
  refine wpList_plain hg fun K' hK' => ?_
  obtain ⟨v', w', hrun, r1, r2, r3⟩ := run_app w B o.type v n hs oa m c xs hown hxs hn hB
  unfold Oper.wp execOp
  simp only [hop, resolve, invoke, builtin, Sem.run_bind, Sem.run_pure, Result.andThen_ok, List.map_toArray, List.map_cons, List.map_nil, hv, hx, hrun]
  exact hK' _ _ (hK v' w' r1 r2 r3)
theorem wpList_lookup (hw : Region.wanted o (yielded ops a.tmps) = true) (t : TypeId) (m x : Operand) (c : Bool) (hop : o.op = Op.lookup t m x c) (vm vx r : Value) (hm : a.eval m = vm) (hx : a.eval x = vx) (hr : (Instr.lookup t vm vx c).run Try.prog w = .ok r w)
    (hK : wpList Try.prog ops Q rest (a.put o.dst r) w) : wpList Try.prog ops Q (o :: rest) a w := by
  refine Go.BigFrame.wpList_want hw fun K' hK' => ?_
  unfold Oper.wp execOp
  simp only [hop, hm, hx, hr, Sem.run_bind, Sem.run_pure, Result.andThen_ok]
  exact hK' _ _ hK
theorem wpList_mapUp (hg : o.guard = none) (t : TypeId) (m x v : Operand) (hop : o.op = Op.mapUpdate t m x v ∨ o.op = Op.insert t m x v) (vm vx vv : Value) (hm : a.eval m = vm) (hx : a.eval x = vx) (hvv : a.eval v = vv) (R : World → Prop) (hr : ∃ w', (Instr.mapUpdate t vm vx vv).run Try.prog w = .ok () w' ∧ R w')
    (hK : ∀ w', R w' → wpList Try.prog ops Q rest (a.put o.dst undef) w') : wpList Try.prog ops Q (o :: rest) a w := by
  refine wpList_plain hg fun K' hK' => ?_
  obtain ⟨w', hrun, h1⟩ := hr
  unfold Oper.wp
  rcases hop with hop | hop <;>
  · simp [execOp, hop, hm, hx, hvv, hrun, Result.andThen]
    exact hK' _ _ (hK w' h1)
theorem wpList_makeMap (hg : o.guard = none) (t : TypeId) (hop : o.op = Op.makeMap t none)
    (hK : wpList Try.prog ops Q rest (a.put o.dst (.map (some w.heap.size))) (w.alloc (.map #[] 0))) : wpList Try.prog ops Q (o :: rest) a w := by
  refine wpList_plain hg fun K' hK' => ?_
  unfold Oper.wp execOp
  simp [hop, Instr.makeMap, Result.andThen]
  exact hK' _ _ hK
end
/-! ### A struct stored into its own new block -/
theorem setCells_heap : ∀ (vs : List Value) (o : Nat) (w : World) (b : Nat), ∃ h, w.setCells b o vs = { w with heap := h } ∧ h.size = w.heap.size
  | [], _, w, _ => ⟨w.heap, rfl, rfl⟩
  | v :: vs, o, w, b => by
    obtain ⟨h, e, hs⟩ := setCells_heap vs (o + 1) (w.setCell ⟨b, o, none⟩ v) b
    obtain ⟨h2, e2, hs2⟩ : ∃ h2, w.setCell ⟨b, o, none⟩ v = { w with heap := h2 } ∧ h2.size = w.heap.size := ⟨_, rfl, by simp⟩
    refine ⟨h, ?_, ?_⟩
    · simp only [World.setCells]
      rw [e, e2]
    · rw [hs, e2]; exact hs2
theorem setCells_fresh (w : World) (Z cs : List Value) (t : TypeId) (hl : cs.length = Z.length) : (w.alloc (.cells Z.toArray t)).setCells w.heap.size 0 cs = w.alloc (.cells cs.toArray t) := by
  have hb : Blk (w.alloc (.cells Z.toArray t)) w.heap.size t Z := by simpa using Blk.new w Z.toArray t
  have h1 := Blk.setCells cs 0 _ Z hb (by omega)
  obtain ⟨h, e, hs⟩ := setCells_heap cs 0 (w.alloc (.cells Z.toArray t)) w.heap.size
  rw [e] at h1 ⊢
  obtain ⟨h2, h3⟩ := h1
  have hc : Z.take 0 ++ cs ++ Z.drop (0 + cs.length) = cs := by
    rw [List.drop_eq_nil_of_le (by omega)]; simp
  rw [hc] at h2
  have hh : h = w.heap.push (.cells cs.toArray t) := by
    apply Array.ext_getElem?
    intro i
    by_cases hi : i = w.heap.size
    · subst hi
      rw [Array.getElem?_push_size]
      exact h2
    · by_cases hlt : i < w.heap.size
      · have := h3.block i (by simp; omega) (by simpa using hi)
        rw [show ({ (w.alloc (.cells Z.toArray t)) with heap := h } : World).heap[i]? = h[i]? from rfl] at this
        rw [this, Below.heap_alloc w _ i hlt, Array.getElem?_push, if_neg hi]
      · rw [Array.getElem?_eq_none (by rw [hs]; simp; omega), Array.getElem?_eq_none (by simp; omega)]
  rw [hh]
  rfl
section
variable {P : Program} {ops : Array Oper} {rest : List Oper} {op : Oper} {a : Act} {w : World} {Q : Exit → Act → World → Prop}
theorem wpList_store_fresh (hgd : op.guard = none) (ty : TypeId) (x y : Operand) (ho : op.op = .store ty x y) (Z cs : List Value) (t : TypeId)
    (hx : a.eval x = .pointer (some ⟨w.heap.size, 0, none⟩)) (hy : a.eval y = .agg cs.toArray) (hl : cs.length = Z.length) (hi : (P.info? ty).map (·.size) = some cs.length) (h1 : ∀ v ∈ cs, v.oneCell' = true)
    (h : wpList P ops Q rest (a.put op.dst undef) (w.alloc (.cells cs.toArray t))) : wpList P ops Q (op :: rest) a (w.alloc (.cells Z.toArray t)) := by
  have hb : Blk (w.alloc (.cells Z.toArray t)) w.heap.size t Z := by simpa using Blk.new w Z.toArray t
  refine wpList_store_mid hgd ty x y ho w.heap.size 0 cs.toArray hx hy (by simpa using hb.there 0 cs.length (by omega)) (by simpa using hi) (all_oneCell_toArray h1) ?_
  rw [show cs.toArray.toList = cs by simp, setCells_fresh w Z cs t hl]
  exact h
end

/-- a set of keys -/
def unitK {K : Type} (l : List K) : Kv K := l.map fun v => (v, .agg #[])
theorem khas_unit {K : Type} [DecidableEq K] (l : List K) (v : K) : khas (unitK l) v = decide (v ∈ l) := by
  unfold khas kget unitK
  rw [List.find?_map, Option.isSome_map, Option.isSome_map]
  show (l.find? (fun x => x == v)).isSome = _
  rw [Bool.eq_iff_iff, List.find?_isSome, decide_eq_true_eq]
  simp
theorem kget_unit {K : Type} [DecidableEq K] (l : List K) (v : K) : (kget (unitK l) v).getD (.agg #[]) = .agg #[] := by
  unfold kget unitK
  rw [List.find?_map, Option.map_map]
  cases List.find? _ l <;> rfl
theorem kput_unit {K : Type} [DecidableEq K] (l : List K) (v : K) : kput (unitK l) v (.agg #[]) = unitK (if v ∈ l then l else l ++ [v]) := by
  unfold kput
  rw [khas_unit]
  by_cases h : v ∈ l
  · rw [if_pos (by simpa using h), if_pos h]
    unfold unitK
    rw [List.map_map]
    apply List.map_congr_left
    intro x _
    simp only [Function.comp]
    split <;> simp_all
  · rw [if_neg (by simpa using h), if_neg h]
    simp [unitK]
theorem kdel_unit {K : Type} [DecidableEq K] (l : List K) (v : K) : kdel (unitK l) v = unitK (l.filter (· != v)) := by
  unfold kdel unitK
  rw [List.filter_map]
  rfl
theorem zero90 (W : World) : (zeroValue 90).run Try.prog W = .ok (.agg #[]) W := by kernel_rfl
theorem unitH_eq (l : List Hs) : unitH l = unitK l := rfl
end Go.Proofs.Ytjcihaohpbmogaa.Oct

/- Layer 11 (lines), plain: what a vertex is ahead of: steps, and the list that goes on from each of its own. -/
namespace Go.Proofs.Ytjcihaohpbmogaa.Gr
set_option linter.unusedVariables false

/-- steps lead from one to another -/
inductive Reach {α : Type} (step : α → List α) : α → α → Prop
  | one {a b : α} : b ∈ step a → Reach step a b
  | more {a b c : α} : Reach step a b → c ∈ step b → Reach step a c
theorem Reach.trans {α : Type} {step : α → List α} {a b c : α} (h : Reach step a b) (k : Reach step b c) : Reach step a c := by
  induction k with
  | one h2 => exact .more h h2
  | more _ h2 ih => exact .more ih h2
theorem Reach.front {α : Type} {step : α → List α} {a b c : α} (h : b ∈ step a) (k : Reach step b c) : Reach step a c := Reach.trans (.one h) k
/-- those of the next that are not there yet are put behind, one after another -/
def join {α : Type} [DecidableEq α] : List α → List α → List α
  | out, [] => out
  | out, c :: l => join (if c ∈ out then out else out ++ [c]) l
theorem join_old {α : Type} [DecidableEq α] : ∀ (l out : List α) (x : α), x ∈ out → x ∈ join out l
  | [], out, x, h => h
  | c :: l, out, x, h => by
    unfold join
    refine join_old l _ x ?_
    split
    · exact h
    · exact List.mem_append_left _ h
theorem join_new {α : Type} [DecidableEq α] : ∀ (l out : List α) (x : α), x ∈ l → x ∈ join out l
  | [], out, x, h => by cases h
  | c :: l, out, x, h => by
    unfold join
    rcases List.mem_cons.1 h with rfl | h
    · refine join_old l _ x ?_
      split
      · assumption
      · exact List.mem_append_right _ (List.mem_singleton.2 rfl)
    · exact join_new l _ x h
theorem join_mem {α : Type} [DecidableEq α] : ∀ (l out : List α) (x : α), x ∈ join out l → x ∈ out ∨ x ∈ l
  | [], out, x, h => .inl h
  | c :: l, out, x, h => by
    unfold join at h
    rcases join_mem l _ x h with h | h
    · split at h
      · exact .inl h
      · rcases List.mem_append.1 h with h | h
        · exact .inl h
        · rw [List.mem_singleton.1 h]; exact .inr (by simp)
    · exact .inr (List.mem_cons_of_mem _ h)
theorem join_prefix {α : Type} [DecidableEq α] : ∀ (l out : List α), ∃ r, join out l = out ++ r
  | [], out => ⟨[], (List.append_nil _).symm⟩
  | c :: l, out => by
    unfold join
    split
    · exact join_prefix l out
    · obtain ⟨r, h⟩ := join_prefix l (out ++ [c])
      exact ⟨c :: r, by rw [h, List.append_assoc]; rfl⟩
theorem join_nodup {α : Type} [DecidableEq α] : ∀ (l out : List α), out.Nodup → (join out l).Nodup
  | [], out, h => h
  | c :: l, out, h => by
    unfold join
    refine join_nodup l _ ?_
    split
    · exact h
    · rename_i hc
      rw [List.nodup_append]
      exact ⟨h, by simp, fun x hx y hy e => by rw [List.mem_singleton.1 hy] at e; subst e; exact hc hx⟩
/-- what the loop that gathers keeps: all are reached, and the steps of those that were gone through are there -/
structure Gath {α : Type} (step : α → List α) (a : α) (i : Nat) (out : List α) : Prop where
  reach : ∀ x ∈ out, Reach step a x
  first : ∀ x ∈ step a, x ∈ out
  done : ∀ j x, j < i → out[j]? = some x → ∀ c ∈ step x, c ∈ out
theorem Gath.start {α : Type} (step : α → List α) (a : α) : Gath step a 0 (step a) := ⟨fun x h => .one h, fun x h => h, fun j x hj => absurd hj (Nat.not_lt_zero _)⟩
theorem Gath.next {α : Type} [DecidableEq α] {step : α → List α} {a : α} {i : Nat} {out : List α} (h : Gath step a i out) {x : α} (hx : out[i]? = some x) : Gath step a (i + 1) (join out (step x)) := by
  have hm : x ∈ out := List.mem_of_getElem? hx
  refine ⟨fun y hy => ?_, fun y hy => join_old _ _ _ (h.first y hy), fun j y hj hy c hc => ?_⟩
  · rcases join_mem _ _ _ hy with h1 | h1
    · exact h.reach y h1
    · exact .more (h.reach x hm) h1
  · obtain ⟨r, hr⟩ := join_prefix (step x) out
    have hil : i < out.length := (List.getElem?_eq_some_iff.1 hx).1
    have e : out[j]? = some y := by rw [hr, List.getElem?_append_left (by omega)] at hy; exact hy
    rcases Nat.lt_or_ge j i with h1 | h1
    · exact join_old _ _ _ (h.done j y h1 e c hc)
    · have : j = i := by omega
      subst this
      rw [hx] at e
      cases e
      exact join_new _ _ _ hc
/-- at its end the list holds just what is reached -/
theorem Gath.all {α : Type} {step : α → List α} {a : α} {i : Nat} {out : List α} (h : Gath step a i out) (hi : out.length ≤ i) (x : α) : x ∈ out ↔ Reach step a x := by
  refine ⟨h.reach x, fun k => ?_⟩
  induction k with
  | one h1 => exact h.first _ h1
  | more _ h1 ih =>
    obtain ⟨j, hj⟩ := List.getElem?_of_mem ih
    have := (List.getElem?_eq_some_iff.1 hj).1
    exact h.done j _ (by omega) hj _ h1
/-- the way back: who leads to a vertex, gone through from its end -/
theorem Reach.back {α : Type} {step from_ : α → List α} (h : ∀ a b, b ∈ step a ↔ a ∈ from_ b) {a b : α} : Reach step a b ↔ Reach from_ b a := by
  constructor
  · intro k
    induction k with
    | one h1 => exact .one ((h _ _).1 h1)
    | more _ h1 ih => exact Reach.front ((h _ _).1 h1) ih
  · intro k
    induction k with
    | one h1 => exact .one ((h _ _).2 h1)
    | more _ h1 ih => exact Reach.front ((h _ _).2 h1) ih
/-- an order that all steps rise in: no vertex is ahead of itself -/
theorem Reach.rises {α : Type} {step : α → List α} (f : α → Nat) (h : ∀ a b, b ∈ step a → f a < f b) {a b : α} (k : Reach step a b) : f a < f b := by
  induction k with
  | one h1 => exact h _ _ h1
  | more _ h1 ih => exact Nat.lt_trans ih (h _ _ h1)
theorem Reach.never {α : Type} {step : α → List α} (f : α → Nat) (h : ∀ a b, b ∈ step a → f a < f b) (a : α) : ¬ Reach step a a := fun k => Nat.lt_irrefl _ (k.rises f h)
end Go.Proofs.Ytjcihaohpbmogaa.Gr

/- Layer 11 (lines), plain: additions, their steps, and an order in which all steps rise: one more addition, put in right behind its up, keeps one. -/
namespace Go.Proofs.Ytjcihaohpbmogaa.Gr
set_option linter.unusedVariables false

/-- lines that were added between two -/
structure Ad (α : Type) where
  up : α
  down : α
  ids : List α
variable {α : Type} [DecidableEq α]
/-- the steps that an addition gives a vertex -/
def ext (a : Ad α) (v : α) : List α := (if a.up = v then a.ids.take 1 else []) ++ (if v ∈ a.ids then ((a.ids ++ [a.down]).drop (a.ids.idxOf v + 1)).take 1 else [])
def steps (top bot : α) (L : List (Ad α)) (v : α) : List α := (if v = top then [bot] else []) ++ L.flatMap fun a => ext a v
theorem steps_add (top bot : α) (L : List (Ad α)) (a : Ad α) (v : α) : steps top bot (L ++ [a]) v = steps top bot L v ++ ext a v := by
  unfold steps
  rw [List.flatMap_append, List.append_assoc]
  simp
/-- an order in which all steps rise, of vertices that are in it -/
def Rises (O : List α) (step : α → List α) : Prop := ∀ a b, b ∈ step a → a ∈ O ∧ b ∈ O ∧ O.idxOf a < O.idxOf b
theorem Rises.never {O : List α} {step : α → List α} (h : Rises O step) (a : α) : ¬ Reach step a a := Reach.never (fun x => O.idxOf x) (fun x y k => (h x y k).2.2) a
theorem Rises.lt {O : List α} {step : α → List α} (h : Rises O step) {a b : α} (k : Reach step a b) : O.idxOf a < O.idxOf b := k.rises (fun x => O.idxOf x) fun x y k => (h x y k).2.2
theorem Rises.ins {O : List α} {step : α → List α} (h : Rises O step) {a b : α} (k : Reach step a b) : a ∈ O ∧ b ∈ O := by
  induction k with
  | one h1 => exact ⟨(h _ _ h1).1, (h _ _ h1).2.1⟩
  | more _ h1 ih => exact ⟨ih.1, (h _ _ h1).2.1⟩
theorem mem_split {O : List α} {x : α} (h : x ∈ O) : ∃ l r, O = l ++ x :: r ∧ x ∉ l := by
  induction O with
  | nil => cases h
  | cons y O ih =>
    by_cases e : x = y
    · subst e; exact ⟨[], O, rfl, by simp⟩
    · rcases List.mem_cons.1 h with h | h
      · exact absurd h e
      · obtain ⟨l, r, e1, e2⟩ := ih h
        exact ⟨y :: l, r, by rw [e1]; rfl, by simp [e, e2]⟩
theorem idx_at {l r : List α} {x : α} (h : x ∉ l) : (l ++ x :: r).idxOf x = l.length := by
  rw [List.idxOf_append, if_neg h, List.idxOf_cons_self]
  omega
/-- where what was there stands behind the insertion -/
theorem idx_old {l r ids : List α} {u x : α} (hu : u ∉ l) (hx : x ∈ l ++ u :: r) (hi : x ∉ ids) :
    (l ++ u :: (ids ++ r)).idxOf x = (l ++ u :: r).idxOf x + (if l.length < (l ++ u :: r).idxOf x then ids.length else 0) := by
  by_cases h1 : x ∈ l
  · have e1 : (l ++ u :: r).idxOf x = l.idxOf x := by rw [List.idxOf_append, if_pos h1]
    have e2 : (l ++ u :: (ids ++ r)).idxOf x = l.idxOf x := by rw [List.idxOf_append, if_pos h1]
    have := List.idxOf_lt_length_of_mem h1
    rw [e1, e2, if_neg (by omega)]
    rfl
  · by_cases h2 : x = u
    · subst h2
      rw [idx_at h1, idx_at h1, if_neg (by omega)]
      rfl
    · have h2' : (u == x) = false := by simpa using fun e => h2 e.symm
      have e1 : (l ++ u :: r).idxOf x = r.idxOf x + 1 + l.length := by rw [List.idxOf_append, if_neg h1, List.idxOf_cons, h2']; rfl
      have e2 : (l ++ u :: (ids ++ r)).idxOf x = r.idxOf x + ids.length + 1 + l.length := by rw [List.idxOf_append, if_neg h1, List.idxOf_cons, h2']; show (ids ++ r).idxOf x + 1 + _ = _; rw [List.idxOf_append, if_neg hi]
      rw [e1, e2, if_pos (by omega)]
      omega
theorem idx_id {l r ids : List α} {u : α} {k : Nat} {x : α} (hl : x ∉ l) (hu : x ≠ u) (hn : ids.Nodup) (hx : ids[k]? = some x) : (l ++ u :: (ids ++ r)).idxOf x = l.length + 1 + k := by
  have hm : x ∈ ids := List.mem_of_getElem? hx
  have h2' : (u == x) = false := by simpa using fun e => hu e.symm
  have hk := (List.getElem?_eq_some_iff.1 hx).1
  have e : ids.idxOf x = k := by
    have h1 := List.idxOf_lt_length_of_mem hm
    have h3 : ids[ids.idxOf x]? = some x := by rw [List.getElem?_eq_getElem h1]; simp
    exact (List.getElem?_inj h1 hn).1 (h3.trans hx.symm)
  rw [List.idxOf_append, if_neg hl, List.idxOf_cons, h2']
  show (ids ++ r).idxOf x + 1 + _ = _
  rw [List.idxOf_append, if_pos hm, e]
  omega
/-- one more addition -/
theorem Rises.add {top bot : α} {L : List (Ad α)} {O : List α} (h : Rises O (steps top bot L)) (a : Ad α) (hu : a.up ∈ O) (hd : a.down ∈ O) (hud : O.idxOf a.up < O.idxOf a.down) (hf : ∀ x ∈ a.ids, x ∉ O) (hn : a.ids.Nodup) :
    ∃ l r, O = l ++ a.up :: r ∧ Rises (l ++ a.up :: (a.ids ++ r)) (steps top bot (L ++ [a])) := by
  obtain ⟨l, r, hO, hul⟩ := mem_split hu
  refine ⟨l, r, hO, fun x y hxy => ?_⟩
  have hin : ∀ z, z ∈ O → z ∈ l ++ a.up :: (a.ids ++ r) := fun z hz => by
    rw [hO] at hz
    rcases List.mem_append.1 hz with hz | hz
    · exact List.mem_append_left _ hz
    · rcases List.mem_cons.1 hz with rfl | hz
      · simp
      · simp [hz]
  have hni : ∀ z, z ∈ O → z ∉ a.ids := fun z hz hi => hf z hi hz
  have hold : ∀ z, z ∈ O → (l ++ a.up :: (a.ids ++ r)).idxOf z = O.idxOf z + (if l.length < O.idxOf z then a.ids.length else 0) := fun z hz => by
    rw [hO]
    exact idx_old hul (by rw [← hO]; exact hz) (hni z hz)
  have hidx : ∀ k z, a.ids[k]? = some z → (l ++ a.up :: (a.ids ++ r)).idxOf z = l.length + 1 + k := fun k z hz => by
    have hm := List.mem_of_getElem? hz
    have hzO := hf z hm
    rw [hO] at hzO
    simp only [List.mem_append, List.mem_cons, not_or] at hzO
    exact idx_id hzO.1 hzO.2.1 hn hz
  have hiu : O.idxOf a.up = l.length := by rw [hO]; exact idx_at hul
  rw [steps_add] at hxy
  rcases List.mem_append.1 hxy with h1 | h1
  · obtain ⟨hx, hy, hlt⟩ := h x y h1
    refine ⟨hin x hx, hin y hy, ?_⟩
    rw [hold x hx, hold y hy]
    split <;> split <;> omega
  · unfold ext at h1
    rcases List.mem_append.1 h1 with h1 | h1
    · split at h1
      · rename_i e
        obtain ⟨k, hk⟩ := List.getElem?_of_mem h1
        rw [List.getElem?_take] at hk
        split at hk
        · have : k = 0 := by omega
          subst this
          refine ⟨by rw [← e]; exact hin _ hu, ?_, ?_⟩
          · have := List.mem_of_getElem? hk
            simp [this]
          · rw [← e, hold _ hu, hiu, if_neg (by omega), hidx 0 y hk]
            omega
        · cases hk
      · cases h1
    · split at h1
      · rename_i hm
        have hxi : a.ids[a.ids.idxOf x]? = some x := by
          have h2 := List.idxOf_lt_length_of_mem hm
          rw [List.getElem?_eq_getElem h2]
          simp
        have hix := hidx _ x hxi
        obtain ⟨k, hk⟩ := List.getElem?_of_mem h1
        rw [List.getElem?_take] at hk
        split at hk
        · have : k = 0 := by omega
          subst this
          rw [List.getElem?_drop, Nat.add_zero] at hk
          refine ⟨by simp [hm], ?_, ?_⟩
          · rcases List.mem_append.1 (List.mem_of_getElem? hk) with h3 | h3
            · simp [h3]
            · rw [List.mem_singleton.1 h3]; exact hin _ hd
          · rw [hix]
            rcases Nat.lt_or_ge (a.ids.idxOf x + 1) a.ids.length with h3 | h3
            · rw [List.getElem?_append_left h3] at hk
              rw [hidx _ y hk]
              omega
            · have h4 := List.idxOf_lt_length_of_mem hm
              rw [List.getElem?_append_right h3] at hk
              have h5 : a.ids.idxOf x + 1 - a.ids.length = 0 := by omega
              rw [h5] at hk
              cases hk
              rw [hold _ hd, if_pos (by omega)]
              omega
        · cases hk
      · cases h1
end Go.Proofs.Ytjcihaohpbmogaa.Gr
