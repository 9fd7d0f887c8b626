/-
  Layer 11 (lines): rows of what is shown.
  Layer 11 (lines): Shown: a line is told.
-/
import Derived.Test.YtjcihaohpbmogaaQpBG
/- Layer 11 (lines): rows of what is shown. -/
namespace Go.Proofs.Ytjcihaohpbmogaa.Oct
open Go.RowKit
set_option maxRecDepth 100000
set_option linter.unusedSimpArgs false
set_option linter.unusedVariables false
set_option linter.unusedSectionVars false

/-- what is told of a line -/
structure Sx where
  v : Vx
  t : BA
  k : Nat
def Sx.cells (x : Sx) : List Value := x.v.cells ++ [.string x.t, iv (x.k : Int)]
def Sk (x : Sx) : Prop := Vk x.v
theorem Sx.len {x : Sx} (h : Sk x) : x.cells.length = 35 := by unfold Sx.cells; rw [List.length_append, Vx.len h.1]; rfl
theorem Sx.one (x : Sx) : ∀ y ∈ x.cells, y.oneCell' = true := by
  intro y hy
  rcases List.mem_append.1 hy with h | h
  · exact Vx.one x.v y h
  · simp only [List.mem_cons, List.not_mem_nil, or_false] at h
    rcases h with rfl | rfl <;> rfl
theorem info50 {x : Sx} (h : Sk x) : (Try.prog.info? 50).map (·.size) = some x.cells.length := by rw [Sx.len h]; show _ = some 35; kernel_rfl
/-- a list of vertices that can be read -/
def SsR (w : World) (a : Option Addr) (n : Nat) (vs : List Sx) : Prop :=
  vs.length = n ∧ (∀ v ∈ vs, Sk v) ∧ (0 < n → ∃ g off, a = some ⟨g, off, none⟩ ∧ g < w.heap.size ∧ ∀ i v, vs[i]? = some v → w.rangeAt g (off + i * 35) v.cells)
theorem SsR.same {w w' : World} {a : Option Addr} {n : Nat} {vs : List Sx} (h : SsR w a n vs) (hsz : w.heap.size ≤ w'.heap.size) (hk : ∀ g off, a = some ⟨g, off, none⟩ → w'.heap[g]? = w.heap[g]?) : SsR w' a n vs := by
  refine ⟨h.1, h.2.1, fun hp => ?_⟩
  obtain ⟨g, off, e, h1, h2⟩ := h.2.2 hp
  exact ⟨g, off, e, by omega, fun i x hx => rangeAt_same (h2 i x hx) (hk g off e)⟩
theorem SsR.below {w w' : World} {a : Option Addr} {n : Nat} {vs : List Sx} (h : SsR w a n vs) (hb : Below w.heap.size w w') : SsR w' a n vs := by
  refine ⟨h.1, h.2.1, fun hp => ?_⟩
  obtain ⟨g, off, e, h1, h2⟩ := h.2.2 hp
  exact ⟨g, off, e, Nat.lt_of_lt_of_le h1 hb.size, fun i x hx => rangeAt_same (h2 i x hx) (hb.block g h1)⟩
theorem SsR.nil (w : World) (a : Option Addr) : SsR w a 0 [] := ⟨rfl, by simp, fun h => absurd h (by omega)⟩
theorem SsR.keep {S : Nat → Prop} {w w' : World} {a : Option Addr} {n : Nat} {vs : List Sx} (h : SsR w a n vs) (hk : Keep S w w') (hS : ∀ g off, a = some ⟨g, off, none⟩ → ¬ S g) : SsR w' a n vs := by
  refine ⟨h.1, h.2.1, fun hp => ?_⟩
  obtain ⟨g, off, e, h1, h2⟩ := h.2.2 hp
  exact ⟨g, off, e, Nat.lt_of_lt_of_le h1 hk.size, fun i x hx => rangeAt_same (h2 i x hx) (hk.block g h1 (hS g off e))⟩
/-- the cells of vertices, one behind the other -/
def FS (l : List Sx) : List Value := l.flatMap Sx.cells
theorem FS_len : ∀ (l : List Sx), (∀ v ∈ l, Sk v) → (FS l).length = l.length * 35
  | [], _ => rfl
  | v :: l, h => by
    have ih := FS_len l (fun x hx => h x (by simp [hx]))
    have h1 := Sx.len (h v (by simp))
    show (v.cells ++ FS l).length = _
    rw [List.length_append, h1, ih, List.length_cons]
    omega
theorem FS_one (l : List Sx) : ∀ x ∈ FS l, x.oneCell' = true := by
  intro x hx
  obtain ⟨v, _, h⟩ := List.mem_flatMap.1 hx
  exact Sx.one v x h
theorem FS_append (a b : List Sx) : FS (a ++ b) = FS a ++ FS b := List.flatMap_append
theorem FS_at : ∀ (l : List Sx), (∀ v ∈ l, Sk v) → ∀ (i : Nat) (v : Sx), l[i]? = some v → ∀ j x, v.cells[j]? = some x → (FS l)[i * 35 + j]? = some x
  | [], _, i, v, hi, _, _, _ => by simp at hi
  | y :: l, h, i, v, hi, j, x, hx => by
    have h1 := Sx.len (h y (by simp))
    show (y.cells ++ FS l)[i * 35 + j]? = _
    cases i with
    | zero =>
      simp at hi
      subst hi
      have := (List.getElem?_eq_some_iff.1 hx).1
      rw [Nat.zero_mul, Nat.zero_add, List.getElem?_append_left this]
      exact hx
    | succ i =>
      rw [List.getElem?_append_right (by rw [h1]; omega), h1, show (i + 1) * 35 + j - 35 = i * 35 + j by omega]
      exact FS_at l (fun z hz => h z (by simp [hz])) i v (by simpa using hi) j x hx
theorem rangeAt_FS {w : World} {g : Nat} : ∀ (vs : List Sx) (off : Nat), (∀ x ∈ vs, Sk x) → ((∀ i v, vs[i]? = some v → w.rangeAt g (off + i * 35) v.cells) ↔ w.rangeAt g off (FS vs))
  | [], off, _ => ⟨fun _ j v hj => by simp [FS] at hj, fun _ i h hi => by simp at hi⟩
  | x :: vs, off, hl => by
    have hx := Sx.len (hl x (by simp))
    have ih := rangeAt_FS (w := w) (g := g) vs (off + 35) (fun y hy => hl y (by simp [hy]))
    have e : FS (x :: vs) = x.cells ++ FS vs := by simp [FS]
    rw [e]
    constructor
    · intro h
      refine rangeAt_app (by simpa using h 0 x rfl) ?_
      rw [hx]
      refine ih.1 fun i y hy => ?_
      have := h (i + 1) y (by simpa using hy)
      rw [show off + (i + 1) * 35 = off + 35 + i * 35 by omega] at this
      exact this
    · intro h i y hi
      cases i with
      | zero => simp at hi; subst hi; simpa using rangeAt_left h
      | succ i =>
        have h2 := rangeAt_right h
        rw [hx] at h2
        have := ih.2 h2 i y (by simpa using hi)
        rw [show off + (i + 1) * 35 = off + 35 + i * 35 by omega]
        exact this
/-- a row of vertices of the call's own -/
def OS (B : Nat) (w : World) (v : Value) (n : Nat) (vs : List Sx) : Prop := w.ownsRow B 50 35 v n (FS vs) ∧ (∀ x ∈ vs, Sk x)
theorem OS.len {B : Nat} {w : World} {v : Value} {n : Nat} {vs : List Sx} (h : OS B w v n vs) : vs.length = n := by
  have := h.1.1
  rw [FS_len vs h.2] at this
  omega
/-- it can be read -/
theorem OS.read {w : World} {B : Nat} {v : Value} {n : Nat} {vs : List Sx} (h : OS B w v n vs) : ∃ a c, v = .slice a n c ∧ SsR w a n vs ∧ n ≤ c ∧ (a = none ∨ ∃ g, a = some ⟨g, 0, none⟩ ∧ B ≤ g) := by
  have hlen := h.len
  rcases h.1.2 with ⟨rfl, rfl⟩ | ⟨g, cap, cur, rfl, h1, h2, h3, h4, h5, h6⟩
  · exact ⟨none, 0, rfl, ⟨hlen, h.2, fun h => absurd h (by omega)⟩, Nat.le_refl _, .inl rfl⟩
  · refine ⟨some ⟨g, 0, none⟩, cap, rfl, ⟨hlen, h.2, fun _ => ⟨g, 0, rfl, (Array.getElem?_eq_some_iff.1 h2).1, ?_⟩⟩, h3, .inr ⟨g, rfl, h1⟩⟩
    refine (rangeAt_FS vs 0 h.2).2 ?_
    intro j u hj
    have := h.1.cells (g := g) rfl j u hj
    rw [Addr.add_lit] at this
    exact this
theorem OS.below {B : Nat} {w w' : World} {v : Value} {n : Nat} {vs : List Sx} (h : OS B w v n vs) (hb : Below w.heap.size w w') : OS B w' v n vs := by
  refine ⟨⟨h.1.1, ?_⟩, h.2⟩
  rcases h.1.2 with h1 | ⟨g, cap, cur, h1, h2, h3, h4⟩
  · exact .inl h1
  · exact .inr ⟨g, cap, cur, h1, h2, (hb.block g (Array.getElem?_eq_some_iff.1 h3).1).trans h3, h4⟩
theorem OS.lo {B B' : Nat} {w : World} {v : Value} {n : Nat} {vs : List Sx} (h : OS B w v n vs) (hB : B' ≤ B) : OS B' w v n vs := by
  refine ⟨⟨h.1.1, ?_⟩, h.2⟩
  rcases h.1.2 with h1 | ⟨g, cap, cur, h1, h2, h3, h4⟩
  · exact .inl h1
  · exact .inr ⟨g, cap, cur, h1, by omega, h3, h4⟩
theorem OS.kept {B b : Nat} {w w' : World} {v : Value} {n : Nat} {vs : List Sx} (h : OS B w v n vs) (hg : w.grownBy w' (some b)) (hb : b < B) : OS B w' v n vs := by
  refine ⟨⟨h.1.1, ?_⟩, h.2⟩
  rcases h.1.2 with h1 | ⟨g, cap, cur, h1, h2, h3, h4⟩
  · exact .inl h1
  · exact .inr ⟨g, cap, cur, h1, h2, (hg.block g (Array.getElem?_eq_some_iff.1 h3).1 (fun e => by cases e; omega)).trans h3, h4⟩
theorem OS.nil (B : Nat) (w : World) : OS B w (.slice none 0 0) 0 [] := ⟨⟨rfl, .inl ⟨rfl, rfl⟩⟩, by simp⟩
/-- its last element taken off -/
theorem OS.cut {w : World} {B : Nat} {a : Option Addr} {n c : Nat} {vs : List Sx} {v : Sx} (h : OS B w (.slice a (n + 1) c) (n + 1) (vs ++ [v])) : OS B w (.slice a n c) n vs := by
  have hlen := h.len
  rw [List.length_append, List.length_singleton] at hlen
  have hvs : ∀ x ∈ vs, Sk x := fun x hx => h.2 x (by simp [hx])
  have hl := FS_len vs hvs
  have e : n = vs.length := by omega
  refine ⟨⟨by rw [hl, e], ?_⟩, hvs⟩
  rcases h.1.2 with ⟨h1, h2⟩ | ⟨g', cap, cur, h1, h2, h3, h4, h5, h6, h7⟩
  · cases h1
  · simp only [Value.slice.injEq] at h1
    obtain ⟨rfl, _, rfl⟩ := h1
    refine .inr ⟨g', c, cur, rfl, h2, h3, by omega, h5, h6, ?_⟩
    have := congrArg (List.take (n * 35)) h7
    rw [List.take_take, Nat.min_eq_left (by omega), FS_append, List.take_left' (by rw [hl, e])] at this
    exact this
theorem info50' : ∃ i : TypeInfo, Try.prog.info? 50 = some i ∧ i.size = 35 ∧ i.bytes = 64 ∧ ∃ z, i.zero = some z ∧ z.cells.size = 35 := by
  obtain ⟨i, hi, he⟩ := Option.map_eq_some_iff.1 (show (Try.prog.info? 50).map (fun i => (i.size, i.bytes, i.zero.map (·.cells.size))) = some (35, 64, some 35) by kernel_rfl)
  simp only [Prod.mk.injEq] at he
  obtain ⟨z, hz, hz2⟩ := Option.map_eq_some_iff.1 he.2.2
  exact ⟨i, hi, he.1, he.2.1, z, hz, hz2⟩
theorem run_appS (w : World) (B : Nat) (ty : TypeId) (v : Value) (n : Nat) (vs : List Sx) (o : Option Addr) (m c : Nat) (xs : List Sx) (hown : OS B w v n vs) (hx : SsR w o m xs) (hn : n + m ≤ 1000000) (hB : B ≤ w.heap.size) :
    ∃ v' w', (Builtin.append_ #[45, 45] ty #[v, .slice o m c]).run Try.prog w = .ok v' w' ∧ OS B w' v' (n + m) (vs ++ xs) ∧ w.grownBy w' v.ownBlock ∧ (v'.ownBlock = v.ownBlock ∨ v'.ownBlock = some w.heap.size) := by
  have hown0 := hown
  obtain ⟨hown, hvs⟩ := hown
  obtain ⟨i, hi, hs1, hby, z, hz, hzs⟩ := info50'
  have h63 : n + m ≤ maxLen := by unfold maxLen; omega
  have hbytes : (n + m) * 64 ≤ 140737488355328 := by omega
  have hk : ∀ x ∈ vs ++ xs, Sk x := fun x hx' => by
    rcases List.mem_append.1 hx' with h | h
    · exact hvs x h
    · exact hx.2.1 x h
  by_cases hm : 0 < m
  · obtain ⟨g, off, rfl, hg, hel⟩ := hx.2.2 hm
    have hr := (rangeAt_FS xs off hx.2.1).1 hel
    have hnews : ∀ j u, (FS xs)[j]? = some u → w.cell? ((⟨g, off, none⟩ : Addr).add j) = some u := fun j u hj => by rw [Addr.add_lit]; exact hr j u hj
    have hl : (FS xs).length = m * 35 := by rw [FS_len _ hx.2.1, hx.1]
    obtain ⟨v', w', hrun, ho, hg2, _⟩ := run_append_own w B 45 ty 50 i z 35 64 Try.underlying45 hi hz hs1 hby hzs (by omega) v n (FS vs) hown ⟨g, off, none⟩ m c (FS xs) hl hnews (FS_one xs) h63 hbytes hB
    refine ⟨v', w', hrun, ⟨by rw [FS_append]; exact ho, hk⟩, hg2, ?_⟩
    rcases hown.2 with ⟨rfl, rfl⟩ | ⟨g', cap, cur, rfl, hbg, hg', hnc, hcm, hcs, htake⟩
    · have hr2 := run_append_nil (P := Try.prog) w 45 ty 50 i z Try.underlying45 hi hz ⟨g, off, none⟩ m c (FS xs) (by rw [hs1]; exact hl) hnews (by omega) (by omega) (by rw [hby]; omega)
      rw [hr2] at hrun
      injection hrun with e1 e2
      exact .inr (by rw [← e1]; rfl)
    · by_cases hroom : n + m ≤ cap
      · have hr2 := run_append_room (P := Try.prog) w 45 ty 50 i Try.underlying45 hi g' n cap cur hg' ⟨g, off, none⟩ m c (FS xs) (by rw [hs1]; exact hl) hnews (FS_one xs) hroom (by rw [hs1, hl, hcs, ← Nat.add_mul]; exact Nat.mul_le_mul_right _ hroom)
        rw [hr2] at hrun
        injection hrun with e1 e2
        exact .inl (by rw [← e1]; rfl)
      · have holds := hown.cells (g := g') rfl
        have hr2 := run_append_grow (P := Try.prog) w 45 ty 50 i z Try.underlying45 hi hz ⟨g', 0, none⟩ n cap (FS vs) (by rw [hs1]; exact hown.1) holds ⟨g, off, none⟩ m c (FS xs) (by rw [hs1]; exact hl) hnews (by omega) (by omega) (growslice_fits (by omega) (by rw [hby]; exact hbytes))
        rw [hr2] at hrun
        injection hrun with e1 e2
        exact .inr (by rw [← e1]; rfl)
  · obtain rfl : m = 0 := by omega
    have hxs : xs = [] := List.eq_nil_of_length_eq_zero hx.1
    subst hxs
    obtain ⟨a, cap, rfl, _, hc, _⟩ : ∃ a cap, v = .slice a n cap ∧ True ∧ n ≤ cap ∧ True := by
      rcases hown.2 with ⟨rfl, rfl⟩ | ⟨g, cap, cur, rfl, h1, h2, h3, h4⟩
      · exact ⟨none, 0, rfl, trivial, Nat.le_refl _, trivial⟩
      · exact ⟨_, cap, rfl, trivial, h3, trivial⟩
    refine ⟨_, w, run_append_zero w 45 ty 50 i Try.underlying45 hi a o n cap c hc, by simpa using hown0, World.grownBy.refl _ _, .inl rfl⟩
theorem run_bsliceS (v : Sx) (hv : Sk v) (W : World) : (Instr.buildSlice 45 1 #[(0, .agg v.cells.toArray)]).run Try.prog W = .ok (.slice (some ⟨W.heap.size, 0, none⟩) 1 1) (W.alloc (.cells v.cells.toArray 50)) := by
  obtain ⟨i, hi, hs1, hby, z, hz, hzs⟩ := info50'
  have hl := Sx.len hv
  generalize v.cells = L at hl ⊢
  have e : ∀ A : Array Value, A.size = 35 → List.foldl (fun cs (x : Value × Nat) => cs.setIfInBounds x.2 x.1) A L.zipIdx = L.toArray := by
    intro A hA
    apply Array.toList_inj.1
    rw [fold_set L 0 A (by rw [hl, hA])]
    simp
  simp [Instr.buildSlice, run_underlying Try.underlying45, sizeOf, typeInfo, hi, hs1, zeroValue, hz, Instr.fill, Value.cells, hl, e]
  simp [newRow]
theorem new50 (w : World) (v : Sx) : (w.alloc (.cells v.cells.toArray 50)).rangeAt w.heap.size 0 v.cells := (Blk.new w v.cells.toArray 50).range0
theorem SsR.one (w : World) (v : Sx) (hv : Sk v) : SsR (w.alloc (.cells v.cells.toArray 50)) (some ⟨w.heap.size, 0, none⟩) 1 [v] := by
  refine ⟨rfl, by simpa using hv, fun _ => ⟨_, _, rfl, by simp, fun i x hi => ?_⟩⟩
  cases i with
  | zero =>
    simp at hi; subst hi
    simpa using new50 w v
  | succ i => simp at hi
theorem OS.one (w : World) (v : Sx) (hv : Sk v) {B : Nat} (hB : B ≤ w.heap.size) : OS B (w.alloc (.cells v.cells.toArray 50)) (.slice (some ⟨w.heap.size, 0, none⟩) 1 1) 1 [v] := by
  have hl := Sx.len hv
  have hb := Blk.new w v.cells.toArray 50
  refine ⟨⟨by simp [FS, hl], .inr ⟨_, 1, v.cells.toArray, rfl, hB, hb, Nat.le_refl _, by unfold maxLen; omega, by simp [hl], by rw [List.take_of_length_le (by simp [hl])]; simp [FS]⟩⟩, by simpa using hv⟩
section
variable {ops : Array Oper} {rest : List Oper} {o : Oper} {a : Act} {w : World} {Q : Exit → Act → World → Prop}
theorem wpList_bsliceS (hg : o.guard = none) (x : Operand) (hop : o.op = Op.buildSlice 45 1 #[(0, x)]) (v : Sx) (hv : Sk v) (hx : a.eval x = .agg v.cells.toArray)
    (hK : wpList Try.prog ops Q rest (a.put o.dst (.slice (some ⟨w.heap.size, 0, none⟩) 1 1)) (w.alloc (.cells v.cells.toArray 50))) : wpList Try.prog ops Q (o :: rest) a w := by
  refine wpList_plain hg fun K' hK' => ?_
  unfold Oper.wp execOp
  simp [hop, hx, run_bsliceS v hv, Result.andThen]
  exact hK' _ _ hK
theorem wpList_appS (hg : o.guard = none) (s x : Operand) (hop : o.op = Op.call { callee := Callee.builtin Builtin.append, args := #[s, x], argTypes := #[45, 45] }) (B : Nat) (v : Value) (n : Nat) (hs : List Sx) (oa : Option Addr) (m c : Nat) (xs : List Sx) (hv : a.eval s = v) (hx : a.eval x = .slice oa m c)
    (hown : OS B w v n hs) (hxs : SsR w oa m xs) (hn : n + m ≤ 1000000) (hB : B ≤ w.heap.size)
    (hK : ∀ v' w', OS B w' v' (n + m) (hs ++ xs) → w.grownBy w' v.ownBlock → (v'.ownBlock = v.ownBlock ∨ v'.ownBlock = some w.heap.size) → wpList Try.prog ops Q rest (a.put o.dst v') w') : wpList Try.prog ops Q (o :: rest) a w := by
  refine wpList_plain hg fun K' hK' => ?_
  obtain ⟨v', w', hrun, r1, r2, r3⟩ := run_appS w B o.type v n hs oa m c xs hown hxs hn hB
  unfold Oper.wp execOp
  simp only [hop, resolve, invoke, builtin, Sem.run_bind, Sem.run_pure, Result.andThen_ok, List.map_toArray, List.map_cons, List.map_nil, hv, hx, hrun]
  exact hK' _ _ (hK v' w' r1 r2 r3)
theorem wpList_mkS (hg : o.guard = none) (l c : Operand) (hop : o.op = Op.makeSlice 45 l c) (B n : Nat) (hl : a.eval l = .int .i64 0) (hc : a.eval c = .int .i64 (n : Int)) (hn : n ≤ 1000000) (hB : B ≤ w.heap.size)
    (hK : ∀ w', OS B w' (.slice (some ⟨w.heap.size, 0, none⟩) 0 n) 0 [] → Below w.heap.size w w' → wpList Try.prog ops Q rest (a.put o.dst (.slice (some ⟨w.heap.size, 0, none⟩) 0 n)) w') : wpList Try.prog ops Q (o :: rest) a w := by
  refine wpList_plain hg fun K' hK' => ?_
  obtain ⟨i, hi, hs1, hby, z, hz, hzs⟩ := info50'
  obtain ⟨w', hrun, h1, h2⟩ := run_make_own (P := Try.prog) w B 45 50 i z 35 Try.underlying45 hi hz hs1 .i64 .i64 n (by rw [hby]; omega) (by unfold maxLen; omega) hB
  unfold Oper.wp execOp
  simp [hop, hl, hc, hrun, Result.andThen]
  exact hK' _ _ (hK w' ⟨h1, by simp⟩ ⟨h2.os, h2.tape, h2.output, h2.size, fun k hk => h2.block k hk (by simp)⟩)
end
theorem SsR.same2 {w w' : World} {a : Option Addr} {n : Nat} {vs : List Sx} (h : SsR w a n vs) (hb : Below w.heap.size w w') : SsR w' a n vs := h.below hb
/-- it lies apart from blocks of other types -/
theorem OS.blk {B : Nat} {w : World} {v : Value} {n : Nat} {vs : List Sx} (h : OS B w v n vs) {g : Nat} (hg : v.ownBlock = some g) : B ≤ g ∧ ∃ C, w.heap[g]? = some (.cells C 50 (0, 0)) := by
  rcases h.1.2 with ⟨rfl, _⟩ | ⟨g', cap, cur, rfl, h1, h2, _⟩
  · cases hg
  · cases hg
    exact ⟨h1, cur, h2⟩
end Go.Proofs.Ytjcihaohpbmogaa.Oct

/- Layer 11 (lines): Shown: a line is told. -/
namespace Go.Proofs.Ytjcihaohpbmogaa.Oct
open Go.RowKit
set_option maxRecDepth 100000
set_option linter.unusedSimpArgs false
set_option linter.unusedVariables false
set_option linter.unusedSectionVars false

theorem built50 (y : Vx) (t : BA) (k : Nat) (hy : y.ok) : Try.prog.built 50 [(0, .agg y.cells.toArray), (1, .string t), (2, iv (k : Int))] = some (Sx.cells ⟨y, t, k⟩).toArray := by
  obtain ⟨h, n⟩ := y
  obtain ⟨c0, c1, c2, c3, c4, c5, c6, c7, c8, c9, c10, c11, c12, c13, c14, c15, c16, c17, c18, c19, c20, c21, c22, c23, c24, c25, c26, c27, c28, c29, c30, c31, rfl⟩ := ls32 (x := h) hy
  kernel_rfl
theorem step_bsS {ops : Array Oper} {op : Oper} {a : Act} {w : World} {K : Act → World → Prop} {Q : Exit → Act → World → Prop} {E : Prop} (hw : Region.wanted op (yielded ops a.tmps) = true) (x : Operand) (hop : op.op = .buildSlice 45 1 #[(0, x)]) (v : Sx) (hv : Sk v) (hx : a.eval x = .agg v.cells.toArray)
    (hk : K (a.put op.dst (.slice (some ⟨w.heap.size, 0, none⟩) 1 1)) (w.alloc (.cells v.cells.toArray 50))) : if Region.wanted op (yielded ops a.tmps) = true then Oper.wp Try.prog op a w K Q else E := by
  rw [if_pos hw]
  unfold Oper.wp execOp
  simp only [hop, List.map_toArray, List.map_cons, List.map_nil, hx, Sem.run_bind, Sem.run_pure, Result.andThen_ok, run_bsliceS v hv]
  exact hk
theorem yl_len {o : Oper} {a : Act} (V : World) (t : TypeId) (x : Operand) (v r : Value) (hop : o.op = .call { callee := .builtin .len, args := #[x], argTypes := #[t] }) (hx : a.eval x = v) (hr : (Builtin.len_ #[t] o.type #[v]).run Try.prog V = .ok r V) : (execOp a.eval o).run Try.prog V = .ok (.value r) V := by
  unfold execOp
  simp only [hop, resolve, invoke, builtin, Sem.run_bind, Sem.run_pure, Result.andThen_ok, List.map_toArray, List.map_cons, List.map_nil, hx, hr]
theorem cell_of_range {V : World} {g o : Nat} {cs : List Value} (h : V.rangeAt g o cs) {j : Nat} {x : Value} (hj : cs[j]? = some x) : V.cell? ⟨g, o + j, none⟩ = some x := h j x hj
theorem Keep.grownS {S : Nat → Prop} {w w' : World} {r : Option Nat} (h : w.grownBy w' r) (hS : ∀ k, r = some k → S k) : Keep S w w' :=
  ⟨h.os, h.tape, h.output, h.size, fun k hk hn => h.block k hk (fun e => hn (hS k e.symm))⟩
set_option maxRecDepth 100000 in
set_option maxHeartbeats 4000000 in
theorem sh9 {Q : Exit → Act → World → Prop} {x0 x1 x2 x5 x8 x9 x10 x11 x12 x13 x14 x15 x16 x17 x18 x19 x20 x21 x22 x23 x24 x25 x26 x27 x28 x29 x30 x31 x32 x33 x34 x35 x36 x37 x38 x39 x40 x41 x42 x43 x44 x45 x46 x47 x48 : Value} {ds : List Deferred} {A : World} {B d3 gb off N vc k lb kn on : Nat} {ov : Value} {kb : Option Nat} {y : Vx} {t : BA} {xs : List Sx}
    (HD : Hid (d3 < A.heap.size ∧ ¬ ov.ownBlock = some d3)) (HL : Hid (gb < A.heap.size ∧ ¬ ov.ownBlock = some gb)) (HR : Hid (A.rangeAt gb (off + k * 33) y.cells)) (HV : Hid (Vk y)) (HLB : Hid (lb < A.heap.size ∧ ¬ ov.ownBlock = some lb)) (cd : A.cell? ⟨d3, 0, none⟩ = some (.slice (some ⟨gb, off, none⟩) N vc)) (ct : A.cell? ⟨lb, 0, none⟩ = some (.string t)) (ck : A.cell? ⟨lb, 35, none⟩ = some (.map kb)) (HK : Hid (∀ V, Keep (fun k => ov.ownBlock = some k) A V → (Builtin.len_ #[84] 3 #[.map kb]).run Try.prog V = .ok (iv (kn : Int)) V)) (HX : Hid (OS B A ov on xs)) (HN : Hid (on + 1 ≤ 1000000)) (HB : Hid (B ≤ A.heap.size)) (q1 : (k : Int) < (N : Int)) (q2 : k < N)
    (hQ : ∀ V3 r ov', (Keep (fun k => ov.ownBlock = some k) A V3 ∧ OS B V3 ov' (on + 1) (xs ++ [⟨y, t, kn⟩])) → Q .normal { tmps := #[x0, x1, x2, .pointer (some ⟨d3, 0, none⟩), ov', x5, iv (k : Int), .pointer (some ⟨lb, 0, none⟩), x8, x9, x10, x11, x12, x13, x14, x15, x16, x17, x18, x19, x20, x21, x22, x23, x24, x25, x26, x27, x28, ov, .pointer (some ⟨d3, 0, none⟩), .slice (some ⟨gb, off, none⟩) N vc, iv (k : Int), .pointer (some ⟨gb, off + k * 33, none⟩), .agg y.cells.toArray, .pointer (some ⟨lb, 0, none⟩), .pointer (some ⟨lb, 0, none⟩), .pointer (some ⟨lb, 0, none⟩), .string t, .pointer (some ⟨lb, 0, none⟩), .pointer (some ⟨lb, 0, none⟩), .pointer (some ⟨lb, 35, none⟩), .map kb, iv (kn : Int), .agg (Sx.cells ⟨y, t, kn⟩).toArray, .slice (some ⟨r, 0, none⟩) 1 1, ov', x47, x48], defers := ds } V3) :
    (Code.region 9 #[{ dst := some 29, op := Op.move (Operand.tmp 4), type := 45, pos := "tell.go:101", after := #[], guard := none }, { dst := some 30, op := Op.fieldAddr 80 (Operand.tmp 3) 0, type := 0, pos := "tell.go:101", after := #[], guard := none }, { dst := some 31, op := Op.load 35 (Operand.tmp 30), type := 35, pos := "tell.go:101", after := #[{ on := 1, ground := Ground.data }], guard := none }, { dst := some 32, op := Op.move (Operand.tmp 6), type := 3, pos := "tell.go:101", after := #[], guard := none }, { dst := some 33, op := Op.indexAddr 35 (Operand.tmp 31) (Operand.tmp 32), type := 0, pos := "tell.go:101", after := #[{ on := 2, ground := Ground.data }, { on := 3, ground := Ground.data }], guard := none }, { dst := some 34, op := Op.load 34 (Operand.tmp 33), type := 34, pos := "tell.go:101", after := #[{ on := 4, ground := Ground.data }], guard := none }, { dst := some 35, op := Op.move (Operand.tmp 7), type := 71, pos := "tell.go:101", after := #[], guard := none }, { dst := some 36, op := Op.nilCheck (Operand.tmp 35), type := 0, pos := "tell.go:101", after := #[{ on := 6, ground := Ground.data }], guard := none }, { dst := some 37, op := Op.fieldAddr 86 (Operand.tmp 36) 0, type := 0, pos := "tell.go:101", after := #[{ on := 7, ground := Ground.data }], guard := none }, { dst := some 38, op := Op.load 9 (Operand.tmp 37), type := 9, pos := "tell.go:101", after := #[{ on := 8, ground := Ground.data }], guard := none }, { dst := some 39, op := Op.move (Operand.tmp 7), type := 71, pos := "tell.go:101", after := #[], guard := none }, { dst := some 40, op := Op.nilCheck (Operand.tmp 39), type := 0, pos := "tell.go:101", after := #[{ on := 10, ground := Ground.data }], guard := none }, { dst := some 41, op := Op.fieldAddr 86 (Operand.tmp 40) 3, type := 0, pos := "tell.go:101", after := #[{ on := 11, ground := Ground.data }], guard := none }, { dst := some 42, op := Op.load 84 (Operand.tmp 41), type := 84, pos := "tell.go:101", after := #[{ on := 12, ground := Ground.data }], guard := none }, { dst := some 43, op := Op.call { callee := Callee.builtin Builtin.len, args := #[Operand.tmp 42], argTypes := #[84] }, type := 3, pos := "tell.go:101", after := #[{ on := 13, ground := Ground.data }], guard := none }, { dst := some 44, op := Op.build 50 #[(0, Operand.tmp 34), (1, Operand.tmp 38), (2, Operand.tmp 43)], type := 50, pos := "tell.go:101", after := #[{ on := 5, ground := Ground.data }, { on := 9, ground := Ground.data }, { on := 14, ground := Ground.data }], guard := none }, { dst := some 45, op := Op.buildSlice 45 1 #[(0, Operand.tmp 44)], type := 45, pos := "tell.go:101", after := #[{ on := 15, ground := Ground.data }], guard := none }, { dst := some 46, op := Op.call { callee := Callee.builtin Builtin.append, args := #[Operand.tmp 29, Operand.tmp 45], argTypes := #[45, 45] }, type := 45, pos := "tell.go:101", after := #[{ on := 0, ground := Ground.data }, { on := 16, ground := Ground.data }, { on := 14, ground := Ground.chain }], guard := none }, { dst := some 4, op := Op.assign (Operand.tmp 46), type := 45, pos := "tell.go:101", after := #[{ on := 17, ground := Ground.data }, { on := 17, ground := Ground.chain }, { on := 0, ground := Ground.phase }, { on := 1, ground := Ground.phase }, { on := 2, ground := Ground.phase }, { on := 3, ground := Ground.phase }, { on := 4, ground := Ground.phase }, { on := 5, ground := Ground.phase }, { on := 6, ground := Ground.phase }, { on := 7, ground := Ground.phase }, { on := 8, ground := Ground.phase }, { on := 9, ground := Ground.phase }, { on := 10, ground := Ground.phase }, { on := 11, ground := Ground.phase }, { on := 12, ground := Ground.phase }, { on := 13, ground := Ground.phase }, { on := 14, ground := Ground.phase }, { on := 15, ground := Ground.phase }, { on := 16, ground := Ground.phase }, { on := 17, ground := Ground.phase }], guard := none }] true).wp Try.prog Q { tmps := #[x0, x1, x2, .pointer (some ⟨d3, 0, none⟩), ov, x5, iv (k : Int), .pointer (some ⟨lb, 0, none⟩), x8, x9, x10, x11, x12, x13, x14, x15, x16, x17, x18, x19, x20, x21, x22, x23, x24, x25, x26, x27, x28, x29, x30, x31, x32, x33, x34, x35, x36, x37, x38, x39, x40, x41, x42, x43, x44, x45, x46, x47, x48], defers := ds } A := by
  refine Code.wp_mono (Q := fun x a' w' => match x with | .normal => Q .normal a' w' | _ => False) (by intro x a' w' h; cases x <;> first | exact h | exact h.elim) ?_
  refine wp_region_held (S := fun V => Keep (fun k => ov.ownBlock = some k) A V) (by kernel_rfl) ?_
  have hS0 : Hid (Keep (fun k => ov.ownBlock = some k) A A.drew) := (Keep.refl _ A).drew
  change wpAnyH Try.prog .any _ _ (fun V => Keep (fun k => ov.ownBlock = some k) A V) 19 (Array.replicate 19 false) _ A.drew
  obtain ⟨V0, hV0⟩ : ∃ V0, A.drew = V0 := ⟨_, rfl⟩
  rw [hV0]
  rw [hV0] at hS0
  have hX0 : Hid (OS B V0 ov on xs) := by
    show OS B V0 ov on xs
    rw [← hV0]
    exact ⟨HX.out.1, HX.out.2⟩
  clear hV0
  refine wpAnyH_take (i := 0) (oi := { dst := some 29, op := Op.move (Operand.tmp 4), type := 45, pos := "tell.go:101", after := #[], guard := none }) (v := ov) rfl (by kernel_rfl) (by kernel_rfl) (by kernel_rfl) (fun _ _ _ h => h.elim) (Or.inl ⟨by rfl, ?y1⟩) hS0.out ?_
  case y1 =>
    intro V hV
    go_simp
  simp only [Act.put, List.setIfInBounds_toArray, List.set_cons_zero, List.set_cons_succ]
  refine wpAnyH_take (i := 1) (oi := { dst := some 30, op := Op.fieldAddr 80 (Operand.tmp 3) 0, type := 0, pos := "tell.go:101", after := #[], guard := none }) (v := .pointer (some ⟨d3, 0, none⟩)) rfl (by kernel_rfl) (by kernel_rfl) (by kernel_rfl) (fun _ _ _ h => h.elim) (Or.inl ⟨by rfl, ?y2⟩) hS0.out ?_
  case y2 =>
    intro V hV
    go_simp
  simp only [Act.put, List.setIfInBounds_toArray, List.set_cons_zero, List.set_cons_succ]
  refine wpAnyH_take (i := 2) (oi := { dst := some 31, op := Op.load 35 (Operand.tmp 30), type := 35, pos := "tell.go:101", after := #[{ on := 1, ground := Ground.data }], guard := none }) (v := .slice (some ⟨gb, off, none⟩) N vc) rfl (by kernel_rfl) (by kernel_rfl) (by kernel_rfl) (fun _ _ _ h => h.elim) (Or.inl ⟨by rfl, ?y3⟩) hS0.out ?_
  case y3 =>
    intro V hV
    have hc : V.cell? ⟨d3, 0, none⟩ = some (.slice (some ⟨gb, off, none⟩) N vc) := (cell_keep hV HD.out.1 HD.out.2).trans cd
    go_simp
  simp only [Act.put, List.setIfInBounds_toArray, List.set_cons_zero, List.set_cons_succ]
  refine wpAnyH_take (i := 3) (oi := { dst := some 32, op := Op.move (Operand.tmp 6), type := 3, pos := "tell.go:101", after := #[], guard := none }) (v := iv (k : Int)) rfl (by kernel_rfl) (by kernel_rfl) (by kernel_rfl) (fun _ _ _ h => h.elim) (Or.inl ⟨by rfl, ?y4⟩) hS0.out ?_
  case y4 =>
    intro V hV
    go_simp
  simp only [Act.put, List.setIfInBounds_toArray, List.set_cons_zero, List.set_cons_succ]
  refine wpAnyH_take (i := 4) (oi := { dst := some 33, op := Op.indexAddr 35 (Operand.tmp 31) (Operand.tmp 32), type := 0, pos := "tell.go:101", after := #[{ on := 2, ground := Ground.data }, { on := 3, ground := Ground.data }], guard := none }) (v := .pointer (some ⟨gb, off + k * 33, none⟩)) rfl (by kernel_rfl) (by kernel_rfl) (by kernel_rfl) (fun _ _ _ h => h.elim) (Or.inl ⟨by rfl, ?y5⟩) hS0.out ?_
  case y5 =>
    intro V hV
    have hcmp := q1
    have hcmp2 := q2
    go_simp
  simp only [Act.put, List.setIfInBounds_toArray, List.set_cons_zero, List.set_cons_succ]
  refine wpAnyH_take (i := 5) (oi := { dst := some 34, op := Op.load 34 (Operand.tmp 33), type := 34, pos := "tell.go:101", after := #[{ on := 4, ground := Ground.data }], guard := none }) (v := .agg y.cells.toArray) rfl (by kernel_rfl) (by kernel_rfl) (by kernel_rfl) (fun _ _ _ h => h.elim) (yieldsIf_load_mid (by rfl) _ _ rfl _ _ rfl (y.cells) _ (fun V hV => rangeAt_same (HR.out) ((show Keep (fun k => ov.ownBlock = some k) A V from hV).block _ (HL.out.1) (HL.out.2))) Try.underlying34 rfl (info34 HV.out.1)) hS0.out ?_
  simp only [Act.put, List.setIfInBounds_toArray, List.set_cons_zero, List.set_cons_succ]
  refine wpAnyH_take (i := 6) (oi := { dst := some 35, op := Op.move (Operand.tmp 7), type := 71, pos := "tell.go:101", after := #[], guard := none }) (v := .pointer (some ⟨lb, 0, none⟩)) rfl (by kernel_rfl) (by kernel_rfl) (by kernel_rfl) (fun _ _ _ h => h.elim) (Or.inl ⟨by rfl, ?y6⟩) hS0.out ?_
  case y6 =>
    intro V hV
    go_simp
  simp only [Act.put, List.setIfInBounds_toArray, List.set_cons_zero, List.set_cons_succ]
  refine wpAnyH_take (i := 7) (oi := { dst := some 36, op := Op.nilCheck (Operand.tmp 35), type := 0, pos := "tell.go:101", after := #[{ on := 6, ground := Ground.data }], guard := none }) (v := .pointer (some ⟨lb, 0, none⟩)) rfl (by kernel_rfl) (by kernel_rfl) (by kernel_rfl) (fun _ _ _ h => h.elim) (Or.inl ⟨by rfl, ?y7⟩) hS0.out ?_
  case y7 =>
    intro V hV
    go_simp
  simp only [Act.put, List.setIfInBounds_toArray, List.set_cons_zero, List.set_cons_succ]
  refine wpAnyH_take (i := 8) (oi := { dst := some 37, op := Op.fieldAddr 86 (Operand.tmp 36) 0, type := 0, pos := "tell.go:101", after := #[{ on := 7, ground := Ground.data }], guard := none }) (v := .pointer (some ⟨lb, 0, none⟩)) rfl (by kernel_rfl) (by kernel_rfl) (by kernel_rfl) (fun _ _ _ h => h.elim) (Or.inl ⟨by rfl, ?y8⟩) hS0.out ?_
  case y8 =>
    intro V hV
    go_simp
  simp only [Act.put, List.setIfInBounds_toArray, List.set_cons_zero, List.set_cons_succ]
  refine wpAnyH_take (i := 9) (oi := { dst := some 38, op := Op.load 9 (Operand.tmp 37), type := 9, pos := "tell.go:101", after := #[{ on := 8, ground := Ground.data }], guard := none }) (v := .string t) rfl (by kernel_rfl) (by kernel_rfl) (by kernel_rfl) (fun _ _ _ h => h.elim) (Or.inl ⟨by rfl, ?y9⟩) hS0.out ?_
  case y9 =>
    intro V hV
    have hc : V.cell? ⟨lb, 0, none⟩ = some (.string t) := (cell_keep hV HLB.out.1 HLB.out.2).trans ct
    go_simp
  simp only [Act.put, List.setIfInBounds_toArray, List.set_cons_zero, List.set_cons_succ]
  refine wpAnyH_take (i := 10) (oi := { dst := some 39, op := Op.move (Operand.tmp 7), type := 71, pos := "tell.go:101", after := #[], guard := none }) (v := .pointer (some ⟨lb, 0, none⟩)) rfl (by kernel_rfl) (by kernel_rfl) (by kernel_rfl) (fun _ _ _ h => h.elim) (Or.inl ⟨by rfl, ?y10⟩) hS0.out ?_
  case y10 =>
    intro V hV
    go_simp
  simp only [Act.put, List.setIfInBounds_toArray, List.set_cons_zero, List.set_cons_succ]
  refine wpAnyH_take (i := 11) (oi := { dst := some 40, op := Op.nilCheck (Operand.tmp 39), type := 0, pos := "tell.go:101", after := #[{ on := 10, ground := Ground.data }], guard := none }) (v := .pointer (some ⟨lb, 0, none⟩)) rfl (by kernel_rfl) (by kernel_rfl) (by kernel_rfl) (fun _ _ _ h => h.elim) (Or.inl ⟨by rfl, ?y11⟩) hS0.out ?_
  case y11 =>
    intro V hV
    go_simp
  simp only [Act.put, List.setIfInBounds_toArray, List.set_cons_zero, List.set_cons_succ]
  refine wpAnyH_take (i := 12) (oi := { dst := some 41, op := Op.fieldAddr 86 (Operand.tmp 40) 3, type := 0, pos := "tell.go:101", after := #[{ on := 11, ground := Ground.data }], guard := none }) (v := .pointer (some ⟨lb, 35, none⟩)) rfl (by kernel_rfl) (by kernel_rfl) (by kernel_rfl) (fun _ _ _ h => h.elim) (Or.inl ⟨by rfl, ?y12⟩) hS0.out ?_
  case y12 =>
    intro V hV
    go_simp
  simp only [Act.put, List.setIfInBounds_toArray, List.set_cons_zero, List.set_cons_succ]
  refine wpAnyH_take (i := 13) (oi := { dst := some 42, op := Op.load 84 (Operand.tmp 41), type := 84, pos := "tell.go:101", after := #[{ on := 12, ground := Ground.data }], guard := none }) (v := .map kb) rfl (by kernel_rfl) (by kernel_rfl) (by kernel_rfl) (fun _ _ _ h => h.elim) (Or.inl ⟨by rfl, ?y13⟩) hS0.out ?_
  case y13 =>
    intro V hV
    have hc : V.cell? ⟨lb, 35, none⟩ = some (.map kb) := (cell_keep hV HLB.out.1 HLB.out.2).trans ck
    go_simp
  simp only [Act.put, List.setIfInBounds_toArray, List.set_cons_zero, List.set_cons_succ]
  refine wpAnyH_take (i := 14) (oi := { dst := some 43, op := Op.call { callee := Callee.builtin Builtin.len, args := #[Operand.tmp 42], argTypes := #[84] }, type := 3, pos := "tell.go:101", after := #[{ on := 13, ground := Ground.data }], guard := none }) (v := iv (kn : Int)) rfl (by kernel_rfl) (by kernel_rfl) (by kernel_rfl) (fun _ _ _ h => h.elim) (Or.inl ⟨by rfl, ?y14⟩) hS0.out ?_
  case y14 =>
    intro V hV
    exact yl_len V 84 _ _ _ rfl rfl (HK.out V hV)
  simp only [Act.put, List.setIfInBounds_toArray, List.set_cons_zero, List.set_cons_succ]
  refine wpAnyH_take (i := 15) (oi := { dst := some 44, op := Op.build 50 #[(0, Operand.tmp 34), (1, Operand.tmp 38), (2, Operand.tmp 43)], type := 50, pos := "tell.go:101", after := #[{ on := 5, ground := Ground.data }, { on := 9, ground := Ground.data }, { on := 14, ground := Ground.data }], guard := none }) (v := .agg (Sx.cells ⟨y, t, kn⟩).toArray) rfl (by kernel_rfl) (by kernel_rfl) (by kernel_rfl) (fun _ _ _ h => h.elim) (Or.inl ⟨by rfl, ?y15⟩) hS0.out ?_
  case y15 =>
    intro V hV
    exact yl_build3 V 50 _ _ _ _ _ _ _ rfl rfl rfl rfl (built50 y t kn HV.out.1)
  simp only [Act.put, List.setIfInBounds_toArray, List.set_cons_zero, List.set_cons_succ]
  refine wpAnyH_ready (rs := [16]) (by kernel_rfl) (by simp) (AllReadyH.cons (i := 16) (o := { dst := some 45, op := Op.buildSlice 45 1 #[(0, Operand.tmp 44)], type := 45, pos := "tell.go:101", after := #[{ on := 15, ground := Ground.data }], guard := none }) rfl ?_ AllReadyH.nil)
  · intro K1 hK1
    refine step_bsS (by rfl) _ rfl ⟨y, t, kn⟩ HV.out rfl ?_
    obtain ⟨V1, hv1⟩ : ∃ V, V0.alloc (.cells (Sx.cells ⟨y, t, kn⟩).toArray 50) = V := ⟨_, rfl⟩
    obtain ⟨r, hr1⟩ : ∃ m, V0.heap.size = m := ⟨_, rfl⟩
    have hb1 : Below V0.heap.size V0 V1 := by rw [← hv1]; exact below_al _ _
    have hR1 : Hid (SsR V1 (some ⟨r, 0, none⟩) 1 [⟨y, t, kn⟩]) := by
      show SsR _ _ _ _
      rw [← hv1, ← hr1]
      exact SsR.one _ _ HV.out
    have hS1 : Hid (Keep (fun k => ov.ownBlock = some k) A V1) := (hS0.out).trans (Keep.below (S := fun _ => False) hb1) (fun _ h _ => h.elim)
    have hX1 : Hid (OS B V1 ov on xs) := hX0.out.below hb1
    rw [hv1, hr1]
    clear hv1 hr1 hb1
    refine hK1.out _ _ hS1.out ?_
    clear hK1
    intro _
    try simp only [Act.put, List.setIfInBounds_toArray, List.set_cons_zero, List.set_cons_succ]
    refine wpAnyH_ready (rs := [17]) (by kernel_rfl) (by simp) (AllReadyH.cons (i := 17) (o := { dst := some 46, op := Op.call { callee := Callee.builtin Builtin.append, args := #[Operand.tmp 29, Operand.tmp 45], argTypes := #[45, 45] }, type := 45, pos := "tell.go:101", after := #[{ on := 0, ground := Ground.data }, { on := 16, ground := Ground.data }, { on := 14, ground := Ground.chain }], guard := none }) rfl ?_ AllReadyH.nil)
    · intro K1 hK1
      obtain ⟨ov', V2, hr2, ho2, hg2, hw2⟩ := run_appS V1 B 45 ov on xs (some ⟨r, 0, none⟩) 1 1 [⟨y, t, kn⟩] hX1.out hR1.out HN.out (Nat.le_trans HB.out (hS1.out).size)
      refine step_apd (by rfl) _ _ rfl hr2 rfl rfl ?_
      have hS2 : Hid (Keep (fun k => ov.ownBlock = some k) A V2) := (hS1.out).trans (Keep.grownS (S := fun k => ov.ownBlock = some k) hg2 (fun _ h => h)) (fun _ h _ => h)
      have hX2 : Hid (OS B V2 ov' (on + 1) (xs ++ [⟨y, t, kn⟩])) := ho2
      clear hr2 ho2 hg2 hw2
      refine hK1.out _ _ hS2.out ?_
      clear hK1
      intro _
      try simp only [Act.put, List.setIfInBounds_toArray, List.set_cons_zero, List.set_cons_succ]
      refine wpAnyH_take (i := 18) (oi := { dst := some 4, op := Op.assign (Operand.tmp 46), type := 45, pos := "tell.go:101", after := #[{ on := 17, ground := Ground.data }, { on := 17, ground := Ground.chain }, { on := 0, ground := Ground.phase }, { on := 1, ground := Ground.phase }, { on := 2, ground := Ground.phase }, { on := 3, ground := Ground.phase }, { on := 4, ground := Ground.phase }, { on := 5, ground := Ground.phase }, { on := 6, ground := Ground.phase }, { on := 7, ground := Ground.phase }, { on := 8, ground := Ground.phase }, { on := 9, ground := Ground.phase }, { on := 10, ground := Ground.phase }, { on := 11, ground := Ground.phase }, { on := 12, ground := Ground.phase }, { on := 13, ground := Ground.phase }, { on := 14, ground := Ground.phase }, { on := 15, ground := Ground.phase }, { on := 16, ground := Ground.phase }, { on := 17, ground := Ground.phase }], guard := none }) (v := ov') rfl (by kernel_rfl) (by kernel_rfl) (by kernel_rfl) (fun _ _ _ h => h.elim) (Or.inl ⟨by rfl, ?y16⟩) hS2.out ?_
      case y16 =>
        intro V hV
        go_simp
      simp only [Act.put, List.setIfInBounds_toArray, List.set_cons_zero, List.set_cons_succ]
      refine wpAnyH_done (by kernel_rfl) ?_ _
      exact hQ V2 r ov' ⟨hS2.out, hX2.out⟩
end Go.Proofs.Ytjcihaohpbmogaa.Oct
