/-
  Layer 16 (token): rows of texts.
-/
import Derived.Test.YtjeahlfmapacfaaDoorPnt
import Derived.Maps.AppendAt
import Derived.Deep.DeepAppendWide
import Derived.Deep.MidRow
namespace Go.Proofs.YtjeahlfmapacfaaDoor.Oct
open Go.RowKit Sha
set_option linter.unusedSimpArgs false
set_option linter.unusedVariables false

theorem St1.len {e : St1} (_ : e.ok) : e.cells.length = 1 := rfl
theorem St1.one (e : St1) : ∀ v ∈ e.cells, v.oneCell' = true := by
  intro v hv
  simp only [St1.cells, List.mem_cons, List.not_mem_nil, or_false] at hv
  rcases hv with rfl; rfl
def cellsS (l : List St1) : List Value := l.flatMap St1.cells
/-- entries that can be read -/
def SlR (w : World) (v : Value) (l : List St1) : Prop :=
  (∀ e ∈ l, e.ok) ∧ ∃ a cap, v = .slice a l.length cap ∧ l.length ≤ cap ∧ cap ≤ maxLen ∧ (0 < l.length → ∃ b off, a = some ⟨b, off, none⟩ ∧ b < w.heap.size ∧ ∀ i e, l[i]? = some e → w.rangeAt b (off + i * 1) e.cells)
theorem SlR.below {w w' : World} {v : Value} {l : List St1} (h : SlR w v l) (hb : Below w.heap.size w w') : SlR w' v l := by
  obtain ⟨h1, a, cap, h2, h3, h4, h5⟩ := h
  refine ⟨h1, a, cap, h2, h3, h4, fun hp => ?_⟩
  obtain ⟨b, off, e1, e2, e3⟩ := h5 hp
  exact ⟨b, off, e1, Nat.lt_of_lt_of_le e2 hb.size, fun i e he => rangeAt_same (e3 i e he) (hb.block b e2)⟩
theorem SlR.nil (w : World) : SlR w (.slice none 0 0) [] := ⟨by simp, none, 0, rfl, Nat.le_refl _, by unfold maxLen; omega, fun h => absurd h (by simp)⟩
theorem run_append_zero {P : Program} (w : World) (t ty e : TypeId) (i : TypeInfo) (ht : P.underlying t = some (.slice e)) (hi : P.info? e = some i) (a o : Option Addr) (n cap c : Nat) (hn : n ≤ cap) :
    (Builtin.append_ #[t, t] ty #[.slice a n cap, .slice o 0 c]).run P w = .ok (.slice a n cap) w := by
  cases o with
  | none =>
    cases a with
    | none => simp [Builtin.append_, run_underlying ht, sizeOf, typeInfo, hi, Builtin.lenOf, Builtin.firstCells, hn]
    | some a => simp [Builtin.append_, run_underlying ht, sizeOf, typeInfo, hi, Builtin.lenOf, Builtin.firstCells, hn, storeCells]
  | some o =>
    cases a with
    | none => simp [Builtin.append_, run_underlying ht, sizeOf, typeInfo, hi, Builtin.lenOf, Builtin.firstCells, hn, loadCells, loadCellsFrom]
    | some a => simp [Builtin.append_, run_underlying ht, sizeOf, typeInfo, hi, Builtin.lenOf, Builtin.firstCells, hn, loadCells, loadCellsFrom, storeCells]
theorem sized9 : ∃ i z, Tryd.prog.info? 9 = some i ∧ i.zero = some z ∧ i.size = 1 ∧ i.bytes = 16 ∧ z.cells.size = 1 := by
  have h : (Tryd.prog.info? 9).map (fun i => (i.size, i.bytes, i.zero.map (·.cells.size))) = some (1, 16, some 1) := by kernel_rfl
  obtain ⟨i, hi, he⟩ := Option.map_eq_some_iff.1 h
  simp only [Prod.mk.injEq] at he
  obtain ⟨z, hz, hzs⟩ := Option.map_eq_some_iff.1 he.2.2
  exact ⟨i, z, hi, hz, he.1, he.2.1, hzs⟩
theorem cellsS_len : ∀ {l : List St1}, (∀ e ∈ l, e.ok) → (cellsS l).length = l.length * 1
  | [], _ => rfl
  | e :: l, h => by
    have := cellsS_len (l := l) (fun x hx => h x (by simp [hx]))
    have h2 := St1.len (h e (by simp))
    show (e.cells ++ cellsS l).length = _
    rw [List.length_append, this, h2, List.length_cons]
    omega
theorem cellsS_one (l : List St1) : ∀ v ∈ cellsS l, v.oneCell' = true := by
  intro v hv
  unfold cellsS at hv
  obtain ⟨e, _, hv⟩ := List.mem_flatMap.1 hv
  exact St1.one e v hv
theorem cellsS_app (l r : List St1) : cellsS (l ++ r) = cellsS l ++ cellsS r := by unfold cellsS; rw [List.flatMap_append]
theorem cellsS_get : ∀ {l : List St1} {i : Nat} {e : St1}, (∀ e ∈ l, e.ok) → l[i]? = some e → ∀ j v, e.cells[j]? = some v → (cellsS l)[i * 1 + j]? = some v
  | [], i, e, _, h => by simp at h
  | x :: l, 0, e, hok, h => by
    simp at h
    subst h
    intro j v hv
    show (x.cells ++ cellsS l)[0 * 1 + j]? = some v
    rw [Nat.zero_mul, Nat.zero_add, List.getElem?_append_left (List.getElem?_eq_some_iff.1 hv).1]
    exact hv
  | x :: l, i + 1, e, hok, h => by
    simp at h
    intro j v hv
    have ih := cellsS_get (fun y hy => hok y (by simp [hy])) h j v hv
    have hl := St1.len (hok x (by simp))
    show (x.cells ++ cellsS l)[(i + 1) * 1 + j]? = some v
    rw [List.getElem?_append_right (by omega), hl, show (i + 1) * 1 + j - 1 = i * 1 + j by omega]
    exact ih
/-- cells of entries that lie one behind the other -/
theorem range_each {w : World} {b off : Nat} {l : List St1} (hok : ∀ e ∈ l, e.ok) (h : w.rangeAt b off (cellsS l)) : ∀ i e, l[i]? = some e → w.rangeAt b (off + i * 1) e.cells := by
  intro i e he j v hv
  have := h (i * 1 + j) v (cellsS_get hok he j v hv)
  rw [← Nat.add_assoc] at this
  exact this
theorem range_all : ∀ {l : List St1} {w : World} {b off : Nat}, (∀ e ∈ l, e.ok) → (∀ i e, l[i]? = some e → w.rangeAt b (off + i * 1) e.cells) → w.rangeAt b off (cellsS l)
  | [], w, b, off, _, _ => fun j v hj => by simp [cellsS] at hj
  | x :: l, w, b, off, hok, h => by
    have hl := St1.len (hok x (by simp))
    have h0 := h 0 x rfl
    have ih := range_all (l := l) (w := w) (b := b) (off := off + 1) (fun y hy => hok y (by simp [hy])) (fun i e he => by
      have := h (i + 1) e (by simpa using he)
      rw [show off + (i + 1) * 1 = off + 1 + i * 1 by omega] at this
      exact this)
    intro j v hj
    change (x.cells ++ cellsS l)[j]? = some v at hj
    by_cases hlt : j < 1
    · rw [List.getElem?_append_left (by omega)] at hj
      have := h0 j v hj
      simpa using this
    · rw [List.getElem?_append_right (by omega), hl] at hj
      have := ih (j - 1) v hj
      rw [show off + 1 + (j - 1) = off + j by omega] at this
      exact this
/-- a row of entries of the call's own, above B -/
def OwS (w : World) (B : Nat) (v : Value) (l : List St1) : Prop := w.ownsRow B 9 1 v l.length (cellsS l) ∧ ∀ e ∈ l, e.ok
theorem OwS.esr {w : World} {B : Nat} {v : Value} {l : List St1} (h : OwS w B v l) : SlR w v l := by
  refine ⟨h.2, ?_⟩
  rcases h.1.2 with ⟨rfl, h0⟩ | ⟨g, cap, cur, rfl, hB, hb, hn, hc, hsz, ht⟩
  · refine ⟨none, 0, ?_, by omega, by unfold maxLen; omega, fun hp => absurd hp (by omega)⟩
    rw [h0]
  · refine ⟨_, cap, rfl, hn, hc, fun _ => ⟨g, 0, rfl, lt_of_block hb, range_each h.2 fun j u hu => ?_⟩⟩
    rw [Nat.zero_add, cell_of_row w g j _ 9 (0, 0) hb]
    rw [← ht, List.getElem?_take] at hu
    split at hu
    · simpa using hu
    · cases hu
theorem OwS.same {w w' : World} {B : Nat} {v : Value} {l : List St1} (h : OwS w B v l) (hs : ∀ g, v.ownBlock = some g → w'.heap[g]? = w.heap[g]?) : OwS w' B v l := by
  refine ⟨⟨h.1.1, ?_⟩, h.2⟩
  rcases h.1.2 with hn | ⟨g, cap, cur, rfl, hB, hb, hr⟩
  · exact .inl hn
  · exact .inr ⟨g, cap, cur, rfl, hB, (hs g rfl).trans hb, hr⟩
theorem OwS.lt {w : World} {B : Nat} {v : Value} {l : List St1} (h : OwS w B v l) {g : Nat} (hg : v.ownBlock = some g) : B ≤ g ∧ g < w.heap.size := by
  rcases h.1.2 with ⟨rfl, _⟩ | ⟨g', cap, cur, rfl, hB, hb, hr⟩
  · cases hg
  · cases hg; exact ⟨hB, lt_of_block hb⟩
theorem OwS.below {w w' : World} {B : Nat} {v : Value} {l : List St1} (h : OwS w B v l) (hb : Below w.heap.size w w') : OwS w' B v l := h.same fun g hg => hb.block g (h.lt hg).2
theorem OwS.mono {w : World} {B B' : Nat} {v : Value} {l : List St1} (h : OwS w B v l) (hB : B' ≤ B) : OwS w B' v l := by
  refine ⟨⟨h.1.1, ?_⟩, h.2⟩
  rcases h.1.2 with hn | ⟨g, cap, cur, rfl, h1, hr⟩
  · exact .inl hn
  · exact .inr ⟨g, cap, cur, rfl, Nat.le_trans hB h1, hr⟩
theorem OwS.nil (w : World) (B : Nat) : OwS w B (.slice none 0 0) [] := ⟨⟨by simp [cellsS], .inl ⟨rfl, rfl⟩⟩, by simp⟩
/-- append to a row of one's own -/
theorem run_app {w : World} {B : Nat} {v : Value} {l : List St1} (h : OwS w B v l) (ty : TypeId) {a : Option Addr} {m c : Nat} {q : List St1} (hq : SlR w (.slice a m c) q) (hn : l.length + q.length ≤ 1000000) (hB : B ≤ w.heap.size) :
    ∃ v' w', (Builtin.append_ #[47, 47] ty #[v, .slice a m c]).run Tryd.prog w = .ok v' w' ∧ OwS w' B v' (l ++ q) ∧ w.grownBy w' v.ownBlock ∧ (v'.ownBlock = v.ownBlock ∨ v'.ownBlock = some w.heap.size) := by
  obtain ⟨i, z, hi, hz, hs, hby, hzs⟩ := sized9
  obtain ⟨hqk, a', c', e, hle, hc, hr⟩ := hq
  cases e
  by_cases h0 : q.length = 0
  · obtain rfl := List.eq_nil_of_length_eq_zero h0
    obtain ⟨hk, av, cap, rfl, hl2, _⟩ := h.esr
    have := run_append_zero (P := Tryd.prog) w 47 ty 9 i Tryd.underlying47 hi av a l.length cap c hl2
    refine ⟨_, w, this, by rw [List.append_nil]; exact h, World.grownBy.refl _ _, .inl rfl⟩
  · obtain ⟨b, off, rfl, hb, he⟩ := hr (by omega)
    obtain ⟨v', w', hrun, h2, h3, h4, h5⟩ := run_append_own_at (P := Tryd.prog) w B 47 ty 9 i z 1 16 Tryd.underlying47 hi hz hs hby hzs (by omega) v l.length (cellsS l) h.1 ⟨b, off, none⟩ q.length c (cellsS q) (cellsS_len hqk) (fun j u hu => by rw [Addr.add_lit]; exact range_all hqk he j u hu) (cellsS_one q) (by unfold maxLen; omega) (Nat.le_trans (Nat.mul_le_mul_right _ hn) (by omega)) hB
    refine ⟨v', w', hrun, ⟨by rw [List.length_append, cellsS_app]; exact h2, fun e hm => (List.mem_append.1 hm).elim (h.2 e) (hqk e)⟩, h3, h5⟩
theorem wpList_app {ops : Array Oper} {rest : List Oper} {o : Oper} {a : Act} {Q : Exit → Act → World → Prop} (hgd : o.guard = none) (s x : Operand) (hop : o.op = .call { callee := .builtin .append, args := #[s, x], argTypes := #[47, 47] })
    {w : World} {B : Nat} {v : Value} {l : List St1} (h : OwS w B v l) {ad : Option Addr} {m c : Nat} {q : List St1} (hq : SlR w (.slice ad m c) q) (hn : l.length + q.length ≤ 1000000) (hB : B ≤ w.heap.size) (hsv : a.eval s = v) (hx : a.eval x = .slice ad m c)
    (hk : ∀ v' w', Hid (OwS w' B v' (l ++ q)) → Hid (w.grownBy w' v.ownBlock) → Hid (v'.ownBlock = v.ownBlock ∨ v'.ownBlock = some w.heap.size) → wpList Tryd.prog ops Q rest (a.put o.dst v') w') : wpList Tryd.prog ops Q (o :: rest) a w := by
  refine wpList_plain hgd fun K hK => ?_
  obtain ⟨v', w', hr, h2, h3, h4⟩ := run_app h o.type hq hn hB
  unfold Oper.wp execOp
  simp only [hop, resolve, invoke, builtin, Sem.run_bind, Sem.run_pure, Result.andThen_ok, List.map_toArray, List.map_cons, List.map_nil, hsv, hx, hr]
  exact hK _ _ (hk v' w' h2 h3 h4)
theorem run_bs0 (W : World) : (Instr.buildSlice 47 0 #[]).run Tryd.prog W = .ok (.slice (some ⟨W.heap.size, 0, none⟩) 0 0) (W.alloc (.cells #[] 9)) := by kernel_rfl
theorem own0 (w : World) : OwS (w.alloc (.cells #[] 9)) w.heap.size (.slice (some ⟨w.heap.size, 0, none⟩) 0 0) [] := by
  refine ⟨⟨by simp [cellsS], .inr ⟨w.heap.size, 0, #[], rfl, Nat.le_refl _, heap_alloc_new _ _, ?_⟩⟩, by simp⟩
  refine ⟨by simp, by unfold maxLen; omega, by simp, by simp [cellsS]⟩
theorem below_own {w w1 w2 : World} {g : Option Nat} (h : Below w.heap.size w w1) (k : w1.grownBy w2 g) (hg : ∀ j, g = some j → w.heap.size ≤ j) : Below w.heap.size w w2 := by
  obtain ⟨a1, a2, a3, a4, a5⟩ := k
  obtain ⟨b1, b2, b3, b4, b5⟩ := h
  exact ⟨a1.trans b1, a2.trans b2, a3.trans b3, Nat.le_trans b4 a4, fun k hk => (a5 k (Nat.lt_of_lt_of_le hk b4) (fun e => by have := hg k e.symm; omega)).trans (b5 k hk)⟩
theorem run_bs1 (s : BA) (W : World) : (Instr.buildSlice 47 1 #[(0, .string s)]).run Tryd.prog W = .ok (.slice (some ⟨W.heap.size, 0, none⟩) 1 1) (W.alloc (.cells #[.string s] 9)) := by kernel_rfl
theorem own1 (w : World) (e : St1) (he : e.ok) : OwS (w.alloc (.cells e.cells.toArray 9)) w.heap.size (.slice (some ⟨w.heap.size, 0, none⟩) 1 1) [e] := by
  refine ⟨⟨by simp [cellsS, St1.cells], .inr ⟨w.heap.size, 1, e.cells.toArray, rfl, Nat.le_refl _, heap_alloc_new _ _, ?_⟩⟩, by simpa using he⟩
  refine ⟨by simp, by unfold maxLen; omega, by simp [St1.cells], by simp [cellsS, St1.cells]⟩
theorem sl_of {w : World} {B : Nat} {v : Value} {l : List St1} (h : OwS w B v l) : ∃ a cap, v = .slice a l.length cap := by
  obtain ⟨_, a, c, h, _⟩ := h.esr
  exact ⟨a, c, h⟩
theorem wpList_bs {ops : Array Oper} {rest : List Oper} {o : Oper} {a : Act} {w : World} {Q : Exit → Act → World → Prop} (hgd : o.guard = none) (x : Operand) (hop : o.op = .buildSlice 47 1 #[(0, x)]) (s : BA) (hx : a.eval x = .string s)
    (hk : wpList Tryd.prog ops Q rest (a.put o.dst (.slice (some ⟨w.heap.size, 0, none⟩) 1 1)) (w.alloc (.cells #[.string s] 9))) : wpList Tryd.prog ops Q (o :: rest) a w := by
  refine wpList_plain hgd fun K hK => ?_
  have h := run_bs1 s w
  unfold Oper.wp execOp
  simp only [hop, Sem.run_bind, Sem.run_pure, Result.andThen_ok, List.map_toArray, List.map_cons, List.map_nil, hx, h]
  exact hK _ _ hk
#print axioms own1
end Go.Proofs.YtjeahlfmapacfaaDoor.Oct
