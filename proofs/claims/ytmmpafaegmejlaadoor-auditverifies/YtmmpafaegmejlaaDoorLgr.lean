/-
  Layer 19 (audit): rows of entries of the call's own; slices.Clone, fresh; a log in memory.
-/
import Derived.Test.YtmmpafaegmejlaaDoorVfy
import Derived.Maps.AppendAt
import Derived.Deep.DeepAppendWide
namespace Go.Proofs.YtmmpafaegmejlaaDoor.Oct
open Go.RowKit Sha
set_option linter.unusedSimpArgs false
set_option linter.unusedVariables false

theorem run_append_zero {P : Program} (w : World) (t ty e : TypeId) (i : TypeInfo) (ht : P.underlying t = some (.slice e)) (hi : P.info? e = some i) (a o : Option Addr) (n cap c : Nat) (hn : n ≤ cap) :
    (Builtin.append_ #[t, t] ty #[.slice a n cap, .slice o 0 c]).run P w = .ok (.slice a n cap) w := by
  cases o with
  | none =>
    cases a with
    | none => simp [Builtin.append_, run_underlying ht, sizeOf, typeInfo, hi, Builtin.lenOf, Builtin.firstCells, hn]
    | some a => simp [Builtin.append_, run_underlying ht, sizeOf, typeInfo, hi, Builtin.lenOf, Builtin.firstCells, hn, storeCells]
  | some o =>
    cases a with
    | none => simp [Builtin.append_, run_underlying ht, sizeOf, typeInfo, hi, Builtin.lenOf, Builtin.firstCells, hn, loadCells, loadCellsFrom]
    | some a => simp [Builtin.append_, run_underlying ht, sizeOf, typeInfo, hi, Builtin.lenOf, Builtin.firstCells, hn, loadCells, loadCellsFrom, storeCells]
theorem sized37 : ∃ i z, Tryd.prog.info? 37 = some i ∧ i.zero = some z ∧ i.size = 36 ∧ i.bytes = 80 ∧ z.cells.size = 36 := by
  have h : (Tryd.prog.info? 37).map (fun i => (i.size, i.bytes, i.zero.map (·.cells.size))) = some (36, 80, some 36) := by kernel_rfl
  obtain ⟨i, hi, he⟩ := Option.map_eq_some_iff.1 h
  simp only [Prod.mk.injEq] at he
  obtain ⟨z, hz, hzs⟩ := Option.map_eq_some_iff.1 he.2.2
  exact ⟨i, z, hi, hz, he.1, he.2.1, hzs⟩
theorem cellsE_len : ∀ {l : List En}, (∀ e ∈ l, e.ok) → (cellsE l).length = l.length * 36
  | [], _ => rfl
  | e :: l, h => by
    have := cellsE_len (l := l) (fun x hx => h x (by simp [hx]))
    have h2 := En.len (h e (by simp))
    show (e.cells ++ cellsE l).length = _
    rw [List.length_append, this, h2, List.length_cons]
    omega
theorem cellsE_one (l : List En) : ∀ v ∈ cellsE l, v.oneCell' = true := by
  intro v hv
  unfold cellsE at hv
  obtain ⟨e, _, hv⟩ := List.mem_flatMap.1 hv
  exact En.one e v hv
theorem cellsE_app (l r : List En) : cellsE (l ++ r) = cellsE l ++ cellsE r := by unfold cellsE; rw [List.flatMap_append]
theorem cellsE_get : ∀ {l : List En} {i : Nat} {e : En}, (∀ e ∈ l, e.ok) → l[i]? = some e → ∀ j v, e.cells[j]? = some v → (cellsE l)[i * 36 + j]? = some v
  | [], i, e, _, h => by simp at h
  | x :: l, 0, e, hok, h => by
    simp at h
    subst h
    intro j v hv
    show (x.cells ++ cellsE l)[0 * 36 + j]? = some v
    rw [Nat.zero_mul, Nat.zero_add, List.getElem?_append_left (List.getElem?_eq_some_iff.1 hv).1]
    exact hv
  | x :: l, i + 1, e, hok, h => by
    simp at h
    intro j v hv
    have ih := cellsE_get (fun y hy => hok y (by simp [hy])) h j v hv
    have hl := En.len (hok x (by simp))
    show (x.cells ++ cellsE l)[(i + 1) * 36 + j]? = some v
    rw [List.getElem?_append_right (by omega), hl, show (i + 1) * 36 + j - 36 = i * 36 + j by omega]
    exact ih
/-- cells of entries that lie one behind the other -/
theorem range_each {w : World} {b off : Nat} {l : List En} (hok : ∀ e ∈ l, e.ok) (h : w.rangeAt b off (cellsE l)) : ∀ i e, l[i]? = some e → w.rangeAt b (off + i * 36) e.cells := by
  intro i e he j v hv
  have := h (i * 36 + j) v (cellsE_get hok he j v hv)
  rw [← Nat.add_assoc] at this
  exact this
theorem range_all : ∀ {l : List En} {w : World} {b off : Nat}, (∀ e ∈ l, e.ok) → (∀ i e, l[i]? = some e → w.rangeAt b (off + i * 36) e.cells) → w.rangeAt b off (cellsE l)
  | [], w, b, off, _, _ => fun j v hj => by simp [cellsE] at hj
  | x :: l, w, b, off, hok, h => by
    have hl := En.len (hok x (by simp))
    have h0 := h 0 x rfl
    have ih := range_all (l := l) (w := w) (b := b) (off := off + 36) (fun y hy => hok y (by simp [hy])) (fun i e he => by
      have := h (i + 1) e (by simpa using he)
      rw [show off + (i + 1) * 36 = off + 36 + i * 36 by omega] at this
      exact this)
    intro j v hj
    change (x.cells ++ cellsE l)[j]? = some v at hj
    by_cases hlt : j < 36
    · rw [List.getElem?_append_left (by omega)] at hj
      have := h0 j v hj
      simpa using this
    · rw [List.getElem?_append_right (by omega), hl] at hj
      have := ih (j - 36) v hj
      rw [show off + 36 + (j - 36) = off + j by omega] at this
      exact this
/-- a row of entries of the call's own, above B -/
def OwE (w : World) (B : Nat) (v : Value) (l : List En) : Prop := w.ownsRow B 37 36 v l.length (cellsE l) ∧ ∀ e ∈ l, e.ok
theorem OwE.esr {w : World} {B : Nat} {v : Value} {l : List En} (h : OwE w B v l) : EsR w v l := by
  refine ⟨h.2, ?_⟩
  rcases h.1.2 with ⟨rfl, h0⟩ | ⟨g, cap, cur, rfl, hB, hb, hn, hc, hsz, ht⟩
  · refine ⟨none, 0, ?_, by omega, by unfold maxLen; omega, fun hp => absurd hp (by omega)⟩
    rw [h0]
  · refine ⟨_, cap, rfl, hn, hc, fun _ => ⟨g, 0, rfl, lt_of_block hb, range_each h.2 fun j u hu => ?_⟩⟩
    rw [Nat.zero_add, cell_of_row w g j _ 37 (0, 0) hb]
    rw [← ht, List.getElem?_take] at hu
    split at hu
    · simpa using hu
    · cases hu
theorem OwE.same {w w' : World} {B : Nat} {v : Value} {l : List En} (h : OwE w B v l) (hs : ∀ g, v.ownBlock = some g → w'.heap[g]? = w.heap[g]?) : OwE w' B v l := by
  refine ⟨⟨h.1.1, ?_⟩, h.2⟩
  rcases h.1.2 with hn | ⟨g, cap, cur, rfl, hB, hb, hr⟩
  · exact .inl hn
  · exact .inr ⟨g, cap, cur, rfl, hB, (hs g rfl).trans hb, hr⟩
theorem OwE.lt {w : World} {B : Nat} {v : Value} {l : List En} (h : OwE w B v l) {g : Nat} (hg : v.ownBlock = some g) : B ≤ g ∧ g < w.heap.size := by
  rcases h.1.2 with ⟨rfl, _⟩ | ⟨g', cap, cur, rfl, hB, hb, hr⟩
  · cases hg
  · cases hg; exact ⟨hB, lt_of_block hb⟩
theorem OwE.below {w w' : World} {B : Nat} {v : Value} {l : List En} (h : OwE w B v l) (hb : Below w.heap.size w w') : OwE w' B v l := h.same fun g hg => hb.block g (h.lt hg).2
theorem OwE.mono {w : World} {B B' : Nat} {v : Value} {l : List En} (h : OwE w B v l) (hB : B' ≤ B) : OwE w B' v l := by
  refine ⟨⟨h.1.1, ?_⟩, h.2⟩
  rcases h.1.2 with hn | ⟨g, cap, cur, rfl, h1, hr⟩
  · exact .inl hn
  · exact .inr ⟨g, cap, cur, rfl, Nat.le_trans hB h1, hr⟩
theorem OwE.nil (w : World) (B : Nat) : OwE w B (.slice none 0 0) [] := ⟨⟨by simp [cellsE], .inl ⟨rfl, rfl⟩⟩, by simp⟩
/-- append to a row of one's own -/
theorem run_app {w : World} {B : Nat} {v : Value} {l : List En} (h : OwE w B v l) (ty : TypeId) {a : Option Addr} {m c : Nat} {q : List En} (hq : EsR w (.slice a m c) q) (hn : l.length + q.length ≤ 1000000) (hB : B ≤ w.heap.size) :
    ∃ v' w', (Builtin.append_ #[27, 27] ty #[v, .slice a m c]).run Tryd.prog w = .ok v' w' ∧ OwE w' B v' (l ++ q) ∧ w.grownBy w' v.ownBlock ∧ (v'.ownBlock = v.ownBlock ∨ v'.ownBlock = some w.heap.size) := by
  obtain ⟨i, z, hi, hz, hs, hby, hzs⟩ := sized37
  obtain ⟨hqk, a', c', e, hle, hc, hr⟩ := hq
  cases e
  by_cases h0 : q.length = 0
  · obtain rfl := List.eq_nil_of_length_eq_zero h0
    obtain ⟨hk, av, cap, rfl, hl2, _⟩ := h.esr
    have := run_append_zero (P := Tryd.prog) w 27 ty 37 i elem27 hi av a l.length cap c hl2
    refine ⟨_, w, this, by rw [List.append_nil]; exact h, World.grownBy.refl _ _, .inl rfl⟩
  · obtain ⟨b, off, rfl, hb, he⟩ := hr (by omega)
    obtain ⟨v', w', hrun, h2, h3, h4, h5⟩ := run_append_own_at (P := Tryd.prog) w B 27 ty 37 i z 36 80 elem27 hi hz hs hby hzs (by omega) v l.length (cellsE l) h.1 ⟨b, off, none⟩ q.length c (cellsE q) (cellsE_len hqk) (fun j u hu => by rw [Addr.add_lit]; exact range_all hqk he j u hu) (cellsE_one q) (by unfold maxLen; omega) (Nat.le_trans (Nat.mul_le_mul_right _ hn) (by omega)) hB
    refine ⟨v', w', hrun, ⟨by rw [List.length_append, cellsE_app]; exact h2, fun e hm => (List.mem_append.1 hm).elim (h.2 e) (hqk e)⟩, h3, h5⟩
theorem wpList_app {ops : Array Oper} {rest : List Oper} {o : Oper} {a : Act} {Q : Exit → Act → World → Prop} (hgd : o.guard = none) (s x : Operand) (hop : o.op = .call { callee := .builtin .append, args := #[s, x], argTypes := #[27, 27] })
    {w : World} {B : Nat} {v : Value} {l : List En} (h : OwE w B v l) {ad : Option Addr} {m c : Nat} {q : List En} (hq : EsR w (.slice ad m c) q) (hn : l.length + q.length ≤ 1000000) (hB : B ≤ w.heap.size) (hsv : a.eval s = v) (hx : a.eval x = .slice ad m c)
    (hk : ∀ v' w', Hid (OwE w' B v' (l ++ q)) → Hid (w.grownBy w' v.ownBlock) → Hid (v'.ownBlock = v.ownBlock ∨ v'.ownBlock = some w.heap.size) → wpList Tryd.prog ops Q rest (a.put o.dst v') w') : wpList Tryd.prog ops Q (o :: rest) a w := by
  refine wpList_plain hgd fun K hK => ?_
  obtain ⟨v', w', hr, h2, h3, h4⟩ := run_app h o.type hq hn hB
  unfold Oper.wp execOp
  simp only [hop, resolve, invoke, builtin, Sem.run_bind, Sem.run_pure, Result.andThen_ok, List.map_toArray, List.map_cons, List.map_nil, hsv, hx, hr]
  exact hK _ _ (hk v' w' h2 h3 h4)
theorem run_bs0 (W : World) : (Instr.buildSlice 27 0 #[]).run Tryd.prog W = .ok (.slice (some ⟨W.heap.size, 0, none⟩) 0 0) (W.alloc (.cells #[] 37)) := by kernel_rfl
theorem own0 (w : World) : OwE (w.alloc (.cells #[] 37)) w.heap.size (.slice (some ⟨w.heap.size, 0, none⟩) 0 0) [] := by
  refine ⟨⟨by simp [cellsE], .inr ⟨w.heap.size, 0, #[], rfl, Nat.le_refl _, heap_alloc_new _ _, ?_⟩⟩, by simp⟩
  refine ⟨by simp, by unfold maxLen; omega, by simp, by simp [cellsE]⟩
theorem below_own {w w1 w2 : World} {g : Option Nat} (h : Below w.heap.size w w1) (k : w1.grownBy w2 g) (hg : ∀ j, g = some j → w.heap.size ≤ j) : Below w.heap.size w w2 := by
  obtain ⟨a1, a2, a3, a4, a5⟩ := k
  obtain ⟨b1, b2, b3, b4, b5⟩ := h
  exact ⟨a1.trans b1, a2.trans b2, a3.trans b3, Nat.le_trans b4 a4, fun k hk => (a5 k (Nat.lt_of_lt_of_le hk b4) (fun e => by have := hg k e.symm; omega)).trans (b5 k hk)⟩
theorem nil27 (n c n' c' : Nat) (W : World) : (binOp BinOp.eql 27 (.slice none n c) (.slice none n' c')).run Tryd.prog W = .ok (.bool true) W := by kernel_rfl
theorem some27 (ad : Addr) (n c : Nat) (W : World) : (binOp BinOp.eql 27 (.slice (some ad) n c) (.slice none 0 0)).run Tryd.prog W = .ok (.bool false) W := by kernel_rfl
set_option maxRecDepth 100000 in
theorem fresh_is {w : World} {v : Value} {l : List En} (h : EsR w v l) (hl : l.length ≤ 1000000) : Calls Tryd.prog 22 #[v] w fun e w' => ∃ v', e = .returned v' ∧ Hid (OwE w' w.heap.size v' l) ∧ Below w.heap.size w w' := by
  have HE : Hid (EsR w v l) := h
  obtain ⟨hok, a, cap, rfl, hle, hcap, hr⟩ := h
  have hbs := run_bs0
  obtain ⟨n, hn⟩ : ∃ n, l.length = n := ⟨_, rfl⟩
  have HN : Hid (l.length = n ∧ n ≤ 1000000) := ⟨hn, by omega⟩
  rw [hn] at HE ⊢
  clear hok hle hcap hr hn hl
  go_enter Tryd.func22, Tryd.ntmps22
  go_wp2_with (with_reducible change wpList _ _ _ ({ dst := some 5, op := _, type := _, pos := _, after := _, guard := _ } :: _) _ _; refine Hid.out ?_)
  show wpList _ _ _ _ _ _
  refine wpList_app rfl (.tmp 3) (.tmp 4) rfl (own0 w) (HE.out.below (below_al w _)) (by have := HN.out; simp; omega) (below_al w _).size rfl rfl ?_
  intro v1 W1 ho hg _
  have H1 : Hid (OwE W1 w.heap.size v1 l ∧ Below w.heap.size w W1) := ⟨by simpa using ho.out, below_own (below_al w _) hg.out (fun j hj => by cases hj; exact Nat.le_refl _)⟩
  clear ho hg
  go_wp2
  go_ret
  exact ⟨_, rfl, H1.out.1, H1.out.2⟩
#print axioms fresh_is
set_option maxRecDepth 100000 in
theorem clone_is {w : World} {v : Value} {l : List En} (h : EsR w v l) (hl : l.length ≤ 1000000) : Calls Tryd.prog 26 #[v] w fun e w' => ∃ v', e = .returned v' ∧ Hid (OwE w' w.heap.size v' l) ∧ Below w.heap.size w w' := by
  have HE : Hid (EsR w v l) := h
  obtain ⟨hok, a, cap, rfl, hle, hcap, hr⟩ := h
  have hbs := run_bs0
  obtain ⟨n, hn⟩ : ∃ n, l.length = n := ⟨_, rfl⟩
  have HN : Hid (l.length = n ∧ n ≤ 1000000) := ⟨hn, by omega⟩
  rw [hn] at HE ⊢
  cases a with
  | none =>
    have hl0 : l = [] := by
      cases hc : l.length with
      | zero => exact List.eq_nil_of_length_eq_zero hc
      | succ k => obtain ⟨b, off, e, _⟩ := hr (by omega); cases e
    have hq := nil27 n cap 0 0
    have HF : Hid (OwE w w.heap.size (.slice none 0 0) l) := by rw [hl0]; exact OwE.nil _ _
    clear hok hle hcap hr hn hl hl0
    go_enter Tryd.func26, Tryd.ntmps26
    go_wp2
    go_ret
    exact ⟨_, rfl, HF.out, Below.refl _ _⟩
  | some ad =>
    have hq := some27 ad n cap
    clear hok hle hcap hr hn hl
    go_enter Tryd.func26, Tryd.ntmps26
    go_wp2_with (with_reducible change wpList _ _ _ ({ dst := some 7, op := _, type := _, pos := _, after := _, guard := _ } :: _) _ _; refine Hid.out ?_)
    show wpList _ _ _ _ _ _
    refine wpList_app rfl (.tmp 5) (.tmp 6) rfl (own0 w) (HE.out.below (below_al w _)) (by have := HN.out; simp; omega) (below_al w _).size rfl rfl ?_
    intro v1 W1 ho hg _
    have H1 : Hid (OwE W1 w.heap.size v1 l ∧ Below w.heap.size w W1) := ⟨by simpa using ho.out, below_own (below_al w _) hg.out (fun j hj => by cases hj; exact Nat.le_refl _)⟩
    clear ho hg
    go_wp2
    go_ret
    exact ⟨_, rfl, H1.out.1, H1.out.2⟩
#print axioms clone_is
end Go.Proofs.YtmmpafaegmejlaaDoor.Oct
