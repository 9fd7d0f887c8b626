/-
  Layer 16 (token): rows of the reference's tokens; Decimal and plain of the reference.
  Layer 16 (token): plain, At and Check of the reference.
  Layer 16 (token): Issue of the reference.
-/
import Derived.Test.YtjeahlfmapacfaaDoorPkC
import Derived.Test.YtjeahlfmapacfaaDoorRefTag
import Derived.Test.YtjeahlfmapacfaaDoorRefHex
import Derived.Maps.AppendAt
import Derived.Deep.DeepAppendWide
import Derived.Deep.MidRow
/- Layer 16 (token): rows of the reference's tokens; Decimal and plain of the reference. -/
namespace Go.Proofs.YtjeahlfmapacfaaDoor.Oct
open Go.RowKit Sha
set_option linter.unusedSimpArgs false
set_option linter.unusedVariables false

/-- a token of the reference -/
structure Tk where
  x : BA
  u : BA
  t : Nat
  bk : Bool
def Tk.cells (e : Tk) : List Value := [.string e.x, .string e.u, iv (e.t : Int), .bool e.bk]
def Tk.ok (e : Tk) : Prop := e.x.size ≤ 20000
theorem Tk.len {e : Tk} (_ : e.ok) : e.cells.length = 4 := rfl
theorem Tk.one (e : Tk) : ∀ v ∈ e.cells, v.oneCell' = true := by
  intro v hv
  simp only [Tk.cells, List.mem_cons, List.not_mem_nil, or_false] at hv
  rcases hv with rfl | rfl | rfl | rfl <;> rfl
def cellsK (l : List Tk) : List Value := l.flatMap Tk.cells
/-- entries that can be read -/
def TkR (w : World) (v : Value) (l : List Tk) : Prop :=
  (∀ e ∈ l, e.ok) ∧ ∃ a cap, v = .slice a l.length cap ∧ l.length ≤ cap ∧ cap ≤ maxLen ∧ (0 < l.length → ∃ b off, a = some ⟨b, off, none⟩ ∧ b < w.heap.size ∧ ∀ i e, l[i]? = some e → w.rangeAt b (off + i * 4) e.cells)
theorem TkR.below {w w' : World} {v : Value} {l : List Tk} (h : TkR w v l) (hb : Below w.heap.size w w') : TkR w' v l := by
  obtain ⟨h1, a, cap, h2, h3, h4, h5⟩ := h
  refine ⟨h1, a, cap, h2, h3, h4, fun hp => ?_⟩
  obtain ⟨b, off, e1, e2, e3⟩ := h5 hp
  exact ⟨b, off, e1, Nat.lt_of_lt_of_le e2 hb.size, fun i e he => rangeAt_same (e3 i e he) (hb.block b e2)⟩
theorem TkR.nil (w : World) : TkR w (.slice none 0 0) [] := ⟨by simp, none, 0, rfl, Nat.le_refl _, by unfold maxLen; omega, fun h => absurd h (by simp)⟩
theorem run_append_zero {P : Program} (w : World) (t ty e : TypeId) (i : TypeInfo) (ht : P.underlying t = some (.slice e)) (hi : P.info? e = some i) (a o : Option Addr) (n cap c : Nat) (hn : n ≤ cap) :
    (Builtin.append_ #[t, t] ty #[.slice a n cap, .slice o 0 c]).run P w = .ok (.slice a n cap) w := by
  cases o with
  | none =>
    cases a with
    | none => simp [Builtin.append_, run_underlying ht, sizeOf, typeInfo, hi, Builtin.lenOf, Builtin.firstCells, hn]
    | some a => simp [Builtin.append_, run_underlying ht, sizeOf, typeInfo, hi, Builtin.lenOf, Builtin.firstCells, hn, storeCells]
  | some o =>
    cases a with
    | none => simp [Builtin.append_, run_underlying ht, sizeOf, typeInfo, hi, Builtin.lenOf, Builtin.firstCells, hn, loadCells, loadCellsFrom]
    | some a => simp [Builtin.append_, run_underlying ht, sizeOf, typeInfo, hi, Builtin.lenOf, Builtin.firstCells, hn, loadCells, loadCellsFrom, storeCells]
theorem sized71 : ∃ i z, Tryd.prog.info? 71 = some i ∧ i.zero = some z ∧ i.size = 4 ∧ i.bytes = 48 ∧ z.cells.size = 4 := by
  have h : (Tryd.prog.info? 71).map (fun i => (i.size, i.bytes, i.zero.map (·.cells.size))) = some (4, 48, some 4) := by kernel_rfl
  obtain ⟨i, hi, he⟩ := Option.map_eq_some_iff.1 h
  simp only [Prod.mk.injEq] at he
  obtain ⟨z, hz, hzs⟩ := Option.map_eq_some_iff.1 he.2.2
  exact ⟨i, z, hi, hz, he.1, he.2.1, hzs⟩
theorem cellsK_len : ∀ {l : List Tk}, (∀ e ∈ l, e.ok) → (cellsK l).length = l.length * 4
  | [], _ => rfl
  | e :: l, h => by
    have := cellsK_len (l := l) (fun x hx => h x (by simp [hx]))
    have h2 := Tk.len (h e (by simp))
    show (e.cells ++ cellsK l).length = _
    rw [List.length_append, this, h2, List.length_cons]
    omega
theorem cellsK_one (l : List Tk) : ∀ v ∈ cellsK l, v.oneCell' = true := by
  intro v hv
  unfold cellsK at hv
  obtain ⟨e, _, hv⟩ := List.mem_flatMap.1 hv
  exact Tk.one e v hv
theorem cellsK_app (l r : List Tk) : cellsK (l ++ r) = cellsK l ++ cellsK r := by unfold cellsK; rw [List.flatMap_append]
theorem cellsK_get : ∀ {l : List Tk} {i : Nat} {e : Tk}, (∀ e ∈ l, e.ok) → l[i]? = some e → ∀ j v, e.cells[j]? = some v → (cellsK l)[i * 4 + j]? = some v
  | [], i, e, _, h => by simp at h
  | x :: l, 0, e, hok, h => by
    simp at h
    subst h
    intro j v hv
    show (x.cells ++ cellsK l)[0 * 4 + j]? = some v
    rw [Nat.zero_mul, Nat.zero_add, List.getElem?_append_left (List.getElem?_eq_some_iff.1 hv).1]
    exact hv
  | x :: l, i + 1, e, hok, h => by
    simp at h
    intro j v hv
    have ih := cellsK_get (fun y hy => hok y (by simp [hy])) h j v hv
    have hl := Tk.len (hok x (by simp))
    show (x.cells ++ cellsK l)[(i + 1) * 4 + j]? = some v
    rw [List.getElem?_append_right (by omega), hl, show (i + 1) * 4 + j - 4 = i * 4 + j by omega]
    exact ih
/-- cells of entries that lie one behind the other -/
theorem range_each {w : World} {b off : Nat} {l : List Tk} (hok : ∀ e ∈ l, e.ok) (h : w.rangeAt b off (cellsK l)) : ∀ i e, l[i]? = some e → w.rangeAt b (off + i * 4) e.cells := by
  intro i e he j v hv
  have := h (i * 4 + j) v (cellsK_get hok he j v hv)
  rw [← Nat.add_assoc] at this
  exact this
theorem range_all : ∀ {l : List Tk} {w : World} {b off : Nat}, (∀ e ∈ l, e.ok) → (∀ i e, l[i]? = some e → w.rangeAt b (off + i * 4) e.cells) → w.rangeAt b off (cellsK l)
  | [], w, b, off, _, _ => fun j v hj => by simp [cellsK] at hj
  | x :: l, w, b, off, hok, h => by
    have hl := Tk.len (hok x (by simp))
    have h0 := h 0 x rfl
    have ih := range_all (l := l) (w := w) (b := b) (off := off + 4) (fun y hy => hok y (by simp [hy])) (fun i e he => by
      have := h (i + 1) e (by simpa using he)
      rw [show off + (i + 1) * 4 = off + 4 + i * 4 by omega] at this
      exact this)
    intro j v hj
    change (x.cells ++ cellsK l)[j]? = some v at hj
    by_cases hlt : j < 4
    · rw [List.getElem?_append_left (by omega)] at hj
      have := h0 j v hj
      simpa using this
    · rw [List.getElem?_append_right (by omega), hl] at hj
      have := ih (j - 4) v hj
      rw [show off + 4 + (j - 4) = off + j by omega] at this
      exact this
/-- a row of entries of the call's own, above B -/
def OwK (w : World) (B : Nat) (v : Value) (l : List Tk) : Prop := w.ownsRow B 71 4 v l.length (cellsK l) ∧ ∀ e ∈ l, e.ok
theorem OwK.esr {w : World} {B : Nat} {v : Value} {l : List Tk} (h : OwK w B v l) : TkR w v l := by
  refine ⟨h.2, ?_⟩
  rcases h.1.2 with ⟨rfl, h0⟩ | ⟨g, cap, cur, rfl, hB, hb, hn, hc, hsz, ht⟩
  · refine ⟨none, 0, ?_, by omega, by unfold maxLen; omega, fun hp => absurd hp (by omega)⟩
    rw [h0]
  · refine ⟨_, cap, rfl, hn, hc, fun _ => ⟨g, 0, rfl, lt_of_block hb, range_each h.2 fun j u hu => ?_⟩⟩
    rw [Nat.zero_add, cell_of_row w g j _ 71 (0, 0) hb]
    rw [← ht, List.getElem?_take] at hu
    split at hu
    · simpa using hu
    · cases hu
theorem OwK.same {w w' : World} {B : Nat} {v : Value} {l : List Tk} (h : OwK w B v l) (hs : ∀ g, v.ownBlock = some g → w'.heap[g]? = w.heap[g]?) : OwK w' B v l := by
  refine ⟨⟨h.1.1, ?_⟩, h.2⟩
  rcases h.1.2 with hn | ⟨g, cap, cur, rfl, hB, hb, hr⟩
  · exact .inl hn
  · exact .inr ⟨g, cap, cur, rfl, hB, (hs g rfl).trans hb, hr⟩
theorem OwK.lt {w : World} {B : Nat} {v : Value} {l : List Tk} (h : OwK w B v l) {g : Nat} (hg : v.ownBlock = some g) : B ≤ g ∧ g < w.heap.size := by
  rcases h.1.2 with ⟨rfl, _⟩ | ⟨g', cap, cur, rfl, hB, hb, hr⟩
  · cases hg
  · cases hg; exact ⟨hB, lt_of_block hb⟩
theorem OwK.below {w w' : World} {B : Nat} {v : Value} {l : List Tk} (h : OwK w B v l) (hb : Below w.heap.size w w') : OwK w' B v l := h.same fun g hg => hb.block g (h.lt hg).2
theorem OwK.mono {w : World} {B B' : Nat} {v : Value} {l : List Tk} (h : OwK w B v l) (hB : B' ≤ B) : OwK w B' v l := by
  refine ⟨⟨h.1.1, ?_⟩, h.2⟩
  rcases h.1.2 with hn | ⟨g, cap, cur, rfl, h1, hr⟩
  · exact .inl hn
  · exact .inr ⟨g, cap, cur, rfl, Nat.le_trans hB h1, hr⟩
theorem OwK.nil (w : World) (B : Nat) : OwK w B (.slice none 0 0) [] := ⟨⟨by simp [cellsK], .inl ⟨rfl, rfl⟩⟩, by simp⟩
/-- append to a row of one's own -/
theorem run_app {w : World} {B : Nat} {v : Value} {l : List Tk} (h : OwK w B v l) (ty : TypeId) {a : Option Addr} {m c : Nat} {q : List Tk} (hq : TkR w (.slice a m c) q) (hn : l.length + q.length ≤ 1000000) (hB : B ≤ w.heap.size) :
    ∃ v' w', (Builtin.append_ #[28, 28] ty #[v, .slice a m c]).run Tryd.prog w = .ok v' w' ∧ OwK w' B v' (l ++ q) ∧ w.grownBy w' v.ownBlock ∧ (v'.ownBlock = v.ownBlock ∨ v'.ownBlock = some w.heap.size) := by
  obtain ⟨i, z, hi, hz, hs, hby, hzs⟩ := sized71
  obtain ⟨hqk, a', c', e, hle, hc, hr⟩ := hq
  cases e
  by_cases h0 : q.length = 0
  · obtain rfl := List.eq_nil_of_length_eq_zero h0
    obtain ⟨hk, av, cap, rfl, hl2, _⟩ := h.esr
    have := run_append_zero (P := Tryd.prog) w 28 ty 71 i Tryd.underlying28 hi av a l.length cap c hl2
    refine ⟨_, w, this, by rw [List.append_nil]; exact h, World.grownBy.refl _ _, .inl rfl⟩
  · obtain ⟨b, off, rfl, hb, he⟩ := hr (by omega)
    obtain ⟨v', w', hrun, h2, h3, h4, h5⟩ := run_append_own_at (P := Tryd.prog) w B 28 ty 71 i z 4 48 Tryd.underlying28 hi hz hs hby hzs (by omega) v l.length (cellsK l) h.1 ⟨b, off, none⟩ q.length c (cellsK q) (cellsK_len hqk) (fun j u hu => by rw [Addr.add_lit]; exact range_all hqk he j u hu) (cellsK_one q) (by unfold maxLen; omega) (Nat.le_trans (Nat.mul_le_mul_right _ hn) (by omega)) hB
    refine ⟨v', w', hrun, ⟨by rw [List.length_append, cellsK_app]; exact h2, fun e hm => (List.mem_append.1 hm).elim (h.2 e) (hqk e)⟩, h3, h5⟩
theorem wpList_app {ops : Array Oper} {rest : List Oper} {o : Oper} {a : Act} {Q : Exit → Act → World → Prop} (hgd : o.guard = none) (s x : Operand) (hop : o.op = .call { callee := .builtin .append, args := #[s, x], argTypes := #[28, 28] })
    {w : World} {B : Nat} {v : Value} {l : List Tk} (h : OwK w B v l) {ad : Option Addr} {m c : Nat} {q : List Tk} (hq : TkR w (.slice ad m c) q) (hn : l.length + q.length ≤ 1000000) (hB : B ≤ w.heap.size) (hsv : a.eval s = v) (hx : a.eval x = .slice ad m c)
    (hk : ∀ v' w', Hid (OwK w' B v' (l ++ q)) → Hid (w.grownBy w' v.ownBlock) → Hid (v'.ownBlock = v.ownBlock ∨ v'.ownBlock = some w.heap.size) → wpList Tryd.prog ops Q rest (a.put o.dst v') w') : wpList Tryd.prog ops Q (o :: rest) a w := by
  refine wpList_plain hgd fun K hK => ?_
  obtain ⟨v', w', hr, h2, h3, h4⟩ := run_app h o.type hq hn hB
  unfold Oper.wp execOp
  simp only [hop, resolve, invoke, builtin, Sem.run_bind, Sem.run_pure, Result.andThen_ok, List.map_toArray, List.map_cons, List.map_nil, hsv, hx, hr]
  exact hK _ _ (hk v' w' h2 h3 h4)
theorem run_bs0 (W : World) : (Instr.buildSlice 28 0 #[]).run Tryd.prog W = .ok (.slice (some ⟨W.heap.size, 0, none⟩) 0 0) (W.alloc (.cells #[] 71)) := by kernel_rfl
theorem own0 (w : World) : OwK (w.alloc (.cells #[] 71)) w.heap.size (.slice (some ⟨w.heap.size, 0, none⟩) 0 0) [] := by
  refine ⟨⟨by simp [cellsK], .inr ⟨w.heap.size, 0, #[], rfl, Nat.le_refl _, heap_alloc_new _ _, ?_⟩⟩, by simp⟩
  refine ⟨by simp, by unfold maxLen; omega, by simp, by simp [cellsK]⟩
theorem below_own {w w1 w2 : World} {g : Option Nat} (h : Below w.heap.size w w1) (k : w1.grownBy w2 g) (hg : ∀ j, g = some j → w.heap.size ≤ j) : Below w.heap.size w w2 := by
  obtain ⟨a1, a2, a3, a4, a5⟩ := k
  obtain ⟨b1, b2, b3, b4, b5⟩ := h
  exact ⟨a1.trans b1, a2.trans b2, a3.trans b3, Nat.le_trans b4 a4, fun k hk => (a5 k (Nat.lt_of_lt_of_le hk b4) (fun e => by have := hg k e.symm; omega)).trans (b5 k hk)⟩
theorem run_bs1 (e : Tk) (W : World) : (Instr.buildSlice 28 1 #[(0, .agg e.cells.toArray)]).run Tryd.prog W = .ok (.slice (some ⟨W.heap.size, 0, none⟩) 1 1) (W.alloc (.cells e.cells.toArray 71)) := by kernel_rfl
theorem own1 (w : World) (e : Tk) (he : e.ok) : OwK (w.alloc (.cells e.cells.toArray 71)) w.heap.size (.slice (some ⟨w.heap.size, 0, none⟩) 1 1) [e] := by
  refine ⟨⟨by simp [cellsK, Tk.cells], .inr ⟨w.heap.size, 1, e.cells.toArray, rfl, Nat.le_refl _, heap_alloc_new _ _, ?_⟩⟩, by simpa using he⟩
  refine ⟨by simp, by unfold maxLen; omega, by simp [Tk.cells], by simp [cellsK, Tk.cells]⟩
theorem sl_of {w : World} {B : Nat} {v : Value} {l : List Tk} (h : OwK w B v l) : ∃ a cap, v = .slice a l.length cap := by
  obtain ⟨_, a, c, h, _⟩ := h.esr
  exact ⟨a, c, h⟩
theorem wpList_bs {ops : Array Oper} {rest : List Oper} {o : Oper} {a : Act} {w : World} {Q : Exit → Act → World → Prop} (hgd : o.guard = none) (x : Operand) (hop : o.op = .buildSlice 28 1 #[(0, x)]) (e : Tk) (hx : a.eval x = .agg e.cells.toArray)
    (hk : wpList Tryd.prog ops Q rest (a.put o.dst (.slice (some ⟨w.heap.size, 0, none⟩) 1 1)) (w.alloc (.cells e.cells.toArray 71))) : wpList Tryd.prog ops Q (o :: rest) a w := by
  refine wpList_plain hgd fun K hK => ?_
  have h := run_bs1 e w
  unfold Oper.wp execOp
  simp only [hop, Sem.run_bind, Sem.run_pure, Result.andThen_ok, List.map_toArray, List.map_cons, List.map_nil, hx, h]
  exact hK _ _ hk
theorem wpList_bs0 {ops : Array Oper} {rest : List Oper} {o : Oper} {a : Act} {w : World} {Q : Exit → Act → World → Prop} (hgd : o.guard = none) (hop : o.op = .buildSlice 28 0 #[])
    (hk : wpList Tryd.prog ops Q rest (a.put o.dst (.slice (some ⟨w.heap.size, 0, none⟩) 0 0)) (w.alloc (.cells #[] 71))) : wpList Tryd.prog ops Q (o :: rest) a w := by
  refine wpList_plain hgd fun K hK => ?_
  have h := run_bs0 w
  unfold Oper.wp execOp
  simp only [hop, Sem.run_bind, Sem.run_pure, Result.andThen_ok, List.map_toArray, List.map_cons, List.map_nil, h]
  exact hK _ _ hk
/-- the reference's tokens of what a book gave out -/
def tks (S : List UInt8) : Nat → List Gr → List Tk
  | _, [] => []
  | k, g :: r => ⟨⟨(keyG S k g).toArray⟩, g.u, g.t, g.bk⟩ :: tks S (k + 1) r
theorem tks_len (S : List UInt8) : ∀ (k : Nat) (G : List Gr), (tks S k G).length = G.length
  | _, [] => rfl
  | k, g :: r => by unfold tks; rw [List.length_cons, tks_len S (k + 1) r, List.length_cons]
theorem tks_app (S : List UInt8) : ∀ (k : Nat) (G H : List Gr), tks S k (G ++ H) = tks S k G ++ tks S (k + G.length) H
  | _, [], H => rfl
  | k, g :: r, H => by
    show _ :: tks S (k + 1) (r ++ H) = _ :: (tks S (k + 1) r ++ _)
    rw [tks_app S (k + 1) r H, List.length_cons, show k + 1 + r.length = k + (r.length + 1) by omega]
theorem tks_at {S : List UInt8} : ∀ (k : Nat) (G : List Gr) (i : Nat) (e : Tk), (tks S k G)[i]? = some e → ∃ g, G[i]? = some g ∧ e = ⟨⟨(keyG S (k + i) g).toArray⟩, g.u, g.t, g.bk⟩
  | k, [], i, e, h => by simp [tks] at h
  | k, g :: r, 0, e, h => by simp [tks] at h; exact ⟨g, rfl, h.symm⟩
  | k, g :: r, i + 1, e, h => by
    simp only [tks, List.getElem?_cons_succ] at h
    obtain ⟨x, h1, h2⟩ := tks_at (k + 1) r i e h
    exact ⟨x, by simpa using h1, by rw [h2, show k + 1 + i = k + (i + 1) by omega]⟩
set_option maxRecDepth 100000 in
set_option maxHeartbeats 1000000 in
theorem dec_is (m : Nat) : ∀ (n : Nat), n ≤ m → n ≤ 1099511627776 → ∀ w : World, Calls Tryd.prog 25 #[iv (n : Int)] w fun e w' => e = .returned (.string ⟨(Lib.decDigits n).toArray⟩) ∧ w = w' := by
  induction m with
  | zero =>
    intro n hn _ w
    obtain rfl : n = 0 := by omega
    go_enter Tryd.func25, Tryd.ntmps25
    go_wp2
    go_ret
    exact ⟨by rw [dec_small (by omega)]; rfl, rfl⟩
  | succ m ih =>
    intro n hn hb w
    by_cases h : n < 10
    · have hc : n = 0 ∨ n = 1 ∨ n = 2 ∨ n = 3 ∨ n = 4 ∨ n = 5 ∨ n = 6 ∨ n = 7 ∨ n = 8 ∨ n = 9 := by omega
      clear h hn hb ih
      rcases hc with rfl | rfl | rfl | rfl | rfl | rfl | rfl | rfl | rfl | rfl <;> (
        go_enter Tryd.func25, Tryd.ntmps25
        go_wp2
        go_ret
        exact ⟨by rw [dec_small (by omega)]; rfl, rfl⟩)
    · have H1 := ih (n / 10) (by omega) (by omega) w
      have H2 := ih (n % 10) (by omega) (by omega) w
      have hq : (n : Int).tdiv 10 = ((n / 10 : Nat) : Int) := by rw [Int.tdiv_eq_ediv_of_nonneg (by omega)]; omega
      have hr : (n : Int).tmod 10 = ((n % 10 : Nat) : Int) := by rw [Int.tmod_eq_emod_of_nonneg (by omega)]; omega
      have hr2 : (n : Int) % 10 = ((n % 10 : Nat) : Int) := by omega
      have hq2 : (n : Int) / 10 = ((n / 10 : Nat) : Int) := by omega
      have HD : Hid (Lib.decDigits n = Lib.decDigits (n / 10) ++ Lib.decDigits (n % 10)) := dec_big h
      obtain ⟨a, ha⟩ : ∃ a, n / 10 = a := ⟨_, rfl⟩
      obtain ⟨b, hb2⟩ : ∃ b, n % 10 = b := ⟨_, rfl⟩
      obtain ⟨D, hD⟩ : ∃ D, Lib.decDigits n = D := ⟨_, rfl⟩
      rw [ha] at H1 hq hq2 HD
      rw [hb2] at H2 hr hr2 HD
      rw [hD] at HD ⊢
      obtain ⟨s1, hs1⟩ : ∃ s : BA, s = ⟨(Lib.decDigits a).toArray⟩ := ⟨_, rfl⟩
      obtain ⟨s2, hs2⟩ : ∃ s : BA, s = ⟨(Lib.decDigits b).toArray⟩ := ⟨_, rfl⟩
      have HS : Hid (s1 ++ s2 = ⟨D.toArray⟩) := by
        refine ba_ext ?_
        rw [HD.out, hs1, hs2]
        simp
      have z1 : s1.size ≤ 13 := by rw [hs1]; show (Lib.decDigits a).toArray.size ≤ _; rw [List.size_toArray]; exact dec_len _ (by omega)
      have z2 : s2.size ≤ 13 := by rw [hs2]; show (Lib.decDigits b).toArray.size ≤ _; rw [List.size_toArray]; exact dec_len _ (by omega)
      rw [← hs1] at H1
      rw [← hs2] at H2
      have q1 : (10 : Int) ≤ (n : Int) := by omega
      have q2 : (n : Int) ≤ 1099511627776 := by omega
      clear h hn hb ih ha hb2 hD hs1 hs2 HD
      go_enter Tryd.func25, Tryd.ntmps25
      go_wp2_with fail
      refine H1.mono ?_
      rintro e W ⟨rfl, rfl⟩
      clear H1
      go_wp2_with fail
      with_reducible refine H2.mono ?_
      rintro e W ⟨rfl, rfl⟩
      clear H2
      go_wp2
      go_ret
      exact ⟨by rw [← HS.out]; rfl, rfl⟩
end Go.Proofs.YtjeahlfmapacfaaDoor.Oct

/- Layer 16 (token): plain, At and Check of the reference. -/
namespace Go.Proofs.YtjeahlfmapacfaaDoor.Oct
open Go.RowKit Sha
set_option linter.unusedSimpArgs false
set_option linter.unusedVariables false

set_option maxRecDepth 100000 in
set_option maxHeartbeats 1000000 in
theorem rplain_is (s : BA) (hs : s.size ≤ 20000000) (w : World) (B : Bool) (hB : decide (s.data.toList ≠ [] ∧ (46 : UInt8) ∉ s.data.toList) = B) : Calls Tryd.prog 24 #[.string s] w fun e w' => e = .returned (.bool B) ∧ w = w' := by
  obtain ⟨n, hn⟩ : ∃ n, s.size = n := ⟨_, rfl⟩
  have qn : (s.size : Int) = (n : Int) := by omega
  have qn2 : (n : Int) ≤ 20000000 := by omega
  obtain ⟨L, hL⟩ : ∃ L, s.data.toList = L := ⟨_, rfl⟩
  have HL : Hid (s.data.toList = L ∧ L.length = n) := ⟨hL, by rw [← hL, ← hn]; rfl⟩
  rw [hL] at hB
  have HB : Hid (decide (L ≠ [] ∧ (46 : UInt8) ∉ L) = B) := hB
  clear hs hL hn hB
  go_enter Tryd.func24, Tryd.ntmps24
  go_wp2_with fail
  go_loopw [3] (fun u wr => ∃ i : Nat, u = iv (i : Int) ∧ (i : Int) ≤ (n : Int) ∧ Hid ((46 : UInt8) ∉ L.take i ∧ w = wr)) (fun u _ => n - (intOf u).toNat)
  case atStart => exact ⟨0, rfl, by omega, by simp, rfl⟩
  case round =>
    obtain ⟨i, rfl, q1, HI⟩ := hrel
    obtain ⟨hI, hw⟩ := HI.out
    subst hw
    clear HI
    by_cases hi : i = n
    · subst hi
      rw [List.take_of_length_le (by rw [HL.out.2]; exact Nat.le_refl _)] at hI
      by_cases hL0 : L = []
      · have HF : Hid (B = false) := by show B = false; rw [← HB.out, hL0]; simp
        have e1 : s.toList.isEmpty = true := by rw [ByteArray.toList_eq, HL.out.1, hL0]; rfl
        obtain rfl := HF.out
        clear hI HF hL0
        go_wp2
        go_ret
        exact ⟨rfl, rfl⟩
      · have HF : Hid (B = true) := by show B = true; rw [← HB.out]; simpa using ⟨hL0, hI⟩
        have e1 : s.toList.isEmpty = false := by rw [ByteArray.toList_eq, HL.out.1]; cases hh : L with | nil => exact absurd hh hL0 | cons _ _ => rfl
        obtain rfl := HF.out
        clear hI HF hL0
        go_wp2
        go_ret
        exact ⟨rfl, rfl⟩
    · have q2 : (i : Int) < (n : Int) := by omega
      obtain ⟨x, hx⟩ : ∃ x, L[i]? = some x := ⟨_, List.getElem?_eq_getElem (by rw [HL.out.2]; omega)⟩
      have HX : Hid (s.data.toList[i]? = some x) := by rw [HL.out.1]; exact hx
      by_cases hxc : x = 46
      · subst hxc
        have HF : Hid (B = false) := by
          show B = false
          rw [← HB.out]
          have := List.mem_of_getElem? hx
          simp [this]
        obtain rfl := HF.out
        clear hx hI hi HF
        go_wp2_with (with_reducible change wpList _ _ _ ({ dst := some 12, op := _, type := _, pos := _, after := _, guard := _ } :: _) _ _; refine Hid.out ?_)
        show wpList _ _ _ _ _ _
        refine wpList_idx rfl (.tmp 10) (.tmp 11) rfl s i 46 rfl rfl HX.out ?_
        go_wp2
        go_ret
        exact ⟨rfl, rfl⟩
      · have hne : ((x.toNat : Int) == 46) = false := by rw [beq_eq_false_iff_ne]; exact fun h => hxc (UInt8.toNat_inj.1 (by show x.toNat = 46; omega))
        have HF : Hid ((46 : UInt8) ∉ L.take (i + 1) ∧ i < n) := ⟨by
          rw [List.take_add_one, hx]
          simp only [Option.toList_some, List.mem_append, List.mem_singleton, not_or]
          exact ⟨hI, fun h => hxc h.symm⟩, by omega⟩
        clear hx hI hi hxc
        go_wp2_with (with_reducible change wpList _ _ _ ({ dst := some 12, op := _, type := _, pos := _, after := _, guard := _ } :: _) _ _; refine Hid.out ?_)
        show wpList _ _ _ _ _ _
        refine wpList_idx rfl (.tmp 10) (.tmp 11) rfl s i x rfl rfl HX.out ?_
        go_wp2
        go_roundw
        case rel => exact ⟨i + 1, by simp, by have := HF.out.2; omega, HF.out.1, by first | exact rfl | exact trivial⟩
        case measure => have := HF.out.2; simp only [intOf]; omega
/-- the reference's book, as a value -/
structure RB (w : World) (S : List UInt8) (G : List Gr) (sec : BA) (a : Option Addr) (n c : Nat) : Prop where
  sec : sec.data.toList = S
  row : TkR w (.slice a n c) (tks S 0 G)
  len : n = G.length
theorem RB.below {w w' : World} {S : List UInt8} {G : List Gr} {sec : BA} {a : Option Addr} {n c : Nat} (h : RB w S G sec a n c) (hb : Below w.heap.size w w') : RB w' S G sec a n c := ⟨h.sec, h.row.below hb, h.len⟩
theorem RB.at {w : World} {S : List UInt8} {G : List Gr} {sec : BA} {a : Option Addr} {n c : Nat} (h : RB w S G sec a n c) {i : Nat} {g : Gr} (hi : G[i]? = some g) : ∃ b off, a = some ⟨b, off, none⟩ ∧ b < w.heap.size ∧ w.rangeAt b (off + i * 4) (Tk.cells ⟨⟨(keyG S i g).toArray⟩, g.u, g.t, g.bk⟩) := by
  obtain ⟨_, a', c', heq, _, _, hr⟩ := h.row
  have hlt := (List.getElem?_eq_some_iff.1 hi).1
  have hn : n = (tks S 0 G).length := by rw [tks_len]; exact h.len
  cases heq
  obtain ⟨b, off, e1, e2, e3⟩ := hr (by rw [tks_len]; omega)
  obtain ⟨e, he⟩ : ∃ e, (tks S 0 G)[i]? = some e := ⟨_, List.getElem?_eq_getElem (by rw [tks_len]; exact hlt)⟩
  obtain ⟨g2, h1, h2⟩ := tks_at 0 G i e he
  rw [hi] at h1
  cases h1
  rw [Nat.zero_add] at h2
  subst h2
  exact ⟨b, off, e1, e2, e3 i _ he⟩
theorem at_drop {S h : List UInt8} {G : List Gr} {i : Nat} {g : Gr} (hi : G[i]? = some g) : atF S i (G.drop i) h = if keyG S i g = h then some g else atF S (i + 1) (G.drop (i + 1)) h := by
  have hlt := (List.getElem?_eq_some_iff.1 hi).1
  rw [List.drop_eq_getElem_cons hlt, (List.getElem?_eq_some_iff.1 hi).2]
  rfl
def AtP (S : List UInt8) (G : List Gr) (h : List UInt8) (j : Int) : Prop := (j = -1 ∧ atF S 0 G h = none) ∨ ∃ (i : Nat) (g : Gr), j = (i : Int) ∧ G[i]? = some g ∧ keyG S i g = h ∧ atF S 0 G h = some g
set_option maxRecDepth 100000 in
set_option maxHeartbeats 1000000 in
theorem rat_is {w : World} {S : List UInt8} {G : List Gr} {sec : BA} {a : Option Addr} {n c : Nat} (h : RB w S G sec a n c) (hG : G.length ≤ 300) (X : BA) : Calls Tryd.prog 31 #[.agg #[.string sec, .slice a n c], .string X] w fun e w' => ∃ j, e = .returned (iv j) ∧ Hid (AtP S G X.data.toList j) ∧ Below w.heap.size w w' := by
  obtain ⟨d, hd⟩ : ∃ d, w.heap.size = d := ⟨_, rfl⟩
  obtain ⟨A, hA⟩ : ∃ A, w.alloc (.cells #[.string sec, .slice a n c] 30) = A := ⟨_, rfl⟩
  have hk : Blk A d 30 [.string sec, .slice a n c] := by rw [← hA, ← hd]; exact Blk.new w _ _
  have hbA : Below w.heap.size w A := by rw [← hA]; exact below_al _ _
  have c1 : A.cell? ⟨d, 1, none⟩ = some (.slice a n c) := hk.cell rfl
  have HA : Hid (Below w.heap.size w A ∧ RB A S G sec a n c) := ⟨hbA, h.below hbA⟩
  have HN : Hid (n = G.length ∧ G.length ≤ 300) := ⟨h.len, hG⟩
  have qn : (n : Int) ≤ 300 := by have := h.len; omega
  clear hk hbA h hG
  go_enter Tryd.func31, Tryd.ntmps31
  go_wp2_with fail
  go_loopw [5] (fun u wr => ∃ i : Nat, u = iv (i : Int) ∧ (i : Int) ≤ (n : Int) ∧ Hid (atF S 0 G X.data.toList = atF S i (G.drop i) X.data.toList ∧ A = wr)) (fun u _ => n - (intOf u).toNat)
  case atStart => exact ⟨0, rfl, by omega, rfl, rfl⟩
  case round =>
    obtain ⟨i, rfl, q1, HI⟩ := hrel
    obtain ⟨hI, hw⟩ := HI.out
    subst hw
    clear HI
    by_cases hi : i = n
    · subst hi
      have HF : Hid (atF S 0 G X.data.toList = none) := by
        show _ = _
        rw [hI, List.drop_eq_nil_iff.2 (by have := HN.out.1; omega)]
        rfl
      clear hI
      go_wp2
      go_ret
      exact ⟨_, rfl, .inl ⟨rfl, HF.out⟩, HA.out.1⟩
    · have q2 : (i : Int) < (n : Int) := by omega
      obtain ⟨g, hg⟩ : ∃ g, G[i]? = some g := ⟨_, List.getElem?_eq_getElem (by have := HN.out.1; omega)⟩
      obtain ⟨b, off, rfl, hbl, hra⟩ := HA.out.2.at hg
      have c0 : A.cell? ⟨b, off + i * 4, none⟩ = some (.string ⟨(keyG S i g).toArray⟩) := hra 0 _ rfl
      have hdr := at_drop (S := S) (h := X.data.toList) hg
      obtain ⟨kx, hkx⟩ : ∃ kx : BA, ⟨(keyG S i g).toArray⟩ = kx := ⟨_, rfl⟩
      rw [hkx] at c0
      have hkl : kx.data.toList = keyG S i g := by rw [← hkx]
      by_cases hkeq : keyG S i g = X.data.toList
      · have e1 : (kx.toList == X.toList) = true := by rw [toList_d, toList_d, hkl, hkeq]; exact beq_self_eq_true _
        have HF : Hid (AtP S G X.data.toList (i : Int)) := .inr ⟨i, g, rfl, hg, hkeq, by rw [hI, hdr, if_pos hkeq]⟩
        clear hI hi hg hbl hra hdr hkx hkl hkeq
        go_wp2
        go_ret
        exact ⟨_, rfl, HF.out, HA.out.1⟩
      · have e1 : (kx.toList == X.toList) = false := by rw [toList_d, toList_d, beq_eq_false_iff_ne, hkl]; exact hkeq
        have HF : Hid (atF S 0 G X.data.toList = atF S (i + 1) (G.drop (i + 1)) X.data.toList ∧ i < n) := ⟨by rw [hI, hdr, if_neg hkeq], by omega⟩
        clear hI hi hg hbl hra hdr hkx hkl hkeq
        go_wp2
        go_roundw
        case rel => exact ⟨i + 1, by simp, by have := HF.out.2; omega, HF.out.1, by first | exact rfl | exact trivial⟩
        case measure => have := HF.out.2; simp only [intOf]; omega
set_option maxRecDepth 100000 in
set_option maxHeartbeats 1000000 in
theorem rcheck_is {w : World} {S : List UInt8} {G : List Gr} {sec : BA} {a : Option Addr} {n c : Nat} (h : RB w S G sec a n c) (hG : G.length ≤ 300) (X : BA) (now : Int) (o : Option Gr) (ho : atF S 0 G X.data.toList = o) (U : BA) (E : Int) (hU : chkU o now = U) (hE : chkE o now = E) :
    Calls Tryd.prog 15 #[.agg #[.string sec, .slice a n c], .string X, iv now] w fun e w' => e = .returned (.tuple #[.string U, iv E]) ∧ Below w.heap.size w w' := by
  obtain ⟨d, hd⟩ : ∃ d, w.heap.size = d := ⟨_, rfl⟩
  obtain ⟨A, hA⟩ : ∃ A, w.alloc (.cells #[.string sec, .slice a n c] 30) = A := ⟨_, rfl⟩
  have hk : Blk A d 30 [.string sec, .slice a n c] := by rw [← hA, ← hd]; exact Blk.new w _ _
  have hbA : Below w.heap.size w A := by rw [← hA]; exact below_al _ _
  have c0 : A.cell? ⟨d, 0, none⟩ = some (.string sec) := hk.cell rfl
  have c1 : A.cell? ⟨d, 1, none⟩ = some (.slice a n c) := hk.cell rfl
  have HA : Hid (Below w.heap.size w A ∧ RB A S G sec a n c ∧ Blk A d 30 [.string sec, .slice a n c]) := ⟨hbA, h.below hbA, hk⟩
  have HN : Hid (n = G.length ∧ G.length ≤ 300) := ⟨h.len, hG⟩
  have HO : Hid (atF S 0 G X.data.toList = o) := ho
  clear hk hbA h hG ho
  go_enter Tryd.func15, Tryd.ntmps15
  go_wp2_with fail
  refine (rat_is HA.out.2.1 HN.out.2 X).mono ?_
  rintro e W1 ⟨j, rfl, HJ, hb1⟩
  have H1 : Hid (Below w.heap.size w W1 ∧ RB W1 S G sec a n c) := ⟨below_tr HA.out.1 hb1, HA.out.2.1.below hb1⟩
  have d1 : W1.cell? ⟨d, 1, none⟩ = some (.slice a n c) := (HA.out.2.2.below hb1 HA.out.2.2.lt).cell rfl
  clear hb1 c0 c1 hA hd
  rcases HJ.out with ⟨rfl, hn⟩ | ⟨i, g, rfl, hg, _, ha⟩
  · rw [HO.out] at hn
    subst hn
    obtain rfl : U = e0 := hU.symm
    obtain rfl : E = 160 := hE.symm
    clear HJ hU hE
    go_wp2
    go_ret2
    exact ⟨rfl, H1.out.1⟩
  · rw [HO.out] at ha
    subst ha
    obtain ⟨b, off, rfl, hbl, hra⟩ := H1.out.2.at hg
    obtain ⟨u, t, bk⟩ := g
    have f1 : W1.cell? ⟨b, off + i * 4 + 1, none⟩ = some (.string u) := hra 1 _ rfl
    have f2 : W1.cell? ⟨b, off + i * 4 + 2, none⟩ = some (iv (t : Int)) := hra 2 _ rfl
    have f3 : W1.cell? ⟨b, off + i * 4 + 3, none⟩ = some (.bool bk) := hra 3 _ rfl
    have hlt := (List.getElem?_eq_some_iff.1 hg).1
    have qi : (i : Int) < (n : Int) := by have := HN.out.1; omega
    have q0 : ¬ ((i : Int) < 0) := by omega
    change showE ⟨u, t, bk⟩ now = E at hE
    change (if showE ⟨u, t, bk⟩ now = 0 then u else e0) = U at hU
    rw [hE] at hU
    unfold showE at hE
    dsimp only at hE
    clear HJ hg hbl hra hlt
    cases bk with
    | true =>
      rw [if_pos rfl] at hE
      subst hE
      rw [if_neg (by omega)] at hU
      subst hU
      go_wp2
      go_ret2
      exact ⟨rfl, H1.out.1⟩
    | false =>
      rw [if_neg (by simp)] at hE
      by_cases ht : (t : Int) ≤ now
      · rw [if_pos ht] at hE
        subst hE
        rw [if_neg (by omega)] at hU
        subst hU
        go_wp2
        go_ret2
        exact ⟨rfl, H1.out.1⟩
      · rw [if_neg ht] at hE
        subst hE
        rw [if_pos rfl] at hU
        subst hU
        have ht2 : now < (t : Int) := by omega
        clear ht
        go_wp2
        go_ret2
        exact ⟨rfl, H1.out.1⟩
end Go.Proofs.YtjeahlfmapacfaaDoor.Oct

/- Layer 16 (token): Issue of the reference. -/
namespace Go.Proofs.YtjeahlfmapacfaaDoor.Oct
open Go.RowKit Sha
set_option linter.unusedSimpArgs false
set_option linter.unusedVariables false

theorem ret_c3 {R : Ending → World → Prop} {fn : Func} {p1 t2 t3 : Tmp} {ty : TypeId} {a : Act} {w : World} {g : Nat} {X : List Value} {d : TypeDesc} (hr : fn.results = #[.cell p1 ty, .tmp t2, .tmp t3]) (hd : a.defers = []) (hp : a.tmps.getD p1 undef = .pointer (some ⟨g, 0, none⟩))
    (hb : Blk w g ty X) (hu : Tryd.prog.underlying ty = some d) (hrow : d.isRow = true) (hi : (Tryd.prog.info? ty).map (·.size) = some X.length) (hR : R (.returned (.tuple #[.agg X.toArray, a.tmps.getD t2 undef, a.tmps.getD t3 undef])) w) : bodyPost Tryd.prog fn R .ret a w := by
  have hl := run_loadVar_mid (P := Tryd.prog) w g 0 ty X _ hb.range0 hu hrow hi
  refine bodyPost_ret (v := .tuple #[.agg X.toArray, a.tmps.getD t2 undef, a.tmps.getD t3 undef]) ?_ hd hR
  simp only [results, hr]
  simp [Sem.run_bind, Array.getD] at hp ⊢
  simp [hp, asAddr, hl, Result.andThen]
theorem zero30 (W : World) : (zeroValue 30).run Tryd.prog W = .ok (.agg #[.string e0, .slice none 0 0]) W := by kernel_rfl
theorem size30 (x y : Value) : (Tryd.prog.info? 30).map (·.size) = some [x, y].length := by show _ = some 2; kernel_rfl
theorem build71 (x u : BA) (t : Int) (W : World) : (Instr.build 71 #[(0, .string x), (1, .string u), (2, iv t)]).run Tryd.prog W = .ok (.agg #[.string x, .string u, iv t, .bool false]) W := by kernel_rfl
theorem rb_one (s : BA) (a : Option Addr) (n c : Nat) : ∀ v ∈ [Value.string s, .slice a n c], v.oneCell' = true := by
  intro v hv
  simp only [List.mem_cons, List.not_mem_nil, or_false] at hv
  rcases hv with rfl | rfl <;> rfl
/-- what the reference's Issue says -/
def RiP (w : World) (S : List UInt8) (G : List Gr) (sec : BA) (a : Option Addr) (n c : Nat) (u : BA) (now til : Int) (e : Ending) (w' : World) : Prop :=
  ((issE G u now til ≠ 0 ∧ e = .returned (.tuple #[.agg #[.string sec, .slice a n c], .string e0, iv (issE G u now til)])) ∨
   (issE G u now til = 0 ∧ ∃ (X : BA) (a' : Option Addr) (c' : Nat), X.data.toList = keyG S G.length ⟨u, til.toNat, false⟩ ∧ e = .returned (.tuple #[.agg #[.string sec, .slice a' (n + 1) c'], .string X, iv 0]) ∧ RB w' S (G ++ [⟨u, til.toNat, false⟩]) sec a' (n + 1) c')) ∧ Below w.heap.size w w'
set_option maxRecDepth 100000 in
set_option maxHeartbeats 2000000 in
theorem rissue_is {w : World} {S : List UInt8} {G : List Gr} {sec : BA} {a : Option Addr} {n c : Nat} (h : RB w S G sec a n c) (hG : G.length ≤ 256) (hS : S.length ≤ 20000) (u : BA) (hu : u.size ≤ 15000) (now til : Int) :
    Calls Tryd.prog 12 #[.agg #[.string sec, .slice a n c], .string u, iv now, iv til] w (RiP w S G sec a n c u now til) := by
  obtain ⟨d, hd⟩ : ∃ d, w.heap.size = d := ⟨_, rfl⟩
  obtain ⟨A, hA⟩ : ∃ A, w.alloc (.cells #[.string sec, .slice a n c] 30) = A := ⟨_, rfl⟩
  obtain ⟨d2, hd2⟩ : ∃ d, A.heap.size = d := ⟨_, rfl⟩
  obtain ⟨B, hB⟩ : ∃ B, A.alloc (.cells #[.string e0, .slice none 0 0] 30) = B := ⟨_, rfl⟩
  have HB : Hid (Below w.heap.size w B ∧ Blk B d 30 [.string sec, .slice a n c] ∧ Blk B d2 30 [.string e0, .slice none 0 0] ∧ RB B S G sec a n c ∧ w.heap.size = d ∧ d < d2) := by
    have b1 : Below w.heap.size w A := by rw [← hA]; exact below_al _ _
    have b2 : Below A.heap.size A B := by rw [← hB]; exact below_al _ _
    have k1 : Blk A d 30 [.string sec, .slice a n c] := by rw [← hA, ← hd]; exact Blk.new w _ _
    exact ⟨below_tr b1 b2, k1.below b2 k1.lt, by rw [← hB, ← hd2]; exact Blk.new A _ _, (h.below b1).below b2, hd, by have := k1.lt; omega⟩
  have c0 : B.cell? ⟨d, 0, none⟩ = some (.string sec) := HB.out.2.1.cell rfl
  have c1 : B.cell? ⟨d, 1, none⟩ = some (.slice a n c) := HB.out.2.1.cell rfl
  have HN : Hid (n = G.length ∧ G.length ≤ 256 ∧ S.length ≤ 20000 ∧ u.size ≤ 15000 ∧ sec.data.toList = S) := ⟨h.len, hG, hS, hu, h.sec⟩
  have qn : (n : Int) ≤ 256 := by have := h.len; omega
  have hz := zero30
  obtain ⟨P, hP⟩ : ∃ P : Bool, decide (u.data.toList ≠ [] ∧ (46 : UInt8) ∉ u.data.toList) = P := ⟨_, rfl⟩
  have CP : Hid (∀ V, Calls Tryd.prog 24 #[.string u] V fun e w' => e = .returned (.bool P) ∧ V = w') := fun V => rplain_is u (by omega) V P hP
  have BAD : ∀ E : Int, E ≠ 0 → issE G u now til = E → ∀ W : World, Below w.heap.size w W → Hid (RiP w S G sec a n c u now til (.returned (.tuple #[.agg #[.string sec, .slice a n c], .string e0, iv E])) W) := fun E h0 hE W hW => ⟨.inl ⟨by rw [hE]; exact h0, by rw [hE]⟩, hW⟩
  clear h hG hS hu
  cases P with
  | false =>
    have HE : Hid (issE G u now til = 2) := iss2 (by
      have h1 : ¬ (u.data.toList ≠ [] ∧ (46 : UInt8) ∉ u.data.toList) := by simpa using hP
      unfold badU
      by_cases h2 : u.data.toList = []
      · exact .inl h2
      · refine .inr (.inl (Classical.byContradiction fun h3 => h1 ⟨h2, h3⟩)))
    clear hP
    go_enter Tryd.func12, Tryd.ntmps12
    go_wp2_with fail
    refine (CP.out B).mono ?_
    rintro e W ⟨rfl, rfl⟩
    go_wp2_with (with_reducible change wpList _ _ _ ({ dst := none, op := Op.store 30 _ _, type := _, pos := _, after := _, guard := _ } :: _) _ _; refine Hid.out ?_)
    show wpList _ _ _ _ _ _
    refine wpList_store_blk rfl 30 (.tmp 8) (.tmp 24) rfl d2 0 30 [.string e0, .slice none 0 0] [.string sec, .slice a n c] rfl rfl HB.out.2.2.1 (by show 0 + 2 ≤ 2; omega) (size30 _ _) (rb_one _ _ _ _) ?_
    intro W2 hx2 hg2
    have H2 : Hid (Below w.heap.size w W2 ∧ Blk W2 d2 30 [.string sec, .slice a n c]) := ⟨below_gr HB.out.1 hg2.out (by have := HB.out.2.2.2.2; omega), blk_all hx2.out rfl⟩
    have HF := BAD 2 (by omega) HE.out W2 H2.out.1
    clear hx2 hg2 BAD
    go_wp2
    exact ret_c3 rfl rfl rfl H2.out.2 Tryd.underlying30 rfl (size30 _ _) HF.out
  | true =>
    have hp2 : u.data.toList ≠ [] ∧ (46 : UInt8) ∉ u.data.toList := by simpa using hP
    clear hP
    by_cases h3 : now < 0
    · have HE : Hid (issE G u now til = 2) := iss2 (.inr (.inr (.inl h3)))
      clear hp2
      go_enter Tryd.func12, Tryd.ntmps12
      go_wp2_with fail
      refine (CP.out B).mono ?_
      rintro e W ⟨rfl, rfl⟩
      go_wp2_with (with_reducible change wpList _ _ _ ({ dst := none, op := Op.store 30 _ _, type := _, pos := _, after := _, guard := _ } :: _) _ _; refine Hid.out ?_)
      show wpList _ _ _ _ _ _
      refine wpList_store_blk rfl 30 (.tmp 8) (.tmp 24) rfl d2 0 30 [.string e0, .slice none 0 0] [.string sec, .slice a n c] rfl rfl HB.out.2.2.1 (by show 0 + 2 ≤ 2; omega) (size30 _ _) (rb_one _ _ _ _) ?_
      intro W2 hx2 hg2
      have H2 : Hid (Below w.heap.size w W2 ∧ Blk W2 d2 30 [.string sec, .slice a n c]) := ⟨below_gr HB.out.1 hg2.out (by have := HB.out.2.2.2.2; omega), blk_all hx2.out rfl⟩
      have HF := BAD 2 (by omega) HE.out W2 H2.out.1
      clear hx2 hg2 BAD
      go_wp2
      exact ret_c3 rfl rfl rfl H2.out.2 Tryd.underlying30 rfl (size30 _ _) HF.out
    have h3' : 0 ≤ now := by omega
    by_cases h4 : 1099511627776 < til
    · have HE : Hid (issE G u now til = 2) := iss2 (.inr (.inr (.inr h4)))
      clear hp2 h3
      go_enter Tryd.func12, Tryd.ntmps12
      go_wp2_with fail
      refine (CP.out B).mono ?_
      rintro e W ⟨rfl, rfl⟩
      go_wp2_with (with_reducible change wpList _ _ _ ({ dst := none, op := Op.store 30 _ _, type := _, pos := _, after := _, guard := _ } :: _) _ _; refine Hid.out ?_)
      show wpList _ _ _ _ _ _
      refine wpList_store_blk rfl 30 (.tmp 8) (.tmp 24) rfl d2 0 30 [.string e0, .slice none 0 0] [.string sec, .slice a n c] rfl rfl HB.out.2.2.1 (by show 0 + 2 ≤ 2; omega) (size30 _ _) (rb_one _ _ _ _) ?_
      intro W2 hx2 hg2
      have H2 : Hid (Below w.heap.size w W2 ∧ Blk W2 d2 30 [.string sec, .slice a n c]) := ⟨below_gr HB.out.1 hg2.out (by have := HB.out.2.2.2.2; omega), blk_all hx2.out rfl⟩
      have HF := BAD 2 (by omega) HE.out W2 H2.out.1
      clear hx2 hg2 BAD
      go_wp2
      exact ret_c3 rfl rfl rfl H2.out.2 Tryd.underlying30 rfl (size30 _ _) HF.out
    have h4' : til ≤ 1099511627776 := by omega
    have hnb : ¬ badU u now til := by unfold badU; simp only [not_or]; exact ⟨hp2.1, hp2.2, h3, h4⟩
    by_cases h5 : til ≤ now
    · have HE : Hid (issE G u now til = 162) := by show _ = _; unfold issE; rw [if_neg hnb, if_pos h5]
      clear hp2 h3 h4 hnb
      go_enter Tryd.func12, Tryd.ntmps12
      go_wp2_with fail
      refine (CP.out B).mono ?_
      rintro e W ⟨rfl, rfl⟩
      go_wp2_with (with_reducible change wpList _ _ _ ({ dst := none, op := Op.store 30 _ _, type := _, pos := _, after := _, guard := _ } :: _) _ _; refine Hid.out ?_)
      show wpList _ _ _ _ _ _
      refine wpList_store_blk rfl 30 (.tmp 8) (.tmp 28) rfl d2 0 30 [.string e0, .slice none 0 0] [.string sec, .slice a n c] rfl rfl HB.out.2.2.1 (by show 0 + 2 ≤ 2; omega) (size30 _ _) (rb_one _ _ _ _) ?_
      intro W2 hx2 hg2
      have H2 : Hid (Below w.heap.size w W2 ∧ Blk W2 d2 30 [.string sec, .slice a n c]) := ⟨below_gr HB.out.1 hg2.out (by have := HB.out.2.2.2.2; omega), blk_all hx2.out rfl⟩
      have HF := BAD 162 (by omega) HE.out W2 H2.out.1
      clear hx2 hg2 BAD
      go_wp2
      exact ret_c3 rfl rfl rfl H2.out.2 Tryd.underlying30 rfl (size30 _ _) HF.out
    have h5' : now < til := by omega
    by_cases h6 : 256 ≤ G.length
    · have HE : Hid (issE G u now til = 3) := by show _ = _; unfold issE; rw [if_neg hnb, if_neg h5, if_pos h6]
      have q6 : (256 : Int) ≤ (n : Int) := by have := HN.out.1; omega
      clear hp2 h3 h4 hnb h5 h6
      go_enter Tryd.func12, Tryd.ntmps12
      go_wp2_with fail
      refine (CP.out B).mono ?_
      rintro e W ⟨rfl, rfl⟩
      go_wp2_with (with_reducible change wpList _ _ _ ({ dst := none, op := Op.store 30 _ _, type := _, pos := _, after := _, guard := _ } :: _) _ _; refine Hid.out ?_)
      show wpList _ _ _ _ _ _
      refine wpList_store_blk rfl 30 (.tmp 8) (.tmp 33) rfl d2 0 30 [.string e0, .slice none 0 0] [.string sec, .slice a n c] rfl rfl HB.out.2.2.1 (by show 0 + 2 ≤ 2; omega) (size30 _ _) (rb_one _ _ _ _) ?_
      intro W2 hx2 hg2
      have H2 : Hid (Below w.heap.size w W2 ∧ Blk W2 d2 30 [.string sec, .slice a n c]) := ⟨below_gr HB.out.1 hg2.out (by have := HB.out.2.2.2.2; omega), blk_all hx2.out rfl⟩
      have HF := BAD 3 (by omega) HE.out W2 H2.out.1
      clear hx2 hg2 BAD
      go_wp2
      exact ret_c3 rfl rfl rfl H2.out.2 Tryd.underlying30 rfl (size30 _ _) HF.out
    have hi : issE G u now til = 0 := by unfold issE; rw [if_neg hnb, if_neg h5, if_neg h6]
    obtain ⟨t, ht⟩ : ∃ t : Nat, til = (t : Int) := ⟨til.toNat, by omega⟩
    subst ht
    have q6 : (n : Int) < 256 := by have := HN.out.1; omega
    obtain ⟨s1, hs1⟩ : ∃ s : BA, s = ⟨(Lib.decDigits (n + 1)).toArray⟩ := ⟨_, rfl⟩
    obtain ⟨s2, hs2⟩ : ∃ s : BA, s = ⟨(Lib.decDigits t).toArray⟩ := ⟨_, rfl⟩
    have z1 : s1.size ≤ 13 := by rw [hs1]; show (Lib.decDigits (n + 1)).toArray.size ≤ _; rw [List.size_toArray]; exact dec_len _ (by omega)
    have z2 : s2.size ≤ 13 := by rw [hs2]; show (Lib.decDigits t).toArray.size ≤ _; rw [List.size_toArray]; exact dec_len _ (by omega)
    have D1 : Hid (∀ V, Calls Tryd.prog 25 #[iv ((n : Int) + 1)] V fun e V2 => e = .returned (.string s1) ∧ V = V2) := fun V => by rw [hs1]; exact dec_is (n + 1) (n + 1) (Nat.le_refl _) (by omega) V
    have D2 : Hid (∀ V, Calls Tryd.prog 25 #[iv (t : Int)] V fun e V2 => e = .returned (.string s2) ∧ V = V2) := fun V => by rw [hs2]; exact dec_is t t (Nat.le_refl _) (by omega) V
    obtain ⟨Y, hY⟩ : ∃ Y : BA, s1 ++ pt ++ u ++ pt ++ s2 = Y := ⟨_, rfl⟩
    have hYL : Y.data.toList = bodyT (n + 1) u.data.toList t := by rw [← hY, hs1, hs2]; simp [ByteArray.data_append, bodyT]
    have zY : Y.size ≤ 15100 := by
      rw [← hY]
      simp only [ByteArray.size_append]
      have : pt.size = 1 := rfl
      have := HN.out.2.2.2.1
      omega
    obtain ⟨T, hT⟩ : ∃ T, tagOf S Y.data.toList = T := ⟨_, rfl⟩
    have hTL : T.length = 32 := by rw [← hT]; exact tagOf_len _ _
    obtain ⟨H, hH⟩ : ∃ H : BA, ⟨(hexOf T).toArray⟩ = H := ⟨_, rfl⟩
    have zH : H.size = 64 := by rw [← hH]; show (hexOf T).toArray.size = 64; rw [List.size_toArray, hexOf_length, hTL]
    obtain ⟨X, hXX⟩ : ∃ X : BA, Y ++ pt ++ H = X := ⟨_, rfl⟩
    have hX : X.data.toList = keyG S n ⟨u, t, false⟩ := by
      rw [← hXX]
      unfold keyG txtT sealT
      rw [← hYL, hT, ← hH]
      simp [ByteArray.data_append]
    have zX : X.size ≤ 20000 := by
      rw [← hXX]
      simp only [ByteArray.size_append]
      have : pt.size = 1 := rfl
      omega
    have zS : sec.size ≤ 20000 := by have e : sec.data.toList.length = sec.size := rfl; rw [HN.out.2.2.2.2] at e; have := HN.out.2.2.1; omega
    have HT : Hid (tagOf S Y.data.toList = T ∧ T.length = 32 ∧ (⟨(hexOf T).toArray⟩ : BA) = H ∧ Y.size ≤ 15100 ∧ sec.size ≤ 20000) := ⟨hT, hTL, hH, zY, zS⟩
    have HX : Hid (X.data.toList = keyG S n ⟨u, t, false⟩ ∧ X.size ≤ 20000 ∧ issE G u now (t : Int) = 0) := ⟨hX, zX, hi⟩
    have hbd := build71 X u (t : Int)
    have hz67 := zero67
    have qy : (Y.size : Int) ≤ 15100 := by omega
    have qh : (H.size : Int) = 64 := by omega
    have qu : (u.size : Int) ≤ 15000 := by have := HN.out.2.2.2.1; omega
    have qd1 : (s1.size : Int) ≤ 13 := by omega
    have qd2 : (s2.size : Int) ≤ 13 := by omega
    clear hp2 h3 h4 hnb h5 h6 hi hs1 hs2 z1 z2 hYL zY hT hTL hH zH hX zX zS BAD
    go_enter Tryd.func12, Tryd.ntmps12
    go_wp2_with fail
    refine (CP.out B).mono ?_
    rintro e W ⟨rfl, rfl⟩
    go_wp2_with fail
    refine (D1.out B).mono ?_
    rintro e W ⟨rfl, rfl⟩
    go_wp2_with fail
    refine (D2.out B).mono ?_
    rintro e W ⟨rfl, rfl⟩
    go_wp2_with (with_reducible change wpList _ _ _ ({ dst := some 48, op := _, type := _, pos := _, after := _, guard := _ } :: _) _ _; refine Hid.out ?_)
    show wpList _ _ _ _ _ _
    obtain ⟨cap1, W1, hcv1, HI1, -, HB1, -⟩ := label_made (P := Tryd.prog) B 9 22 5 sec Tryd.underlying9 Tryd.underlying22 Tryd.underlying5 (by have := HT.out.2.2.2.2; omega)
    refine wpList_conv rfl (.tmp 47) 9 22 rfl (.string sec) _ rfl hcv1 ?_
    obtain ⟨g1, hg1⟩ : ∃ g, B.heap.size = g := ⟨_, rfl⟩
    rw [hg1] at HI1 ⊢
    clear hcv1 hg1
    go_wp2_with (with_reducible change wpList _ _ _ ({ dst := some 50, op := _, type := _, pos := _, after := _, guard := _ } :: _) _ _; refine Hid.out ?_)
    show wpList _ _ _ _ _ _
    obtain ⟨cap2, W2, hcv2, HI2, -, HB2, -⟩ := label_made (P := Tryd.prog) W1 9 22 5 Y Tryd.underlying9 Tryd.underlying22 Tryd.underlying5 (by have := HT.out.2.2.2.1; omega)
    refine wpList_conv rfl (.tmp 49) 9 22 rfl (.string Y) _ rfl hcv2 ?_
    obtain ⟨g2, hg2⟩ : ∃ g, W1.heap.size = g := ⟨_, rfl⟩
    rw [hg2] at HI2 ⊢
    clear hcv2 hg2
    have H2 : Hid (Below w.heap.size w W2 ∧ Below B.heap.size B W2) := ⟨below_tr (below_tr HB.out.1 HB1.out) HB2.out, below_tr HB1.out HB2.out⟩
    have HI1' : Hid (In W2 (some ⟨g1, 0, none⟩) sec.size cap1 S) := by have := HI1.out.below HB2.out; rw [HN.out.2.2.2.2] at this; exact this
    go_wp2_with fail
    refine (refTag_is S Y.data.toList T HT.out.1 (some ⟨g1, 0, none⟩) (some ⟨g2, 0, none⟩) sec.size Y.size cap1 cap2 W2 HI1'.out HI2.out (by have := HT.out.2.2.2.2; omega) (by have := HT.out.2.2.2.1; omega)).mono ?_
    rintro e W4 ⟨rfl, HW4⟩
    have H4 : Hid (Below w.heap.size w W4 ∧ Below B.heap.size B W4) := ⟨below_tr H2.out.1 HW4.out, below_tr H2.out.2 HW4.out⟩
    obtain ⟨g, hg⟩ : ∃ g, W4.heap.size = g := ⟨_, rfl⟩
    have HG : Hid (W4.heap.size = g ∧ w.heap.size ≤ g ∧ B.heap.size ≤ g) := ⟨hg, by have := H4.out.1.size; omega, by have := H4.out.2.size; omega⟩
    clear HW4 HI1 HI2 HI1' HB1 HB2
    go_wp2_with (with_reducible change wpList _ _ _ ({ dst := none, op := Op.store 67 _ _, type := _, pos := _, after := _, guard := _ } :: _) _ _; refine Hid.out ?_)
    show wpList _ _ _ _ _ _
    refine wpList_store_blk rfl 67 (.tmp 12) (.tmp 51) rfl g 0 67 (zb 32) (U T) rfl rfl (by rw [← HG.out.1]; exact Blk.new W4 _ _) (by rw [U_length, HT.out.2.1, zb_length]; omega) (by rw [size67, U_length, HT.out.2.1]) (U_one _) ?_
    intro W5 hx5 hg5
    have H5 : Hid (Below w.heap.size w W5 ∧ Blk W5 g 67 (U T) ∧ Below B.heap.size B W5) := ⟨below_gr (below_tr H4.out.1 (below_al _ _)) hg5.out HG.out.2.1, blk_all hx5.out (by rw [U_length, HT.out.2.1, zb_length]), below_gr (below_tr H4.out.2 (below_al _ _)) hg5.out HG.out.2.2⟩
    have hsl := slice25 g
    clear hx5 hg5 hg
    go_wp2_with fail
    refine (refHex_is T (some ⟨g, 0, none⟩) 32 32 W5 (in25 HT.out.2.1 H5.out.2.1) (by omega)).mono ?_
    rintro e W6 ⟨rfl, hb6⟩
    have H6 : Hid (Below w.heap.size w W6 ∧ Below B.heap.size B W6) := ⟨below_tr H5.out.1 hb6, below_tr H5.out.2.2 hb6⟩
    rw [HT.out.2.2.1]
    clear hb6 hsl
    have k0 : Blk W6 d 30 [.string sec, .slice a n c] := HB.out.2.1.below H6.out.2 HB.out.2.1.lt
    have HR6 : Hid (RB W6 S G sec a n c ∧ Blk W6 d 30 [.string sec, .slice a n c] ∧ Blk W6 d2 30 [.string e0, .slice none 0 0] ∧ d < W6.heap.size ∧ d2 < W6.heap.size) := ⟨HB.out.2.2.2.1.below H6.out.2, k0, HB.out.2.2.1.below H6.out.2 HB.out.2.2.1.lt, k0.lt, (HB.out.2.2.1.below H6.out.2 HB.out.2.2.1.lt).lt⟩
    clear k0 c0 c1
    go_wp2_with (with_reducible change wpList _ _ _ ({ dst := some 57, op := _, type := _, pos := _, after := _, guard := _ } :: _) _ _; refine Hid.out ?_)
    show wpList _ _ _ _ _ _
    refine wpList_bs0 rfl rfl ?_
    obtain ⟨F6, hF6⟩ : ∃ F, W6.heap.size = F := ⟨_, rfl⟩
    have hHO : Hid (OwK (W6.alloc (.cells #[] 71)) F6 (.slice (some ⟨F6, 0, none⟩) 0 0) [] ∧ TkR (W6.alloc (.cells #[] 71)) (.slice a n c) (tks S 0 G) ∧ Below w.heap.size w (W6.alloc (.cells #[] 71)) ∧ F6 ≤ (W6.alloc (.cells #[] 71)).heap.size ∧ Blk (W6.alloc (.cells #[] 71)) d 30 [.string sec, .slice a n c] ∧ Blk (W6.alloc (.cells #[] 71)) d2 30 [.string e0, .slice none 0 0] ∧ d < F6 ∧ d2 < F6 ∧ w.heap.size ≤ F6) := by
      rw [← hF6]
      exact ⟨own0 W6, HR6.out.1.row.below (below_al _ _), below_tr H6.out.1 (below_al _ _), (below_al W6 (.cells #[] 71)).size, HR6.out.2.1.alloc _, HR6.out.2.2.1.alloc _, HR6.out.2.2.2.1, HR6.out.2.2.2.2, H6.out.1.size⟩
    rw [hF6]
    generalize W6.alloc (.cells #[] 71) = W7 at hHO ⊢
    have e1 : W7.cell? ⟨d, 1, none⟩ = some (.slice a n c) := hHO.out.2.2.2.2.1.cell rfl
    clear hF6
    go_wp2_with (with_reducible change wpList _ _ _ ({ dst := some 60, op := _, type := _, pos := _, after := _, guard := _ } :: _) _ _; refine Hid.out ?_)
    show wpList _ _ _ _ _ _
    refine wpList_app rfl (.tmp 57) (.tmp 59) rfl hHO.out.1 hHO.out.2.1 (by rw [tks_len]; have := HN.out; simp; omega) hHO.out.2.2.2.1 rfl rfl ?_
    intro v8 W8 ho8 hg8 hp8
    rw [List.nil_append] at ho8
    have hb78 : Below F6 W7 W8 := (Below.refl F6 W7).grown hg8.out hHO.out.2.2.2.1 (fun j hj => (hHO.out.1.lt hj).1)
    have H8 : Hid (OwK W8 F6 v8 (tks S 0 G) ∧ Below w.heap.size w W8 ∧ F6 ≤ W8.heap.size ∧ Blk W8 d 30 [.string sec, .slice a n c] ∧ Blk W8 d2 30 [.string e0, .slice none 0 0]) := ⟨ho8.out, hHO.out.2.2.1.trans (hb78.mono hHO.out.2.2.2.2.2.2.2.2), Nat.le_trans hHO.out.2.2.2.1 hb78.size, hHO.out.2.2.2.2.1.below hb78 hHO.out.2.2.2.2.2.2.1, hHO.out.2.2.2.2.2.1.below hb78 hHO.out.2.2.2.2.2.2.2.1⟩
    have HLT : Hid (d < F6 ∧ d2 < F6 ∧ w.heap.size ≤ F6) := hHO.out.2.2.2.2.2.2
    clear ho8 hg8 hp8 hb78 e1 hHO
    go_wp2_with (with_reducible change wpList _ _ _ ({ dst := some 65, op := _, type := _, pos := _, after := _, guard := _ } :: _) _ _; refine Hid.out ?_)
    show wpList _ _ _ _ _ _
    refine wpList_bs rfl (.tmp 64) rfl ⟨X, u, t, false⟩ rfl ?_
    have H9 : Hid (OwK (W8.alloc (.cells (Tk.cells ⟨X, u, t, false⟩).toArray 71)) F6 v8 (tks S 0 G) ∧ TkR (W8.alloc (.cells (Tk.cells ⟨X, u, t, false⟩).toArray 71)) (.slice (some ⟨W8.heap.size, 0, none⟩) 1 1) [⟨X, u, t, false⟩] ∧ Below w.heap.size w (W8.alloc (.cells (Tk.cells ⟨X, u, t, false⟩).toArray 71)) ∧ F6 ≤ (W8.alloc (.cells (Tk.cells ⟨X, u, t, false⟩).toArray 71)).heap.size ∧ Blk (W8.alloc (.cells (Tk.cells ⟨X, u, t, false⟩).toArray 71)) d 30 [.string sec, .slice a n c] ∧ Blk (W8.alloc (.cells (Tk.cells ⟨X, u, t, false⟩).toArray 71)) d2 30 [.string e0, .slice none 0 0]) := ⟨H8.out.1.below (below_al _ _), (own1 W8 ⟨X, u, t, false⟩ HX.out.2.1).esr, below_tr H8.out.2.1 (below_al _ _), Nat.le_trans H8.out.2.2.1 (below_al W8 _).size, H8.out.2.2.2.1.alloc _, H8.out.2.2.2.2.alloc _⟩
    generalize W8.alloc (.cells (Tk.cells ⟨X, u, t, false⟩).toArray 71) = W9 at H9 ⊢
    generalize W8.heap.size = g9 at H9 ⊢
    clear hbd
    go_wp2_with (with_reducible change wpList _ _ _ ({ dst := some 66, op := _, type := _, pos := _, after := _, guard := _ } :: _) _ _; refine Hid.out ?_)
    show wpList _ _ _ _ _ _
    refine wpList_app rfl (.tmp 60) (.tmp 65) rfl H9.out.1 H9.out.2.1 (by rw [tks_len]; have := HN.out; simp; omega) H9.out.2.2.2.1 rfl rfl ?_
    intro v10 W10 ho10 hg10 hp10
    have hb910 : Below F6 W9 W10 := (Below.refl F6 W9).grown hg10.out H9.out.2.2.2.1 (fun j hj => (H9.out.1.lt hj).1)
    obtain ⟨a', c', rfl⟩ : ∃ a c, v10 = .slice a (n + 1) c := by obtain ⟨a, c, h⟩ := sl_of ho10.out; exact ⟨a, c, by rw [h, List.length_append, tks_len, ← HN.out.1]; rfl⟩
    have H10 : Hid (OwK W10 F6 (.slice a' (n + 1) c') (tks S 0 G ++ [⟨X, u, t, false⟩]) ∧ Below w.heap.size w W10 ∧ F6 ≤ W10.heap.size) := ⟨ho10.out, H9.out.2.2.1.trans (hb910.mono HLT.out.2.2), Nat.le_trans H9.out.2.2.2.1 hb910.size⟩
    have k10 : Blk W10 d 30 [.string sec, .slice a n c] := H9.out.2.2.2.2.1.below hb910 HLT.out.1
    have k10b : Blk W10 d2 30 [.string e0, .slice none 0 0] := H9.out.2.2.2.2.2.below hb910 HLT.out.2.1
    obtain ⟨W11, hW11⟩ : ∃ W, W10.setCell ⟨d, 1, none⟩ (.slice a' (n + 1) c') = W := ⟨_, rfl⟩
    have hg11 : W10.grownBy W11 (some d) := by rw [← hW11]; exact grown_setCell _ _ _ _
    have k11 : Blk W11 d 30 [.string sec, .slice a' (n + 1) c'] := by rw [← hW11]; exact k10.set 1 _
    have k11b : Blk W11 d2 30 [.string e0, .slice none 0 0] := k10b.kept hg11 (by have := HB.out.2.2.2.2; simp; omega)
    have ho11 : OwK W11 F6 (.slice a' (n + 1) c') (tks S 0 G ++ [⟨X, u, t, false⟩]) := H10.out.1.same (fun q hq => hg11.block q (H10.out.1.lt hq).2 (by have := (H10.out.1.lt hq).1; have := HLT.out.1; simp; omega))
    have H11 : Hid (OwK W11 F6 (.slice a' (n + 1) c') (tks S 0 G ++ [⟨X, u, t, false⟩]) ∧ Below w.heap.size w W11 ∧ Blk W11 d2 30 [.string e0, .slice none 0 0]) := ⟨ho11, below_gr H10.out.2.1 hg11 (by have := HB.out.2.2.2.2.1; omega), k11b⟩
    have e1 : W10.cell? ⟨d, 1, none⟩ = some (.slice a n c) := k10.cell rfl
    have efr : W10.frozen? ⟨d, 1, none⟩ = false := k10.free 1
    have f0 : W11.cell? ⟨d, 0, none⟩ = some (.string sec) := k11.cell rfl
    have f1 : W11.cell? ⟨d, 1, none⟩ = some (.slice a' (n + 1) c') := k11.cell rfl
    clear ho10 hg10 hp10 hb910 k10 k10b k11 k11b hg11 ho11 H9
    go_wp2_with (with_reducible change wpList _ _ _ ({ dst := none, op := Op.store 30 _ _, type := _, pos := _, after := _, guard := _ } :: _) _ _; refine Hid.out ?_)
    show wpList _ _ _ _ _ _
    refine wpList_store_blk rfl 30 (.tmp 8) (.tmp 68) rfl d2 0 30 [.string e0, .slice none 0 0] [.string sec, .slice a' (n + 1) c'] rfl rfl H11.out.2.2 (by show 0 + 2 ≤ 2; omega) (size30 _ _) (rb_one _ _ _ _) ?_
    intro W12 hx12 hg12
    have H12 : Hid (Below w.heap.size w W12 ∧ Blk W12 d2 30 [.string sec, .slice a' (n + 1) c']) := ⟨below_gr H11.out.2.1 hg12.out (by have := HB.out.2.2.2.2; omega), blk_all hx12.out rfl⟩
    have HF : Hid (RiP w S G sec a n c u now (t : Int) (.returned (.tuple #[.agg #[.string sec, .slice a' (n + 1) c'], .string X, iv 0])) W12) := by
      refine ⟨.inr ⟨HX.out.2.2, X, a', c', ?_, rfl, ?_⟩, H12.out.1⟩
      · rw [← HN.out.1]; exact HX.out.1
      · have ho12 : OwK W12 F6 (.slice a' (n + 1) c') (tks S 0 G ++ [⟨X, u, t, false⟩]) := H11.out.1.same (fun q hq => hg12.out.block q (H11.out.1.lt hq).2 (by have := (H11.out.1.lt hq).1; have := HLT.out.2.1; simp; omega))
        refine ⟨HN.out.2.2.2.2, ?_, by rw [List.length_append, ← HN.out.1]; rfl⟩
        have e : tks S 0 (G ++ [⟨u, (t : Int).toNat, false⟩]) = tks S 0 G ++ [⟨X, u, t, false⟩] := by
          rw [tks_app, Nat.zero_add, ← HN.out.1]
          rw [Int.toNat_natCast]
          show _ ++ [(⟨⟨(keyG S n ⟨u, t, false⟩).toArray⟩, u, t, false⟩ : Tk)] = _
          rw [← HX.out.1]
        rw [e]
        exact ho12.esr
    clear hx12 hg12 f0 f1 e1 efr
    go_wp2
    exact ret_c3 rfl rfl rfl H12.out.2 Tryd.underlying30 rfl (size30 _ _) HF.out
end Go.Proofs.YtjeahlfmapacfaaDoor.Oct
