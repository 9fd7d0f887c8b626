/-
  Layer 10 (patch): a patch in new memory.
  Layer 10 (patch): Twin of the reference.
  Layer 10 (patch): Twin of the reference, walked.
  Layer 10 (patch): light.
-/
import Derived.Test.YtgdecjacbkicmaaDoorQkLiv
import Derived.Maps.AppendAt
import Derived.Deep.MidRow
/- Layer 10 (patch): a patch in new memory. -/
namespace Go.Proofs.YtgdecjacbkicmaaDoor.Oct
open Go.RowKit
set_option maxRecDepth 100000
set_option linter.unusedSimpArgs false
set_option linter.unusedVariables false

/-- a copy of a row, in new memory -/
theorem app_new {t e : TypeId} {sz bt : Nat} (hu : Tryd.prog.underlying t = some (.slice e)) (hinfo : ∃ i z, Tryd.prog.info? e = some i ∧ i.zero = some z ∧ i.size = sz ∧ i.bytes = bt ∧ z.cells.size = sz) (hsz : 0 < sz) (W : World) (ao : Option Addr) (m c : Nat) (cs : List Value) (hl : cs.length = m * sz) (h1 : ∀ u ∈ cs, u.oneCell' = true)
    (hr : 0 < m → ∃ ad, ao = some ad ∧ ∀ j u, cs[j]? = some u → W.cell? (ad.add j) = some u) (hm : m * bt ≤ 140737488355328) (hmm : m ≤ 1000000) (ty : TypeId) :
    ∃ g cap w', (Builtin.append_ #[t, t] ty #[.slice (some ⟨W.heap.size, 0, none⟩) 0 0, .slice ao m c]).run Tryd.prog (W.alloc (.cells #[] e)) = .ok (.slice (some ⟨g, 0, none⟩) m cap) w' ∧ w'.ownsRow W.heap.size e sz (.slice (some ⟨g, 0, none⟩) m cap) m cs ∧ Below W.heap.size W w' ∧ W.heap.size ≤ g ∧ g < w'.heap.size ∧ m ≤ cap ∧ cap ≤ maxLen := by
  obtain ⟨i, z, hi, hz, hs, hb, hzs⟩ := hinfo
  have ho : (W.alloc (.cells #[] e)).ownsRow W.heap.size e sz (.slice (some ⟨W.heap.size, 0, none⟩) 0 0) 0 [] := ⟨by simp, .inr ⟨W.heap.size, 0, #[], rfl, Nat.le_refl _, heap_alloc_new _ _, Nat.le_refl _, by unfold maxLen; omega, by simp, by simp⟩⟩
  have hb0 := below_al W (.cells #[] e)
  by_cases h0 : m = 0
  · subst h0
    have hc : cs = [] := List.eq_nil_of_length_eq_zero (by simpa using hl)
    subst hc
    exact ⟨W.heap.size, 0, _, run_append_zero (P := Tryd.prog) _ t ty e i hu hi _ ao 0 0 c (Nat.le_refl _), ho, hb0, Nat.le_refl _, by simp, Nat.le_refl _, by unfold maxLen; omega⟩
  · obtain ⟨ad, rfl, hc⟩ := hr (by omega)
    have hc2 : ∀ j u, cs[j]? = some u → (W.alloc (.cells #[] e)).cell? (ad.add j) = some u := fun j u hj => by
      have h2 := hc j u hj
      have hlt : (ad.add j).block < W.heap.size := by
        unfold World.cell? at h2
        cases hq : W.heap[(ad.add j).block]? with
        | none => rw [hq] at h2; simp at h2
        | some o => exact (Array.getElem?_eq_some_iff.1 hq).1
      exact (hb0.cell hlt).trans h2
    obtain ⟨v', w', hrun, h2, h3, h4, h5⟩ := run_append_own_at (P := Tryd.prog) (w := W.alloc (.cells #[] e)) W.heap.size t ty e i z sz bt hu hi hz hs hb hzs hsz (.slice (some ⟨W.heap.size, 0, none⟩) 0 0) 0 [] ho ad m c cs hl hc2 h1 (by unfold maxLen; omega) (by rw [Nat.zero_add]; exact hm) (by simp)
    rw [Nat.zero_add, List.nil_append] at h2
    rcases h2.2 with ⟨rfl, hn⟩ | ⟨g, cap, cur, rfl, hB, hbl, hn, hcp, hr2⟩
    · omega
    · exact ⟨g, cap, w', hrun, h2, below_gr hb0 h3 (Nat.le_refl _), hB, (Array.getElem?_eq_some_iff.1 hbl).1, hn, hcp⟩
theorem wpList_apd {t : TypeId} {ops : Array Oper} {rest : List Oper} {o : Oper} {a : Act} {Q : Exit → Act → World → Prop} (hgd : o.guard = none) (s x : Operand) (hop : o.op = .call { callee := .builtin .append, args := #[s, x], argTypes := #[t, t] })
    {W W' : World} {v u v' : Value} (hr : (Builtin.append_ #[t, t] o.type #[v, u]).run Tryd.prog W = .ok v' W') (hs : a.eval s = v) (hx : a.eval x = u)
    (hk : wpList Tryd.prog ops Q rest (a.put o.dst v') W') : wpList Tryd.prog ops Q (o :: rest) a W := by
  refine wpList_plain hgd fun K hK => ?_
  unfold Oper.wp execOp
  simp only [hop, resolve, invoke, builtin, Sem.run_bind, Sem.run_pure, Result.andThen_ok, List.map_toArray, List.map_cons, List.map_nil, hs, hx, hr]
  exact hK _ _ hk
theorem wpList_bs0 {ops : Array Oper} {rest : List Oper} {o : Oper} {a : Act} {w w' : World} {Q : Exit → Act → World → Prop} (hgd : o.guard = none) (t : TypeId) (hop : o.op = .buildSlice t 0 #[]) (r : Value) (hr : (Instr.buildSlice t 0 #[]).run Tryd.prog w = .ok r w')
    (hk : wpList Tryd.prog ops Q rest (a.put o.dst r) w') : wpList Tryd.prog ops Q (o :: rest) a w := by
  refine wpList_plain hgd fun K hK => ?_
  unfold Oper.wp execOp
  simp only [hop, Sem.run_bind, Sem.run_pure, Result.andThen_ok, List.map_toArray, List.map_cons, List.map_nil, hr]
  exact hK _ _ hk
theorem rb22 (W : World) : (Instr.buildSlice 22 0 #[]).run Tryd.prog W = .ok (.slice (some ⟨W.heap.size, 0, none⟩) 0 0) (W.alloc (.cells #[] 36)) := by kernel_rfl
theorem rb23 (W : World) : (Instr.buildSlice 23 0 #[]).run Tryd.prog W = .ok (.slice (some ⟨W.heap.size, 0, none⟩) 0 0) (W.alloc (.cells #[] 45)) := by kernel_rfl
theorem rb31 (W : World) : (Instr.buildSlice 43 0 #[]).run Tryd.prog W = .ok (.slice (some ⟨W.heap.size, 0, none⟩) 0 0) (W.alloc (.cells #[] 9)) := by kernel_rfl
theorem inf47 : ∃ i z, Tryd.prog.info? 36 = some i ∧ i.zero = some z ∧ i.size = 32 ∧ i.bytes = 32 ∧ z.cells.size = 32 := by
  have h : (Tryd.prog.info? 36).map (fun i => (i.size, i.bytes, i.zero.map (·.cells.size))) = some (32, 32, some 32) := by kernel_rfl
  obtain ⟨i, hi, he⟩ := Option.map_eq_some_iff.1 h
  simp only [Prod.mk.injEq] at he
  obtain ⟨z, hz, hzs⟩ := Option.map_eq_some_iff.1 he.2.2
  exact ⟨i, z, hi, hz, he.1, he.2.1, hzs⟩
theorem inf51 : ∃ i z, Tryd.prog.info? 45 = some i ∧ i.zero = some z ∧ i.size = 69 ∧ i.bytes = 128 ∧ z.cells.size = 69 := by
  have h : (Tryd.prog.info? 45).map (fun i => (i.size, i.bytes, i.zero.map (·.cells.size))) = some (69, 128, some 69) := by kernel_rfl
  obtain ⟨i, hi, he⟩ := Option.map_eq_some_iff.1 h
  simp only [Prod.mk.injEq] at he
  obtain ⟨z, hz, hzs⟩ := Option.map_eq_some_iff.1 he.2.2
  exact ⟨i, z, hi, hz, he.1, he.2.1, hzs⟩
theorem inf9 : ∃ i z, Tryd.prog.info? 9 = some i ∧ i.zero = some z ∧ i.size = 1 ∧ i.bytes = 16 ∧ z.cells.size = 1 := by
  have h : (Tryd.prog.info? 9).map (fun i => (i.size, i.bytes, i.zero.map (·.cells.size))) = some (1, 16, some 1) := by kernel_rfl
  obtain ⟨i, hi, he⟩ := Option.map_eq_some_iff.1 h
  simp only [Prod.mk.injEq] at he
  obtain ⟨z, hz, hzs⟩ := Option.map_eq_some_iff.1 he.2.2
  exact ⟨i, z, hi, hz, he.1, he.2.1, hzs⟩
/-- what is told of an operation, wherever its lines lie -/
def OpV.strip (o : OpV) : OpV := { o with la := none, lc := 0 }
theorem strip_eq {x y : OpV} (h : x.strip = y.strip) : x.kind = y.kind ∧ x.path = y.path ∧ x.up = y.up ∧ x.dn = y.dn ∧ x.ln = y.ln ∧ x.ts = y.ts := by
  unfold OpV.strip at h
  simp only [OpV.mk.injEq] at h
  exact ⟨h.1, h.2.1, h.2.2.1, h.2.2.2.1, h.2.2.2.2.2.1, h.2.2.2.2.2.2.2⟩
theorem opB_strip (D : List Hs) {x y : OpV} (h : x.strip = y.strip) : opB D x = opB D y := by
  obtain ⟨h1, h2, h3, h4, h5, h6⟩ := strip_eq h
  unfold opB addB killB
  rw [h1, h2, h3, h4, h5, h6]
theorem encO_strip (D : List Hs) {x y : OpV} (h : x.strip = y.strip) : encO D x = encO D y := by
  obtain ⟨h1, h2, h3, h4, h5, h6⟩ := strip_eq h
  unfold encO
  rw [h1, h2, h3, h4, h5, h6]
def Alike (l r : List OpV) : Prop := l.map OpV.strip = r.map OpV.strip
theorem Alike.cons {x y : OpV} {l r : List OpV} (h : Alike (x :: l) (y :: r)) : x.strip = y.strip ∧ Alike l r := by
  unfold Alike at h ⊢
  simpa using h
theorem Alike.len {l r : List OpV} (h : Alike l r) : l.length = r.length := by have := congrArg List.length h; simpa using this
theorem Alike.many : ∀ {l r : List OpV}, Alike l r → Oct.many l = Oct.many r
  | [], [], _ => rfl
  | [], _ :: _, h => by simp [Alike] at h
  | _ :: _, [], h => by simp [Alike] at h
  | x :: l, y :: r, h => by
    have ih := Alike.many h.cons.2
    have e := (strip_eq h.cons.1).2.2.2.2.1
    unfold Oct.many at ih ⊢
    rw [List.map_cons, List.map_cons, List.sum_cons, List.sum_cons, ih, e]
theorem Alike.all (D : List Hs) : ∀ {l r : List OpV}, Alike l r → l.all (opB D) = r.all (opB D)
  | [], [], _ => rfl
  | [], _ :: _, h => by simp [Alike] at h
  | _ :: _, [], h => by simp [Alike] at h
  | x :: l, y :: r, h => by
    rw [List.all_cons, List.all_cons, opB_strip D h.cons.1, Alike.all D h.cons.2]
theorem Alike.enc (D : List Hs) : ∀ {l r : List OpV}, Alike l r → l.flatMap (encO D) = r.flatMap (encO D)
  | [], [], _ => rfl
  | [], _ :: _, h => by simp [Alike] at h
  | _ :: _, [], h => by simp [Alike] at h
  | x :: l, y :: r, h => by
    rw [List.flatMap_cons, List.flatMap_cons, encO_strip D h.cons.1, Alike.enc D h.cons.2]
/-- two patches that say the same, wherever they lie -/
structure Tw (p q : PV) : Prop where
  au : q.au = p.au
  tm : q.tm = p.tm
  nt : q.nt = p.nt
  D : q.D = p.D
  dn : q.dn = p.dn
  on : q.on = p.on
  O : Alike p.O q.O
theorem Tw.chk {p q : PV} (h : Tw p q) : Oct.chk q = Oct.chk p := by
  unfold Oct.chk headB opsB
  rw [h.au, h.tm, h.nt, h.D, h.O.many, h.O.all, h.O.len]
theorem Tw.bytes {p q : PV} (h : Tw p q) : ptB q = ptB p := by
  unfold ptB
  rw [h.au, h.tm, h.nt, h.D, h.dn, h.on, h.O.enc]
end Go.Proofs.YtgdecjacbkicmaaDoor.Oct

/- Layer 10 (patch): Twin of the reference. -/
namespace Go.Proofs.YtgdecjacbkicmaaDoor.Oct
open Go.RowKit
set_option maxRecDepth 100000
set_option linter.unusedSimpArgs false
set_option linter.unusedVariables false

theorem own_put {w : World} {B e sz n g : Nat} {v : Value} {cs : List Value} (h : w.ownsRow B e sz v n cs) (hg : v.ownBlock = some g) (k : Nat) (x : Value) : (w.setCell ⟨g, k, none⟩ x).ownsRow B e sz v n (cs.set k x) := by
  refine ⟨by rw [List.length_set]; exact h.1, ?_⟩
  rcases h.2 with ⟨rfl, _⟩ | ⟨g', cap, cur, rfl, hB, hb, hn, hc, hsz, ht⟩
  · cases hg
  · cases hg
    have hb' : Blk w g' e cur.toList := by unfold Blk; rw [hb]
    refine .inr ⟨g', cap, (cur.toList.set k x).toArray, rfl, hB, hb'.set k x, hn, hc, by simpa using hsz, ?_⟩
    rw [List.toList_toArray, List.take_set, ht]
def cellsO (O : List OpV) : List Value := O.flatMap OpV.cells
theorem cellsO_len : ∀ {O : List OpV}, (∀ o ∈ O, o.ok) → (cellsO O).length = O.length * 69
  | [], _ => rfl
  | x :: O, h => by
    have ih := cellsO_len (O := O) (fun y hy => h y (by simp [hy]))
    show (x.cells ++ cellsO O).length = _
    rw [List.length_append, OpV.len (h x (by simp)), ih, List.length_cons]
    omega
theorem cellsO_one (O : List OpV) : ∀ u ∈ cellsO O, u.oneCell' = true := by
  intro u hu
  obtain ⟨o, _, h⟩ := List.mem_flatMap.1 hu
  exact OpV.one o u h
theorem cellsO_get : ∀ {O : List OpV} {i : Nat} {o : OpV}, (∀ o ∈ O, o.ok) → O[i]? = some o → ∀ j v, o.cells[j]? = some v → (cellsO O)[i * 69 + j]? = some v
  | [], i, o, _, h => by simp at h
  | x :: O, 0, o, hok, h => by
    simp at h
    subst h
    intro j v hv
    show (x.cells ++ cellsO O)[0 * 69 + j]? = some v
    rw [Nat.zero_mul, Nat.zero_add, List.getElem?_append_left (List.getElem?_eq_some_iff.1 hv).1]
    exact hv
  | x :: O, i + 1, o, hok, h => by
    simp at h
    intro j v hv
    have ih := cellsO_get (fun y hy => hok y (by simp [hy])) h j v hv
    show (x.cells ++ cellsO O)[(i + 1) * 69 + j]? = some v
    rw [List.getElem?_append_right (by rw [OpV.len (hok x (by simp))]; omega), OpV.len (hok x (by simp)), show (i + 1) * 69 + j - 69 = i * 69 + j by omega]
    exact ih
theorem cellsO_range {w : World} {g off : Nat} : ∀ {O : List OpV} {off : Nat}, (∀ o ∈ O, o.ok) → (∀ i o, O[i]? = some o → w.rangeAt g (off + i * 69) o.cells) → w.rangeAt g off (cellsO O)
  | [], off, _, _ => fun j v hj => by simp [cellsO] at hj
  | x :: O, off, hok, h => by
    have hl := OpV.len (hok x (by simp))
    have h0 := h 0 x rfl
    have ih := cellsO_range (O := O) (off := off + 69) (fun y hy => hok y (by simp [hy])) (fun i e he => by
      have := h (i + 1) e (by simpa using he)
      rw [show off + (i + 1) * 69 = off + 69 + i * 69 by omega] at this
      exact this)
    intro j v hj
    change (x.cells ++ cellsO O)[j]? = some v at hj
    by_cases hlt : j < 69
    · rw [List.getElem?_append_left (by omega)] at hj
      have := h0 j v hj
      simpa using this
    · rw [List.getElem?_append_right (by omega), hl] at hj
      have := ih (j - 69) v hj
      rw [show off + 69 + (j - 69) = off + j by omega] at this
      exact this
def OpV.put (o : OpV) (la : Option Addr) (lc : Nat) : OpV := { o with la := la, lc := lc }
theorem put_cells {o : OpV} (h : o.ok) (la : Option Addr) (lc : Nat) : (o.put la lc).cells = o.cells.set 68 (.slice la o.ln lc) := by
  show [iv o.kind, .string o.path] ++ (o.up.cells ++ (o.dn.cells ++ [.slice la o.ln lc])) = ([iv o.kind, .string o.path] ++ (o.up.cells ++ (o.dn.cells ++ [Value.slice o.la o.ln o.lc]))).set 68 _
  rw [List.set_append_right _ _ (by show 2 ≤ 68; omega), List.set_append_right _ _ (by rw [Vx.len h.1]; show 33 ≤ 66; omega), List.set_append_right _ _ (by rw [Vx.len h.1, Vx.len h.2.1]; show 33 ≤ 33; omega), Vx.len h.1, Vx.len h.2.1]
  rfl
theorem cellsO_put : ∀ {O : List OpV} {i : Nat} {o : OpV} (la : Option Addr) (lc : Nat), (∀ o ∈ O, o.ok) → O[i]? = some o → cellsO (O.set i (o.put la lc)) = (cellsO O).set (i * 69 + 68) (.slice la o.ln lc)
  | [], i, o, _, _, _, h => by simp at h
  | x :: O, 0, o, la, lc, hok, h => by
    simp at h
    subst h
    show (x.put la lc).cells ++ cellsO O = (x.cells ++ cellsO O).set (0 * 69 + 68) _
    rw [put_cells (hok x (by simp)), Nat.zero_mul, Nat.zero_add, List.set_append_left _ _ (by rw [OpV.len (hok x (by simp))]; omega)]
  | x :: O, i + 1, o, la, lc, hok, h => by
    simp at h
    have ih := cellsO_put la lc (fun y hy => hok y (by simp [hy])) h
    show x.cells ++ cellsO (O.set i (o.put la lc)) = (x.cells ++ cellsO O).set ((i + 1) * 69 + 68) _
    rw [ih, List.set_append_right _ _ (by rw [OpV.len (hok x (by simp))]; omega), OpV.len (hok x (by simp))]
    congr 2
    omega
/-- texts that are read, below lo or behind g -/
def StN (w : World) (lo g : Nat) (o : OpV) : Prop := Strs w o.la o.ln o.ts ∧ (0 < o.ln → ∀ x, o.la = some x → x.block < lo ∨ g < x.block)
theorem StN.other {w w' : World} {lo g k : Nat} {o : OpV} (h : StN w lo g o) (hlo : lo ≤ k) (hk : k ≤ g) (hg : w.grownBy w' (some k)) : StN w' lo g o := by
  obtain ⟨⟨h1, h2⟩, h3⟩ := h
  refine ⟨⟨h1, fun hp => ?_⟩, h3⟩
  obtain ⟨b, off, e1, e2, e3⟩ := h2 hp
  have hb : b ≠ k := by have h4 := h3 hp ⟨b, off, none⟩ e1; simp only at h4; omega
  exact ⟨b, off, e1, Nat.lt_of_lt_of_le e2 hg.size, fun i x hx => (World.cell?_of_block (a := ⟨b, off + i, none⟩) (hg.block b e2 (by simp; omega))).trans (e3 i x hx)⟩
theorem StN.below {w w' : World} {lo g : Nat} {o : OpV} (h : StN w lo g o) (hb : Below w.heap.size w w') : StN w' lo g o := ⟨h.1.below hb, h.2⟩
/-- where Twin stands: j operations have lines of their own -/
structure TwI (w : World) (p : PV) (d g oc : Nat) (q : PV) (O : List OpV) (V : World) : Prop where
  bel : Below w.heap.size w V
  bk : Blk V d 25 q.cells
  dg : d < g
  lo : w.heap.size ≤ g
  row : V.ownsRow w.heap.size 45 69 (.slice (some ⟨g, 0, none⟩) p.on oc) p.on (cellsO O)
  ok : ∀ o ∈ O, o.ok ∧ StN V w.heap.size g o
  al : Alike p.O O
  len : O.length = p.on
  deps : HsR V q.da q.dn q.D
  da : ∀ x, q.da = some x → x.block < g
theorem TwI.at {w V : World} {p q : PV} {d g oc : Nat} {O : List OpV} (h : TwI w p d g oc q O V) {i : Nat} {o : OpV} (hi : O[i]? = some o) : V.rangeAt g (i * 69) o.cells ∧ g < V.heap.size := by
  have hlt := (List.getElem?_eq_some_iff.1 hi).1
  rcases h.row.2 with ⟨h0, h1⟩ | ⟨g', cap, cur, e, hB, hb, hn, hc, hs, ht⟩
  · cases h0
  · cases e
    have hk : Blk V g 45 cur.toList := by unfold Blk; rw [hb]
    refine ⟨fun j v hv => ?_, hk.lt⟩
    have h2 := cellsO_get (fun o ho => (h.ok o ho).1) hi j v hv
    rw [← ht, List.getElem?_take] at h2
    split at h2
    · exact hk.cell h2
    · cases h2
theorem TwI.below {w V V' : World} {p q : PV} {d g oc : Nat} {O : List OpV} (h : TwI w p d g oc q O V) (hb : Below V.heap.size V V') : TwI w p d g oc q O V' := by
  refine ⟨below_tr h.bel hb, h.bk.below hb h.bk.lt, h.dg, h.lo, ?_, fun o ho => ⟨(h.ok o ho).1, (h.ok o ho).2.below hb⟩, h.al, h.len, h.deps.below hb, h.da⟩
  refine ⟨h.row.1, ?_⟩
  rcases h.row.2 with h0 | ⟨g', cap, cur, e, hB, hbl, hr⟩
  · exact .inl h0
  · exact .inr ⟨g', cap, cur, e, hB, (hb.block g' (Array.getElem?_eq_some_iff.1 hbl).1).trans hbl, hr⟩
theorem map_set_strip {O : List OpV} {i : Nat} {o : OpV} (hi : O[i]? = some o) (la : Option Addr) (lc : Nat) : (O.set i (o.put la lc)).map OpV.strip = O.map OpV.strip := by
  rw [List.map_set]
  have e : (o.put la lc).strip = o.strip := rfl
  rw [e]
  have hlt : i < (O.map OpV.strip).length := by rw [List.length_map]; exact (List.getElem?_eq_some_iff.1 hi).1
  have e2 : (O.map OpV.strip)[i] = o.strip := by
    have := (List.getElem?_eq_some_iff.1 hi).2
    rw [List.getElem_map, this]
  rw [← e2, List.set_getElem_self]
theorem TwI.turn {w V : World} {p q : PV} {d g oc : Nat} {O : List OpV} (h : TwI w p d g oc q O V) {i : Nat} {o : OpV} (hi : O[i]? = some o) (la : Option Addr) (lc : Nat) (hl : Strs V la o.ln o.ts) (hx : ∀ x, la = some x → g < x.block) (hc : o.ln ≤ lc ∧ lc ≤ maxLen) :
    TwI w p d g oc q (O.set i (o.put la lc)) (V.setCell ⟨g, i * 69 + 68, none⟩ (.slice la o.ln lc)) := by
  have hg : V.grownBy (V.setCell ⟨g, i * 69 + 68, none⟩ (.slice la o.ln lc)) (some g) := grown_setCell V g _ _
  have hok := h.ok o (List.mem_of_getElem? hi)
  refine ⟨below_gr h.bel hg h.lo, h.bk.kept hg (by have := h.dg; simp; omega), h.dg, h.lo, ?_, ?_, ?_, by rw [List.length_set]; exact h.len, ?_, h.da⟩
  · rw [cellsO_put la lc (fun x hx => (h.ok x hx).1) hi]
    exact own_put h.row rfl _ _
  · intro x hxm
    rcases List.mem_or_eq_of_mem_set hxm with hm | rfl
    · exact ⟨(h.ok x hm).1, (h.ok x hm).2.other h.lo (Nat.le_refl _) hg⟩
    · refine ⟨⟨hok.1.1, hok.1.2.1, hok.1.2.2.1, hok.1.2.2.2.1, hok.1.2.2.2.2.1, hok.1.2.2.2.2.2.1, hc⟩, StN.other (w := V) ⟨hl, fun _ x hxe => .inr (hx x hxe)⟩ h.lo (Nat.le_refl _) hg⟩
  · unfold Alike
    rw [map_set_strip hi]
    exact h.al
  · refine HsR.same h.deps hg.size fun g2 off e => ?_
    have hlt := h.da _ e
    by_cases hp : g2 < V.heap.size
    · exact hg.block g2 hp (by simp; intro e2; subst e2; exact absurd hlt (by simp))
    · rw [Array.getElem?_eq_none (by have := hg.size; simp at *; omega), Array.getElem?_eq_none (by omega)]
theorem HsR.gr {w w' : World} {a : Option Addr} {n d : Nat} {D : List Hs} (h : HsR w a n D) (hg : w.grownBy w' (some d)) (hne : ∀ x, a = some x → x.block ≠ d) : HsR w' a n D := by
  refine ⟨h.1, h.2.1, fun hp => ?_⟩
  obtain ⟨g, off, e, h1, h2⟩ := h.2.2 hp
  have h3 : g ≠ d := hne _ e
  exact ⟨g, off, e, Nat.lt_of_lt_of_le h1 hg.size, fun i x hx => rangeAt_same (h2 i x hx) (hg.block g h1 (by simp; omega))⟩
theorem TwI.ops {w V V1 V2 : World} {p q : PV} {d d2 g oc : Nat} {O : List OpV} (h : TwI w p d g oc q O V) (hd : w.heap.size ≤ d) (hd2 : w.heap.size ≤ d2 ∧ d2 < g) (hg : V.grownBy V1 (some d)) (hg2 : V1.grownBy V2 (some d2)) : OpsR V2 (some ⟨g, 0, none⟩) p.on O := by
  refine ⟨h.len, fun o ho => ⟨(h.ok o ho).1, (((h.ok o ho).2.other hd (Nat.le_of_lt h.dg) hg).other hd2.1 (Nat.le_of_lt hd2.2) hg2).1⟩, fun hp => ?_⟩
  obtain ⟨o, ho⟩ : ∃ o, O[0]? = some o := ⟨_, List.getElem?_eq_getElem (by rw [h.len]; exact hp)⟩
  have hlt := (h.at ho).2
  refine ⟨g, 0, rfl, Nat.lt_of_lt_of_le (Nat.lt_of_lt_of_le hlt hg.size) hg2.size, fun i x hx => ?_⟩
  rw [Nat.zero_add]
  exact rangeAt_same (rangeAt_same (h.at hx).1 (hg.block g hlt (by have := h.dg; simp; omega))) (hg2.block g (Nat.lt_of_lt_of_le hlt hg.size) (by have := hd2.2; simp; omega))
end Go.Proofs.YtgdecjacbkicmaaDoor.Oct

/- Layer 10 (patch): Twin of the reference, walked. -/
namespace Go.Proofs.YtgdecjacbkicmaaDoor.Oct
open Go.RowKit
set_option maxRecDepth 100000
set_option linter.unusedSimpArgs false
set_option linter.unusedVariables false

theorem TwI.free {w V : World} {p q : PV} {d g oc : Nat} {O : List OpV} (h : TwI w p d g oc q O V) (k : Nat) : V.frozen? ⟨g, k, none⟩ = false := by
  rcases h.row.2 with ⟨h0, h1⟩ | ⟨g', cap, cur, e, hB, hb, hn, hc, hs, ht⟩
  · cases h0
  · cases e
    have hk : Blk V g 45 cur.toList := by unfold Blk; rw [hb]
    exact hk.free k
def hsC (D : List Hs) : List Value := D.flatMap U
theorem hsC_len : ∀ {D : List Hs}, (∀ h ∈ D, h.length = 32) → (hsC D).length = D.length * 32
  | [], _ => rfl
  | x :: D, h => by
    have ih := hsC_len (D := D) (fun y hy => h y (by simp [hy]))
    show (U x ++ hsC D).length = _
    rw [List.length_append, U_length, h x (by simp), ih, List.length_cons]
    omega
theorem hsC_one (D : List Hs) : ∀ u ∈ hsC D, u.oneCell' = true := by
  intro u hu
  obtain ⟨o, _, h⟩ := List.mem_flatMap.1 hu
  exact U_one o u h
theorem hsC_get : ∀ {D : List Hs} {i : Nat} {x : Hs}, (∀ h ∈ D, h.length = 32) → D[i]? = some x → ∀ j v, (U x)[j]? = some v → (hsC D)[i * 32 + j]? = some v
  | [], i, o, _, h => by simp at h
  | x :: D, 0, o, hok, h => by
    simp at h
    subst h
    intro j v hv
    show (U x ++ hsC D)[0 * 32 + j]? = some v
    rw [Nat.zero_mul, Nat.zero_add, List.getElem?_append_left (List.getElem?_eq_some_iff.1 hv).1]
    exact hv
  | x :: D, i + 1, o, hok, h => by
    simp at h
    intro j v hv
    have ih := hsC_get (fun y hy => hok y (by simp [hy])) h j v hv
    show (U x ++ hsC D)[(i + 1) * 32 + j]? = some v
    rw [List.getElem?_append_right (by rw [U_length, hok x (by simp)]; omega), U_length, hok x (by simp), show (i + 1) * 32 + j - 32 = i * 32 + j by omega]
    exact ih
theorem hsC_range {w : World} {g : Nat} : ∀ {D : List Hs} {off : Nat}, (∀ h ∈ D, h.length = 32) → (∀ i x, D[i]? = some x → w.rangeAt g (off + i * 32) (U x)) → w.rangeAt g off (hsC D)
  | [], off, _, _ => fun j v hj => by simp [hsC] at hj
  | x :: D, off, hok, h => by
    have hl : (U x).length = 32 := by rw [U_length]; exact hok x (by simp)
    have h0 := h 0 x rfl
    have ih := hsC_range (D := D) (off := off + 32) (fun y hy => hok y (by simp [hy])) (fun i e he => by
      have := h (i + 1) e (by simpa using he)
      rw [show off + (i + 1) * 32 = off + 32 + i * 32 by omega] at this
      exact this)
    intro j v hj
    change (U x ++ hsC D)[j]? = some v at hj
    by_cases hlt : j < 32
    · rw [List.getElem?_append_left (by omega)] at hj
      have := h0 j v hj
      simpa using this
    · rw [List.getElem?_append_right (by omega), hl] at hj
      have := ih (j - 32) v hj
      rw [show off + 32 + (j - 32) = off + j by omega] at this
      exact this
theorem hsR_row {w : World} {B g n c : Nat} {D : List Hs} (h : w.ownsRow B 36 32 (.slice (some ⟨g, 0, none⟩) n c) n (hsC D)) (hD : ∀ h ∈ D, h.length = 32) (hn : D.length = n) : HsR w (some ⟨g, 0, none⟩) n D := by
  refine ⟨hn, hD, fun hp => ?_⟩
  rcases h.2 with ⟨h0, h1⟩ | ⟨g', cap, cur, e, hB, hb, hn2, hc, hs, ht⟩
  · cases h0
  · cases e
    have hk : Blk w g 36 cur.toList := by unfold Blk; rw [hb]
    refine ⟨g, 0, rfl, hk.lt, fun i x hi j v hv => ?_⟩
    have h2 := hsC_get hD hi j v hv
    rw [← ht, List.getElem?_take] at h2
    split at h2
    · rw [Nat.zero_add]; exact hk.cell h2
    · cases h2
theorem strs_row {w : World} {B g n c : Nat} {ts : List BA} (h : w.ownsRow B 9 1 (.slice (some ⟨g, 0, none⟩) n c) n (ts.map Value.string)) (hn : ts.length = n) : Strs w (some ⟨g, 0, none⟩) n ts := by
  refine ⟨hn, fun hp => ?_⟩
  rcases h.2 with ⟨h0, h1⟩ | ⟨g', cap, cur, e, hB, hb, hn2, hc, hs, ht⟩
  · cases h0
  · cases e
    have hk : Blk w g 9 cur.toList := by unfold Blk; rw [hb]
    refine ⟨g, 0, rfl, hk.lt, fun i x hi => ?_⟩
    have h2 : (ts.map Value.string)[i]? = some (.string x) := by rw [List.getElem?_map, hi]; rfl
    rw [← ht, List.getElem?_take] at h2
    split at h2
    · rw [Nat.zero_add]; exact hk.cell h2
    · cases h2
theorem zero25 (W : World) : (zeroValue 25).run Tryd.prog W = .ok (.agg p00.cells.toArray) W := by kernel_rfl
set_option maxHeartbeats 4000000 in
theorem twin_is (w : World) (p : PV) (h : PR w p) (hz : p.dn ≤ 1000 ∧ p.on ≤ 1000 ∧ ∀ o ∈ p.O, o.ln ≤ 1000) : Calls Tryd.prog 7 #[.agg p.cells.toArray] w fun e w' => ∃ q, e = .returned (.agg q.cells.toArray) ∧ Hid (PR w' q ∧ Tw p q) ∧ Below w.heap.size w w' := by
  have HP : Hid (PR w p ∧ p.dn ≤ 1000 ∧ p.on ≤ 1000 ∧ (∀ o ∈ p.O, o.ln ≤ 1000)) := ⟨h, hz.1, hz.2.1, hz.2.2⟩
  obtain ⟨d, hd⟩ : ∃ d, w.heap.size = d := ⟨_, rfl⟩
  obtain ⟨Wa, hWa⟩ : ∃ W, w.alloc (.cells p.cells.toArray 25) = W := ⟨_, rfl⟩
  obtain ⟨d2, hd2⟩ : ∃ d, Wa.heap.size = d := ⟨_, rfl⟩
  obtain ⟨W0, hW0⟩ : ∃ W, Wa.alloc (.cells p00.cells.toArray 25) = W := ⟨_, rfl⟩
  have ba : Below w.heap.size w Wa := by rw [← hWa]; exact below_al _ _
  have bb : Below Wa.heap.size Wa W0 := by rw [← hW0]; exact below_al _ _
  have ka : Blk Wa d 25 p.cells := by rw [← hWa, ← hd]; exact Blk.new w _ _
  have k0 : Blk W0 d 25 p.cells := ka.below bb ka.lt
  have k2 : Blk W0 d2 25 p00.cells := by rw [← hW0, ← hd2]; exact Blk.new Wa _ _
  have hdd : d < d2 := by rw [← hd2]; exact ka.lt
  have H0 : Hid (Below w.heap.size w W0 ∧ Blk W0 d 25 p.cells ∧ Blk W0 d2 25 p00.cells ∧ w.heap.size = d ∧ d < d2) := ⟨below_tr ba bb, k0, k2, hd, hdd⟩
  have hzz := zero25
  have qdn : (p.dn : Int) ≤ 1000 := by have := hz.1; omega
  have qon : (p.on : Int) ≤ 1000 := by have := hz.2.1; omega
  have c3 : W0.cell? ⟨d, 3, none⟩ = some (.slice p.da p.dn p.dc) := k0.cell rfl
  clear h hz ba bb ka k0 k2 hdd
  go_enter Tryd.func7, Tryd.ntmps7
  go_wp2_with (with_reducible change wpList _ _ _ ({ dst := some 5, op := _, type := _, pos := _, after := _, guard := _ } :: _) _ _; refine Hid.out ?_)
  show wpList _ _ _ _ _ _
  refine wpList_bs0 rfl 22 rfl _ (rb22 W0) ?_
  obtain ⟨g3, x3, W1, hr1, ho1, hb1, hlo1, hlt1, hc1⟩ := app_new (t := 22) Tryd.underlying22 inf47 (by omega) W0 p.da p.dn p.dc (hsC p.D) (by rw [hsC_len HP.out.1.deps.2.1, HP.out.1.deps.1]) (hsC_one _) (fun hp => by
    obtain ⟨gg, off, e1, e2, e3⟩ := (HP.out.1.deps.below H0.out.1).2.2 hp
    refine ⟨_, e1, fun j u hj => ?_⟩
    rw [Addr.add_lit]
    exact hsC_range HP.out.1.deps.2.1 e3 j u hj) (by have := HP.out.2.1; omega) (by have := HP.out.2.1; omega) 22
  obtain ⟨r0, hr0⟩ : ∃ r, W0.heap.size = r := ⟨_, rfl⟩
  obtain ⟨V0, hV0⟩ : ∃ V, W0.alloc (.cells #[] 36) = V := ⟨_, rfl⟩
  have v3 : V0.cell? ⟨d, 3, none⟩ = some (.slice p.da p.dn p.dc) := by rw [← hV0]; exact (H0.out.2.1.alloc _).cell rfl
  rw [hr0, hV0] at hr1
  rw [hr0, hV0]
  have H1 : Hid (Below W0.heap.size W0 W1 ∧ HsR W1 (some ⟨g3, 0, none⟩) p.dn p.D ∧ g3 < W1.heap.size ∧ p.dn ≤ x3 ∧ x3 ≤ maxLen ∧ d2 < g3) := ⟨hb1, hsR_row ho1 HP.out.1.deps.2.1 HP.out.1.deps.1, hlt1, hc1.1, hc1.2, by have := H0.out.2.2.1.lt; omega⟩
  clear ho1 hb1 hlo1 hlt1 hc1 hV0 c3 hWa hW0
  go_wp2_with (with_reducible change wpList _ _ _ ({ dst := some 8, op := _, type := _, pos := _, after := _, guard := _ } :: _) _ _; refine Hid.out ?_)
  show wpList _ _ _ _ _ _
  refine wpList_apd (t := 22) rfl (.tmp 5) (.tmp 7) rfl hr1 rfl rfl ?_
  have w3 : W1.cell? ⟨d, 3, none⟩ = some (.slice p.da p.dn p.dc) := (H0.out.2.1.below H1.out.1 H0.out.2.1.lt).cell rfl
  have f3 : W1.frozen? ⟨d, 3, none⟩ = false := (H0.out.2.1.below H1.out.1 H0.out.2.1.lt).free 3
  obtain ⟨W2, hW2⟩ : ∃ W, W1.setCell ⟨d, 3, none⟩ (.slice (some ⟨g3, 0, none⟩) p.dn x3) = W := ⟨_, rfl⟩
  obtain ⟨q, hq⟩ : ∃ q : PV, { p with da := some ⟨g3, 0, none⟩, dc := x3 } = q := ⟨_, rfl⟩
  have H2 : Hid (Below w.heap.size w W2 ∧ Blk W2 d 25 q.cells ∧ Blk W2 d2 25 p00.cells ∧ HsR W2 (some ⟨g3, 0, none⟩) p.dn p.D ∧ g3 < W2.heap.size ∧ d2 < g3) := by
    have hg : W1.grownBy W2 (some d) := by rw [← hW2]; exact grown_setCell _ _ _ _
    have hds := H0.out.2.2.2.1
    refine ⟨below_gr (below_tr H0.out.1 H1.out.1) hg (by omega), ?_, (H0.out.2.2.1.below H1.out.1 H0.out.2.2.1.lt).kept hg (by have := H0.out.2.2.2.2; simp; omega), ?_, Nat.lt_of_lt_of_le H1.out.2.2.1 hg.size, H1.out.2.2.2.2.2⟩
    · have h3 := (H0.out.2.1.below H1.out.1 H0.out.2.1.lt).set 3 (.slice (some ⟨g3, 0, none⟩) p.dn x3)
      rw [hW2] at h3
      rw [← hq]
      exact h3
    · refine HsR.same H1.out.2.1 hg.size fun g2 off e => ?_
      cases e
      exact hg.block g3 H1.out.2.2.1 (by have := H1.out.2.2.2.2.2; have := H0.out.2.2.2.2; simp; omega)
  have HQ : Hid ({ p with da := some ⟨g3, 0, none⟩, dc := x3 } = q ∧ p.dn ≤ x3 ∧ x3 ≤ maxLen) := ⟨hq, H1.out.2.2.2.1, H1.out.2.2.2.2.1⟩
  have c4 : W2.cell? ⟨d, 4, none⟩ = some (.slice p.oa p.on p.oc) := by have := H2.out.2.1.cell (i := 4) (v := .slice p.oa p.on p.oc) (by rw [← hq]; rfl); exact this
  clear hr1 v3 H1 hr0 hq
  go_wp2_with (with_reducible change wpList _ _ _ ({ dst := some 10, op := _, type := _, pos := _, after := _, guard := _ } :: _) _ _; refine Hid.out ?_)
  show wpList _ _ _ _ _ _
  clear hW2 w3 f3
  refine wpList_bs0 rfl 23 rfl _ (rb23 W2) ?_
  obtain ⟨g, xo, W3, hr3, ho3, hb3, hlo3, hlt3, hc3⟩ := app_new (t := 23) Tryd.underlying23 inf51 (by omega) W2 p.oa p.on p.oc (cellsO p.O) (by rw [cellsO_len (fun o ho => (HP.out.1.ops.2.1 o ho).1), HP.out.1.ops.1]) (cellsO_one _) (fun hp => by
    obtain ⟨gg, off, e1, e2, e3⟩ := (HP.out.1.ops.below H2.out.1).2.2 hp
    refine ⟨_, e1, fun j u hj => ?_⟩
    rw [Addr.add_lit]
    exact cellsO_range (off := off) (g := gg) (fun o ho => (HP.out.1.ops.2.1 o ho).1) e3 j u hj) (by have := HP.out.2.2.1; omega) (by have := HP.out.2.2.1; omega) 23
  obtain ⟨r2, hr2⟩ : ∃ r, W2.heap.size = r := ⟨_, rfl⟩
  obtain ⟨V2, hV2⟩ : ∃ V, W2.alloc (.cells #[] 45) = V := ⟨_, rfl⟩
  have v4 : V2.cell? ⟨d, 4, none⟩ = some (.slice p.oa p.on p.oc) := by rw [← hV2]; have := (H2.out.2.1.alloc (.cells #[] 45)).cell (i := 4) (v := .slice p.oa p.on p.oc) (by rw [← HQ.out.1]; rfl); exact this
  rw [hr2, hV2] at hr3
  rw [hr2, hV2]
  have H3 : Hid (TwI w p d g xo q p.O W3 ∧ Blk W3 d2 25 p00.cells ∧ d2 < g ∧ p.on ≤ xo ∧ xo ≤ maxLen) := by
    have hgs : W2.heap.size ≤ g := hlo3
    refine ⟨⟨below_tr H2.out.1 hb3, H2.out.2.1.below hb3 H2.out.2.1.lt, by have := H2.out.2.1.lt; omega, by have := H2.out.1.size; omega, ?_, fun o ho => ⟨(HP.out.1.ops.2.1 o ho).1, ?_⟩, rfl, HP.out.1.ops.1, ?_, ?_⟩, H2.out.2.2.1.below hb3 H2.out.2.2.1.lt, by have := H2.out.2.2.1.lt; omega, hc3.1, hc3.2⟩
    · refine ⟨ho3.1, ?_⟩
      rcases ho3.2 with h0 | ⟨g', cap, cur, e, hB, hr⟩
      · exact .inl h0
      · exact .inr ⟨g', cap, cur, e, Nat.le_trans H2.out.1.size hB, hr⟩
    · refine ⟨((HP.out.1.ops.2.1 o ho).2.below H2.out.1).below hb3, fun hp x hx => .inl ?_⟩
      obtain ⟨b, off, e1, e2, _⟩ := (HP.out.1.ops.2.1 o ho).2.2 hp
      rw [e1] at hx
      cases hx
      exact e2
    · rw [← HQ.out.1]
      exact H2.out.2.2.2.1.below hb3
    · intro x hx
      rw [← HQ.out.1] at hx
      cases hx
      have := H2.out.2.2.2.2.1
      show g3 < g
      omega
  have H6 : Hid (d < d2 ∧ d2 < g3) := ⟨H0.out.2.2.2.2, H2.out.2.2.2.2.2⟩
  clear ho3 hb3 hlo3 hlt3 hc3 hV2 c4 H2
  go_wp2_with (with_reducible change wpList _ _ _ ({ dst := some 13, op := _, type := _, pos := _, after := _, guard := _ } :: _) _ _; refine Hid.out ?_)
  show wpList _ _ _ _ _ _
  refine wpList_apd (t := 23) rfl (.tmp 10) (.tmp 12) rfl hr3 rfl rfl ?_
  clear hr3 v4 hr2
  go_wp2_with fail
  go_loopw [4] (fun u wr => ∃ i : Nat, u = iv (i : Int) ∧ (i : Int) ≤ (p.on : Int) ∧ Hid (∃ O, TwI w p d g xo q O wr ∧ Blk wr d2 25 p00.cells)) (fun u _ => p.on - (intOf u).toNat)
  case atStart => exact ⟨0, rfl, by omega, p.O, H3.out.1, H3.out.2.1⟩
  case round =>
    obtain ⟨V, hV⟩ : ∃ V, V = wr := ⟨_, rfl⟩
    subst hV
    obtain ⟨i, rfl, qi, HI0⟩ := hrel
    obtain ⟨O, hT, hk2⟩ := HI0.out
    have HI : Hid (TwI w p d g xo q O V ∧ Blk V d2 25 p00.cells) := ⟨hT, hk2⟩
    clear HI0 hT hk2
    by_cases hi : i < p.on
    · obtain ⟨x, hx⟩ : ∃ x, O[i]? = some x := ⟨_, List.getElem?_eq_getElem (by rw [HI.out.1.len]; exact hi)⟩
      have hxo := HI.out.1.ok x (List.mem_of_getElem? hx)
      have hln : x.ln ≤ 1000 := by
        have hs : (p.O.map OpV.strip)[i]? = some x.strip := by
          have h1 : p.O.map OpV.strip = O.map OpV.strip := HI.out.1.al
          rw [h1, List.getElem?_map, hx]
          rfl
        rw [List.getElem?_map] at hs
        obtain ⟨y, hy, he⟩ := Option.map_eq_some_iff.1 hs
        have := HP.out.2.2.2 y (List.mem_of_getElem? hy)
        have := (strip_eq he).2.2.2.2.1
        omega
      have HX : Hid (i < p.on ∧ O[i]? = some x ∧ x.ok ∧ StN V w.heap.size g x ∧ x.ln ≤ 1000) := ⟨hi, hx, hxo.1, hxo.2, hln⟩
      have q1 : (i : Int) < (p.on : Int) := by omega
      obtain ⟨ln, hlnn⟩ : ∃ n, x.ln = n := ⟨_, rfl⟩
      have HLN : Hid (x.ln = ln) := hlnn
      have qln : (ln : Int) ≤ 1000 := by omega
      clear hxo hx hln hi qi hlnn
      go_wp2_with (with_reducible change wpList _ _ _ ({ dst := some 22, op := _, type := _, pos := _, after := _, guard := _ } :: _) _ _; refine Hid.out ?_)
      show wpList _ _ _ _ _ _
      refine wpList_bs0 rfl 43 rfl _ (rb31 V) ?_
      obtain ⟨gt, xt, V2, hrt, hot, hbt, hlot, hltt, hct⟩ := app_new (t := 43) Tryd.underlying43 inf9 (by omega) V x.la ln x.lc (x.ts.map Value.string) (by rw [List.length_map, HX.out.2.2.1.2.2.1, HLN.out, Nat.mul_one]) (fun u hu => by obtain ⟨s, _, rfl⟩ := List.mem_map.1 hu; rfl) (fun hp => by
        obtain ⟨b, off, e1, e2, e3⟩ := HX.out.2.2.2.1.1.2 (by rw [HLN.out]; exact hp)
        refine ⟨_, e1, fun j u hj => ?_⟩
        rw [Addr.add_lit]
        rw [List.getElem?_map] at hj
        obtain ⟨s, hs, rfl⟩ := Option.map_eq_some_iff.1 hj
        exact e3 j s hs) (by have := HX.out.2.2.2.2; have := HLN.out; omega) (by have := HX.out.2.2.2.2; have := HLN.out; omega) 43
      obtain ⟨r3, hr3⟩ : ∃ r, V.heap.size = r := ⟨_, rfl⟩
      obtain ⟨V1, hV1⟩ : ∃ V1, V.alloc (.cells #[] 9) = V1 := ⟨_, rfl⟩
      have hbV1 : Below V.heap.size V V1 := by rw [← hV1]; exact below_al _ _
      have t68 : V1.cell? ⟨g, i * 69 + 68, none⟩ = some (.slice x.la ln x.lc) := by rw [← HLN.out]; exact ((HI.out.1.below hbV1).at HX.out.2.1).1 68 _ (OpV.c68 HX.out.2.2.1)
      rw [hr3, hV1] at hrt
      rw [hr3, hV1]
      have H4 : Hid (TwI w p d g xo q O V2 ∧ Blk V2 d2 25 p00.cells ∧ Strs V2 (some ⟨gt, 0, none⟩) x.ln x.ts ∧ g < gt ∧ x.ln ≤ xt ∧ xt ≤ maxLen) := ⟨HI.out.1.below hbt, HI.out.2.below hbt HI.out.2.lt, by rw [HLN.out]; exact strs_row hot (by rw [HX.out.2.2.1.2.2.1, HLN.out]), by have := (HI.out.1.at HX.out.2.1).2; omega, by rw [HLN.out]; exact hct.1, hct.2⟩
      clear hot hbt hlot hltt hct hV1 hbV1
      go_wp2_with (with_reducible change wpList _ _ _ ({ dst := some 28, op := _, type := _, pos := _, after := _, guard := _ } :: _) _ _; refine Hid.out ?_)
      show wpList _ _ _ _ _ _
      refine wpList_apd (t := 43) rfl (.tmp 22) (.tmp 27) rfl hrt rfl rfl ?_
      have u68 : V2.cell? ⟨g, i * 69 + 68, none⟩ = some (.slice x.la ln x.lc) := by rw [← HLN.out]; exact (H4.out.1.at HX.out.2.1).1 68 _ (OpV.c68 HX.out.2.2.1)
      have fz := H4.out.1.free (i * 69 + 68)
      obtain ⟨V3, hV3⟩ : ∃ V3, V2.setCell ⟨g, i * 69 + 68, none⟩ (.slice (some ⟨gt, 0, none⟩) ln xt) = V3 := ⟨_, rfl⟩
      have H5 : Hid (TwI w p d g xo q (O.set i (x.put (some ⟨gt, 0, none⟩) xt)) V3 ∧ Blk V3 d2 25 p00.cells ∧ i < p.on) := by
        have h1 := H4.out.1.turn HX.out.2.1 (some ⟨gt, 0, none⟩) xt H4.out.2.2.1 (fun y hy => by cases hy; exact H4.out.2.2.2.1) ⟨H4.out.2.2.2.2.1, H4.out.2.2.2.2.2⟩
        rw [HLN.out, hV3] at h1
        refine ⟨h1, ?_, HX.out.1⟩
        rw [← hV3]
        exact H4.out.2.1.kept (grown_setCell V2 g _ _) (by have := H3.out.2.2.1; simp; omega)
      clear hrt t68 H4 HX hr3
      go_wp2
      go_roundw
      case rel => exact ⟨i + 1, by simp, by have := H5.out.2.2; omega, _, H5.out.1, H5.out.2.1⟩
      case measure => have := H5.out.2.2; simp only [intOf]; omega
    · have q1 : (p.on : Int) ≤ (i : Int) := by omega
      have c4 : V.cell? ⟨d, 4, none⟩ = some (.slice p.oa p.on p.oc) := by have := HI.out.1.bk.cell (i := 4) (v := .slice p.oa p.on p.oc) (by rw [← HQ.out.1]; rfl); exact this
      have f4 := HI.out.1.bk.free 4
      obtain ⟨V3, hV3⟩ : ∃ V3, V.setCell ⟨d, 4, none⟩ (.slice (some ⟨g, 0, none⟩) p.on xo) = V3 := ⟨_, rfl⟩
      obtain ⟨z, hz⟩ : ∃ z : PV, { q with oa := some ⟨g, 0, none⟩, oc := xo, O := O } = z := ⟨_, rfl⟩
      have hgg : V.grownBy V3 (some d) := by rw [← hV3]; exact grown_setCell _ _ _ _
      have hqq := HQ.out.1
      have H5 : Hid (Blk V3 d 25 z.cells ∧ Blk V3 d2 25 p00.cells ∧ Below w.heap.size w V3 ∧ (∀ V4, V3.grownBy V4 (some d2) → PR V4 z) ∧ Tw p z) := by
        have hb3 : Below w.heap.size w V3 := below_gr HI.out.1.bel hgg (by have := H0.out.2.2.2.1; omega)
        have hds := H0.out.2.2.2.1
        have hdd := H0.out.2.2.2.2
        refine ⟨?_, HI.out.2.kept hgg (by simp; omega), hb3, ?_, ?_⟩
        · have h3 := HI.out.1.bk.set 4 (.slice (some ⟨g, 0, none⟩) p.on xo)
          rw [hV3] at h3
          rw [← hz, ← hqq]
          rw [← hqq] at h3
          exact h3
        · intro V4 hg4
          have h6 := H6.out
          have hdeps := (HI.out.1.deps.gr hgg (fun x hx => by
            rw [← hqq] at hx
            cases hx
            show g3 ≠ d
            omega)).gr hg4 (fun x hx => by
            rw [← hqq] at hx
            cases hx
            show g3 ≠ d2
            omega)
          have hops := HI.out.1.ops (by omega) ⟨by omega, H3.out.2.2.1⟩ hgg hg4
          rw [← hqq] at hdeps
          rw [← hz, ← hqq]
          exact ⟨hdeps, hops, ⟨HQ.out.2.1, HQ.out.2.2⟩, ⟨H3.out.2.2.2.1, H3.out.2.2.2.2⟩, HP.out.1.zd, HP.out.1.zo, HP.out.1.za, HP.out.1.zn⟩
        · rw [← hz, ← hqq]
          exact ⟨rfl, rfl, rfl, rfl, rfl, rfl, HI.out.1.al⟩
      clear hi hz hgg hqq
      go_wp2_with (with_reducible change wpList _ _ _ ({ dst := some 33, op := _, type := _, pos := _, after := _, guard := _ } :: _) _ _; refine Hid.out ?_)
      show wpList _ _ _ _ _ _
      refine wpList_load_mid rfl 25 (.tmp 1) rfl d 0 rfl z.cells _ H5.out.1.range0 Tryd.underlying25 rfl (info25 z) ?_
      go_wp2_with (with_reducible change wpList _ _ _ ({ dst := none, op := Op.store 25 _ _, type := _, pos := _, after := _, guard := _ } :: _) _ _; refine Hid.out ?_)
      show wpList _ _ _ _ _ _
      refine wpList_store_blk rfl 25 (.tmp 2) (.tmp 33) rfl d2 0 25 p00.cells z.cells rfl rfl H5.out.2.1 (by show 0 + 5 ≤ 5; omega) (info25 z) z.one ?_
      intro V4 hx4 hg4
      have H7 : Hid (Blk V4 d2 25 z.cells ∧ PR V4 z ∧ Below w.heap.size w V4 ∧ Tw p z) := ⟨blk_all hx4.out rfl, H5.out.2.2.2.1 V4 hg4.out, below_gr H5.out.2.2.1 hg4.out (by have := H0.out.2.2.2; omega), H5.out.2.2.2.2⟩
      clear hx4 hg4
      go_wp2
      exact ret_c rfl rfl rfl H7.out.1 Tryd.underlying25 rfl (info25 z) ⟨z, rfl, ⟨H7.out.2.1, H7.out.2.2.2⟩, H7.out.2.2.1⟩
end Go.Proofs.YtgdecjacbkicmaaDoor.Oct

/- Layer 10 (patch): light. -/
namespace Go.Proofs.YtgdecjacbkicmaaDoor.Oct
open Go.RowKit
set_option maxRecDepth 100000
set_option linter.unusedSimpArgs false
set_option linter.unusedVariables false

theorem lt_of_cell {w : World} {b i : Nat} {v : Value} (h : w.cell? ⟨b, i, none⟩ = some v) : b < w.heap.size := by
  rcases Nat.lt_or_ge b w.heap.size with h1 | h1
  · exact h1
  · exfalso
    unfold World.cell? at h
    simp [h1] at h
theorem yl_quoI {o : Oper} {a : Act} (V : World) (p q : Operand) (x y r : Int) (hy : y ≠ 0) (hr : IntKind.i64.wrap (x.tdiv y) = r) (hop : o.op = .binOp .quo 3 p q 3) (h1 : a.eval p = iv x) (h2 : a.eval q = iv y) : (execOp a.eval o).run Tryd.prog V = .ok (.value (iv r)) V := by
  subst hr
  unfold execOp
  simp only [hop, h1, h2, Sem.run_bind, Sem.run_pure]
  first
  | (simp [eqGuard, go_sem, Tryd.underlying3, hy]; done)
  | (go_simp; done)
theorem yl_addI {o : Oper} {a : Act} (V : World) (p q : Operand) (x y r : Int) (hr : IntKind.i64.wrap (x + y) = r) (hop : o.op = .binOp .add 3 p q 3) (h1 : a.eval p = iv x) (h2 : a.eval q = iv y) : (execOp a.eval o).run Tryd.prog V = .ok (.value (iv r)) V := by
  subst hr
  unfold execOp
  simp only [hop, h1, h2, Sem.run_bind, Sem.run_pure]
  first
  | (simp [eqGuard, go_sem, Tryd.underlying3]; done)
  | (go_simp; done)
set_option maxRecDepth 100000 in
set_option maxHeartbeats 4000000 in
theorem lg5 {Q : Exit → Act → World → Prop} {x0 x2 x5 x6 x7 x8 x9 x10 x11 x12 x13 x14 x15 x16 x17 x18 x19 x20 x21 x22 x23 x24 x25 x26 x27 x28 x29 x30 x31 x32 x33 x34 x35 x36 x37 x38 x39 x40 x41 x42 x43 x44 x45 x46 x47 x48 x49 x50 x51 x52 x53 x54 x55 x56 x57 x58 x59 x60 x61 x62 x63 x64 x65 x66 x67 x68 x69 x70 x71 x72 x73 x74 x75 x76 x77 x78 x79 x80 x81 : Value} {ds : List Deferred} {A : World} {g off n c i d ln lc : Nat} {la : Option Addr} {ps : BA} {nn r0 r1 r2 : Int}
    (HL : Hid (d < A.heap.size ∧ g < A.heap.size)) (c4 : A.cell? ⟨d, 4, none⟩ = some (.slice (some ⟨g, off, none⟩) n c)) (k68 : A.cell? ⟨g, off + i * 69 + 68, none⟩ = some (.slice la ln lc)) (k1 : A.cell? ⟨g, off + i * 69 + 1, none⟩ = some (.string ps)) (H0 : Hid (IntKind.i64.wrap ((ps.size : Int).tdiv 100) = r0)) (H1 : Hid (IntKind.i64.wrap ((ln : Int) + r0) = r1)) (H2 : Hid (IntKind.i64.wrap (nn + r1) = r2)) (q1 : (i : Int) < (n : Int)) (q2 : i < n)
    (hQ : ∀ V1, Below A.heap.size A V1 → Q .normal { tmps := #[x0, .pointer (some ⟨d, 0, none⟩), x2, iv r2, iv (i : Int), x5, x6, x7, x8, x9, x10, x11, x12, x13, x14, x15, x16, x17, x18, x19, x20, x21, x22, x23, x24, x25, x26, x27, x28, x29, x30, x31, x32, x33, iv nn, .pointer (some ⟨d, 4, none⟩), .slice (some ⟨g, off, none⟩) n c, iv (i : Int), .pointer (some ⟨g, off + i * 69, none⟩), .pointer (some ⟨g, off + i * 69 + 68, none⟩), .slice la ln lc, iv (ln : Int), .pointer (some ⟨d, 4, none⟩), .slice (some ⟨g, off, none⟩) n c, iv (i : Int), .pointer (some ⟨g, off + i * 69, none⟩), .pointer (some ⟨g, off + i * 69 + 1, none⟩), .string ps, iv (ps.size : Int), iv r0, iv r1, iv r2, x52, x53, x54, x55, x56, x57, x58, x59, x60, x61, x62, x63, x64, x65, x66, x67, x68, x69, x70, x71, x72, x73, x74, x75, x76, x77, x78, x79, x80, x81], defers := ds } V1) :
    (Code.region 5 #[{ dst := some 34, op := Op.move (Operand.tmp 3), type := 3, pos := "law.go:21", after := #[], guard := none }, { dst := some 35, op := Op.fieldAddr 25 (Operand.tmp 1) 4, type := 0, pos := "law.go:21", after := #[], guard := none }, { dst := some 36, op := Op.load 23 (Operand.tmp 35), type := 23, pos := "law.go:21", after := #[{ on := 1, ground := Ground.data }], guard := none }, { dst := some 37, op := Op.move (Operand.tmp 4), type := 3, pos := "law.go:21", after := #[], guard := none }, { dst := some 38, op := Op.indexAddr 23 (Operand.tmp 36) (Operand.tmp 37), type := 0, pos := "law.go:21", after := #[{ on := 2, ground := Ground.data }, { on := 3, ground := Ground.data }], guard := none }, { dst := some 39, op := Op.fieldAddr 45 (Operand.tmp 38) 4, type := 0, pos := "law.go:21", after := #[{ on := 4, ground := Ground.data }], guard := none }, { dst := some 40, op := Op.load 43 (Operand.tmp 39), type := 43, pos := "law.go:21", after := #[{ on := 5, ground := Ground.data }], guard := none }, { dst := some 41, op := Op.call { callee := Callee.builtin Builtin.len, args := #[Operand.tmp 40], argTypes := #[43] }, type := 3, pos := "law.go:21", after := #[{ on := 6, ground := Ground.data }], guard := none }, { dst := some 42, op := Op.fieldAddr 25 (Operand.tmp 1) 4, type := 0, pos := "law.go:21", after := #[], guard := none }, { dst := some 43, op := Op.load 23 (Operand.tmp 42), type := 23, pos := "law.go:21", after := #[{ on := 8, ground := Ground.data }], guard := none }, { dst := some 44, op := Op.move (Operand.tmp 4), type := 3, pos := "law.go:21", after := #[], guard := none }, { dst := some 45, op := Op.indexAddr 23 (Operand.tmp 43) (Operand.tmp 44), type := 0, pos := "law.go:21", after := #[{ on := 9, ground := Ground.data }, { on := 10, ground := Ground.data }], guard := none }, { dst := some 46, op := Op.fieldAddr 45 (Operand.tmp 45) 1, type := 0, pos := "law.go:21", after := #[{ on := 11, ground := Ground.data }], guard := none }, { dst := some 47, op := Op.load 9 (Operand.tmp 46), type := 9, pos := "law.go:21", after := #[{ on := 12, ground := Ground.data }], guard := none }, { dst := some 48, op := Op.call { callee := Callee.builtin Builtin.len, args := #[Operand.tmp 47], argTypes := #[9] }, type := 3, pos := "law.go:21", after := #[{ on := 13, ground := Ground.data }], guard := none }, { dst := some 49, op := Op.binOp BinOp.quo 3 (Operand.tmp 48) (Operand.const (Value.int IntKind.i64 100)) 3, type := 3, pos := "law.go:21", after := #[{ on := 14, ground := Ground.data }], guard := none }, { dst := some 50, op := Op.binOp BinOp.add 3 (Operand.tmp 41) (Operand.tmp 49) 3, type := 3, pos := "law.go:21", after := #[{ on := 7, ground := Ground.data }, { on := 15, ground := Ground.data }], guard := none }, { dst := some 51, op := Op.binOp BinOp.add 3 (Operand.tmp 34) (Operand.tmp 50) 3, type := 3, pos := "law.go:21", after := #[{ on := 0, ground := Ground.data }, { on := 16, ground := Ground.data }], guard := none }, { dst := some 3, op := Op.assign (Operand.tmp 51), type := 3, pos := "law.go:21", after := #[{ on := 17, ground := Ground.data }, { on := 0, ground := Ground.phase }, { on := 1, ground := Ground.phase }, { on := 2, ground := Ground.phase }, { on := 3, ground := Ground.phase }, { on := 4, ground := Ground.phase }, { on := 5, ground := Ground.phase }, { on := 6, ground := Ground.phase }, { on := 7, ground := Ground.phase }, { on := 8, ground := Ground.phase }, { on := 9, ground := Ground.phase }, { on := 10, ground := Ground.phase }, { on := 11, ground := Ground.phase }, { on := 12, ground := Ground.phase }, { on := 13, ground := Ground.phase }, { on := 14, ground := Ground.phase }, { on := 15, ground := Ground.phase }, { on := 16, ground := Ground.phase }, { on := 17, ground := Ground.phase }], guard := none }] true).wp Tryd.prog Q { tmps := #[x0, .pointer (some ⟨d, 0, none⟩), x2, iv nn, iv (i : Int), x5, x6, x7, x8, x9, x10, x11, x12, x13, x14, x15, x16, x17, x18, x19, x20, x21, x22, x23, x24, x25, x26, x27, x28, x29, x30, x31, x32, x33, x34, x35, x36, x37, x38, x39, x40, x41, x42, x43, x44, x45, x46, x47, x48, x49, x50, x51, x52, x53, x54, x55, x56, x57, x58, x59, x60, x61, x62, x63, x64, x65, x66, x67, x68, x69, x70, x71, x72, x73, x74, x75, x76, x77, x78, x79, x80, x81], defers := ds } A := by
  refine Code.wp_mono (Q := fun x a' w' => match x with | .normal => Q .normal a' w' | _ => False) (by intro x a' w' h; cases x <;> first | exact h | exact h.elim) ?_
  refine wp_region_held (S := fun V => Below A.heap.size A V) (by kernel_rfl) ?_
  have hS0 : Hid (Below A.heap.size A A.drew) := below_drew0 A
  change wpAnyH Tryd.prog .any _ _ (fun V => Below A.heap.size A V) 19 (Array.replicate 19 false) _ A.drew
  obtain ⟨V0, hV0⟩ : ∃ V0, A.drew = V0 := ⟨_, rfl⟩
  rw [hV0]
  rw [hV0] at hS0
  clear hV0
  refine wpAnyH_take (i := 0) (oi := { dst := some 34, op := Op.move (Operand.tmp 3), type := 3, pos := "law.go:21", after := #[], guard := none }) (v := iv nn) rfl (by kernel_rfl) (by kernel_rfl) (by kernel_rfl) (fun _ _ _ h => h.elim) (Or.inl ⟨by rfl, ?y1⟩) hS0.out ?_
  case y1 =>
    intro V hV
    go_simp
  simp only [Act.put, List.setIfInBounds_toArray, List.set_cons_zero, List.set_cons_succ]
  refine wpAnyH_take (i := 1) (oi := { dst := some 35, op := Op.fieldAddr 25 (Operand.tmp 1) 4, type := 0, pos := "law.go:21", after := #[], guard := none }) (v := .pointer (some ⟨d, 4, none⟩)) rfl (by kernel_rfl) (by kernel_rfl) (by kernel_rfl) (fun _ _ _ h => h.elim) (Or.inl ⟨by rfl, ?y2⟩) hS0.out ?_
  case y2 =>
    intro V hV
    go_simp
  simp only [Act.put, List.setIfInBounds_toArray, List.set_cons_zero, List.set_cons_succ]
  refine wpAnyH_take (i := 2) (oi := { dst := some 36, op := Op.load 23 (Operand.tmp 35), type := 23, pos := "law.go:21", after := #[{ on := 1, ground := Ground.data }], guard := none }) (v := .slice (some ⟨g, off, none⟩) n c) rfl (by kernel_rfl) (by kernel_rfl) (by kernel_rfl) (fun _ _ _ h => h.elim) (Or.inl ⟨by rfl, ?y3⟩) hS0.out ?_
  case y3 =>
    intro V hV
    have hc : V.cell? ⟨d, 4, none⟩ = some (.slice (some ⟨g, off, none⟩) n c) := ((show Below A.heap.size A V from hV).cell (p := ⟨d, 4, none⟩) HL.out.1).trans c4
    go_simp
  simp only [Act.put, List.setIfInBounds_toArray, List.set_cons_zero, List.set_cons_succ]
  refine wpAnyH_take (i := 3) (oi := { dst := some 37, op := Op.move (Operand.tmp 4), type := 3, pos := "law.go:21", after := #[], guard := none }) (v := iv (i : Int)) rfl (by kernel_rfl) (by kernel_rfl) (by kernel_rfl) (fun _ _ _ h => h.elim) (Or.inl ⟨by rfl, ?y4⟩) hS0.out ?_
  case y4 =>
    intro V hV
    go_simp
  simp only [Act.put, List.setIfInBounds_toArray, List.set_cons_zero, List.set_cons_succ]
  refine wpAnyH_take (i := 4) (oi := { dst := some 38, op := Op.indexAddr 23 (Operand.tmp 36) (Operand.tmp 37), type := 0, pos := "law.go:21", after := #[{ on := 2, ground := Ground.data }, { on := 3, ground := Ground.data }], guard := none }) (v := .pointer (some ⟨g, off + i * 69, none⟩)) rfl (by kernel_rfl) (by kernel_rfl) (by kernel_rfl) (fun _ _ _ h => h.elim) (Or.inl ⟨by rfl, ?y5⟩) hS0.out ?_
  case y5 =>
    intro V hV
    have hcmp := q1
    have hcmp2 := q2
    go_simp
  simp only [Act.put, List.setIfInBounds_toArray, List.set_cons_zero, List.set_cons_succ]
  refine wpAnyH_take (i := 5) (oi := { dst := some 39, op := Op.fieldAddr 45 (Operand.tmp 38) 4, type := 0, pos := "law.go:21", after := #[{ on := 4, ground := Ground.data }], guard := none }) (v := .pointer (some ⟨g, off + i * 69 + 68, none⟩)) rfl (by kernel_rfl) (by kernel_rfl) (by kernel_rfl) (fun _ _ _ h => h.elim) (Or.inl ⟨by rfl, ?y6⟩) hS0.out ?_
  case y6 =>
    intro V hV
    go_simp
  simp only [Act.put, List.setIfInBounds_toArray, List.set_cons_zero, List.set_cons_succ]
  refine wpAnyH_take (i := 6) (oi := { dst := some 40, op := Op.load 43 (Operand.tmp 39), type := 43, pos := "law.go:21", after := #[{ on := 5, ground := Ground.data }], guard := none }) (v := .slice la ln lc) rfl (by kernel_rfl) (by kernel_rfl) (by kernel_rfl) (fun _ _ _ h => h.elim) (Or.inl ⟨by rfl, ?y7⟩) hS0.out ?_
  case y7 =>
    intro V hV
    have hc : V.cell? ⟨g, off + i * 69 + 68, none⟩ = some (.slice la ln lc) := ((show Below A.heap.size A V from hV).cell (p := ⟨g, off + i * 69 + 68, none⟩) HL.out.2).trans k68
    go_simp
  simp only [Act.put, List.setIfInBounds_toArray, List.set_cons_zero, List.set_cons_succ]
  refine wpAnyH_take (i := 7) (oi := { dst := some 41, op := Op.call { callee := Callee.builtin Builtin.len, args := #[Operand.tmp 40], argTypes := #[43] }, type := 3, pos := "law.go:21", after := #[{ on := 6, ground := Ground.data }], guard := none }) (v := iv (ln : Int)) rfl (by kernel_rfl) (by kernel_rfl) (by kernel_rfl) (fun _ _ _ h => h.elim) (Or.inl ⟨by rfl, ?y8⟩) hS0.out ?_
  case y8 =>
    intro V hV
    go_simp
  simp only [Act.put, List.setIfInBounds_toArray, List.set_cons_zero, List.set_cons_succ]
  refine wpAnyH_take (i := 8) (oi := { dst := some 42, op := Op.fieldAddr 25 (Operand.tmp 1) 4, type := 0, pos := "law.go:21", after := #[], guard := none }) (v := .pointer (some ⟨d, 4, none⟩)) rfl (by kernel_rfl) (by kernel_rfl) (by kernel_rfl) (fun _ _ _ h => h.elim) (Or.inl ⟨by rfl, ?y9⟩) hS0.out ?_
  case y9 =>
    intro V hV
    go_simp
  simp only [Act.put, List.setIfInBounds_toArray, List.set_cons_zero, List.set_cons_succ]
  refine wpAnyH_take (i := 9) (oi := { dst := some 43, op := Op.load 23 (Operand.tmp 42), type := 23, pos := "law.go:21", after := #[{ on := 8, ground := Ground.data }], guard := none }) (v := .slice (some ⟨g, off, none⟩) n c) rfl (by kernel_rfl) (by kernel_rfl) (by kernel_rfl) (fun _ _ _ h => h.elim) (Or.inl ⟨by rfl, ?y10⟩) hS0.out ?_
  case y10 =>
    intro V hV
    have hc : V.cell? ⟨d, 4, none⟩ = some (.slice (some ⟨g, off, none⟩) n c) := ((show Below A.heap.size A V from hV).cell (p := ⟨d, 4, none⟩) HL.out.1).trans c4
    go_simp
  simp only [Act.put, List.setIfInBounds_toArray, List.set_cons_zero, List.set_cons_succ]
  refine wpAnyH_take (i := 10) (oi := { dst := some 44, op := Op.move (Operand.tmp 4), type := 3, pos := "law.go:21", after := #[], guard := none }) (v := iv (i : Int)) rfl (by kernel_rfl) (by kernel_rfl) (by kernel_rfl) (fun _ _ _ h => h.elim) (Or.inl ⟨by rfl, ?y11⟩) hS0.out ?_
  case y11 =>
    intro V hV
    go_simp
  simp only [Act.put, List.setIfInBounds_toArray, List.set_cons_zero, List.set_cons_succ]
  refine wpAnyH_take (i := 11) (oi := { dst := some 45, op := Op.indexAddr 23 (Operand.tmp 43) (Operand.tmp 44), type := 0, pos := "law.go:21", after := #[{ on := 9, ground := Ground.data }, { on := 10, ground := Ground.data }], guard := none }) (v := .pointer (some ⟨g, off + i * 69, none⟩)) rfl (by kernel_rfl) (by kernel_rfl) (by kernel_rfl) (fun _ _ _ h => h.elim) (Or.inl ⟨by rfl, ?y12⟩) hS0.out ?_
  case y12 =>
    intro V hV
    have hcmp := q1
    have hcmp2 := q2
    go_simp
  simp only [Act.put, List.setIfInBounds_toArray, List.set_cons_zero, List.set_cons_succ]
  refine wpAnyH_take (i := 12) (oi := { dst := some 46, op := Op.fieldAddr 45 (Operand.tmp 45) 1, type := 0, pos := "law.go:21", after := #[{ on := 11, ground := Ground.data }], guard := none }) (v := .pointer (some ⟨g, off + i * 69 + 1, none⟩)) rfl (by kernel_rfl) (by kernel_rfl) (by kernel_rfl) (fun _ _ _ h => h.elim) (Or.inl ⟨by rfl, ?y13⟩) hS0.out ?_
  case y13 =>
    intro V hV
    go_simp
  simp only [Act.put, List.setIfInBounds_toArray, List.set_cons_zero, List.set_cons_succ]
  refine wpAnyH_take (i := 13) (oi := { dst := some 47, op := Op.load 9 (Operand.tmp 46), type := 9, pos := "law.go:21", after := #[{ on := 12, ground := Ground.data }], guard := none }) (v := .string ps) rfl (by kernel_rfl) (by kernel_rfl) (by kernel_rfl) (fun _ _ _ h => h.elim) (Or.inl ⟨by rfl, ?y14⟩) hS0.out ?_
  case y14 =>
    intro V hV
    have hc : V.cell? ⟨g, off + i * 69 + 1, none⟩ = some (.string ps) := ((show Below A.heap.size A V from hV).cell (p := ⟨g, off + i * 69 + 1, none⟩) HL.out.2).trans k1
    go_simp
  simp only [Act.put, List.setIfInBounds_toArray, List.set_cons_zero, List.set_cons_succ]
  refine wpAnyH_take (i := 14) (oi := { dst := some 48, op := Op.call { callee := Callee.builtin Builtin.len, args := #[Operand.tmp 47], argTypes := #[9] }, type := 3, pos := "law.go:21", after := #[{ on := 13, ground := Ground.data }], guard := none }) (v := iv (ps.size : Int)) rfl (by kernel_rfl) (by kernel_rfl) (by kernel_rfl) (fun _ _ _ h => h.elim) (Or.inl ⟨by rfl, ?y15⟩) hS0.out ?_
  case y15 =>
    intro V hV
    go_simp
  simp only [Act.put, List.setIfInBounds_toArray, List.set_cons_zero, List.set_cons_succ]
  refine wpAnyH_take (i := 15) (oi := { dst := some 49, op := Op.binOp BinOp.quo 3 (Operand.tmp 48) (Operand.const (Value.int IntKind.i64 100)) 3, type := 3, pos := "law.go:21", after := #[{ on := 14, ground := Ground.data }], guard := none }) (v := iv r0) rfl (by kernel_rfl) (by kernel_rfl) (by kernel_rfl) (fun _ _ _ h => h.elim) (Or.inl ⟨by rfl, ?y16⟩) hS0.out ?_
  case y16 =>
    intro V hV
    exact yl_quoI V _ _ _ _ r0 (by decide) H0.out rfl rfl rfl
  simp only [Act.put, List.setIfInBounds_toArray, List.set_cons_zero, List.set_cons_succ]
  refine wpAnyH_take (i := 16) (oi := { dst := some 50, op := Op.binOp BinOp.add 3 (Operand.tmp 41) (Operand.tmp 49) 3, type := 3, pos := "law.go:21", after := #[{ on := 7, ground := Ground.data }, { on := 15, ground := Ground.data }], guard := none }) (v := iv r1) rfl (by kernel_rfl) (by kernel_rfl) (by kernel_rfl) (fun _ _ _ h => h.elim) (Or.inl ⟨by rfl, ?y17⟩) hS0.out ?_
  case y17 =>
    intro V hV
    exact yl_addI V _ _ _ _ r1 H1.out rfl rfl rfl
  simp only [Act.put, List.setIfInBounds_toArray, List.set_cons_zero, List.set_cons_succ]
  refine wpAnyH_take (i := 17) (oi := { dst := some 51, op := Op.binOp BinOp.add 3 (Operand.tmp 34) (Operand.tmp 50) 3, type := 3, pos := "law.go:21", after := #[{ on := 0, ground := Ground.data }, { on := 16, ground := Ground.data }], guard := none }) (v := iv r2) rfl (by kernel_rfl) (by kernel_rfl) (by kernel_rfl) (fun _ _ _ h => h.elim) (Or.inl ⟨by rfl, ?y18⟩) hS0.out ?_
  case y18 =>
    intro V hV
    exact yl_addI V _ _ _ _ r2 H2.out rfl rfl rfl
  simp only [Act.put, List.setIfInBounds_toArray, List.set_cons_zero, List.set_cons_succ]
  refine wpAnyH_take (i := 18) (oi := { dst := some 3, op := Op.assign (Operand.tmp 51), type := 3, pos := "law.go:21", after := #[{ on := 17, ground := Ground.data }, { on := 0, ground := Ground.phase }, { on := 1, ground := Ground.phase }, { on := 2, ground := Ground.phase }, { on := 3, ground := Ground.phase }, { on := 4, ground := Ground.phase }, { on := 5, ground := Ground.phase }, { on := 6, ground := Ground.phase }, { on := 7, ground := Ground.phase }, { on := 8, ground := Ground.phase }, { on := 9, ground := Ground.phase }, { on := 10, ground := Ground.phase }, { on := 11, ground := Ground.phase }, { on := 12, ground := Ground.phase }, { on := 13, ground := Ground.phase }, { on := 14, ground := Ground.phase }, { on := 15, ground := Ground.phase }, { on := 16, ground := Ground.phase }, { on := 17, ground := Ground.phase }], guard := none }) (v := iv r2) rfl (by kernel_rfl) (by kernel_rfl) (by kernel_rfl) (fun _ _ _ h => h.elim) (Or.inl ⟨by rfl, ?y19⟩) hS0.out ?_
  case y19 =>
    intro V hV
    go_simp
  simp only [Act.put, List.setIfInBounds_toArray, List.set_cons_zero, List.set_cons_succ]
  refine wpAnyH_done (by kernel_rfl) ?_ _
  exact hQ V0 hS0.out
def LT (p : PV) : Prop := p.dn ≤ 300 ∧ p.on ≤ 300 ∧ ∀ o ∈ p.O, o.ln ≤ 300
theorem tdn (a : Nat) (c : Nat) : ((a : Int).tdiv (c : Int)) = ((a / c : Nat) : Int) := by rw [Int.tdiv_eq_ediv_of_nonneg (by omega)]; rfl
def LgI (p : PV) (i N : Nat) : Prop := p.dn ≤ N ∧ p.on ≤ N ∧ ∀ j o, j < i → p.O[j]? = some o → o.ln ≤ N
set_option maxHeartbeats 4000000 in
theorem light_is (w : World) (p : PV) (h : PR w p) : Calls Tryd.prog 4 #[.agg p.cells.toArray] w fun e w' => ∃ B, e = .returned (.bool B) ∧ Hid (B = true → LT p) ∧ Below w.heap.size w w' := by
  obtain ⟨d, hd⟩ : ∃ d, w.heap.size = d := ⟨_, rfl⟩
  obtain ⟨W, hW⟩ : ∃ W, w.alloc (.cells p.cells.toArray 25) = W := ⟨_, rfl⟩
  have hk : Blk W d 25 p.cells := by rw [← hW, ← hd]; exact Blk.new w _ _
  have HP : Hid (PR w p ∧ Blk W d 25 p.cells ∧ Below w.heap.size w W) := ⟨h, hk, by rw [← hW]; exact below_al _ _⟩
  have c0 : W.cell? ⟨d, 0, none⟩ = some (.string p.au) := hk.cell rfl
  have c2 : W.cell? ⟨d, 2, none⟩ = some (.string p.nt) := hk.cell rfl
  have c3 : W.cell? ⟨d, 3, none⟩ = some (.slice p.da p.dn p.dc) := hk.cell rfl
  have c4 : W.cell? ⟨d, 4, none⟩ = some (.slice p.oa p.on p.oc) := hk.cell rfl
  have qa : (p.au.size : Int) ≤ 140737488355328 := by have := h.za; omega
  have qb : (p.nt.size : Int) ≤ 140737488355328 := by have := h.zn; omega
  have qc : (p.dn : Int) ≤ 140737488355328 := by have := h.zd; omega
  have qo : (p.on : Int) ≤ 140737488355328 := by have := h.zo; omega
  clear h hk
  go_enter Tryd.func4, Tryd.ntmps4
  go_wp2
  clear hW hd
  go_loopw [4, 3] (fun u s wr => ∃ i N : Nat, u = iv (i : Int) ∧ s = iv (N : Int) ∧ (i : Int) ≤ (p.on : Int) ∧ (N : Int) ≤ 500000000000000 ∧ Hid (LgI p i N ∧ Below W.heap.size W wr)) (fun u _ _ => p.on - (intOf u).toNat)
  case atStart => exact ⟨0, p.au.size / 100 + p.nt.size / 100 + p.dn + p.on, rfl, by first | (congr 1; done) | (congr 1; omega), by omega, by omega, ⟨by omega, by omega, fun j o hj => absurd hj (by omega)⟩, Below.refl _ _⟩
  case round =>
    obtain ⟨V, hV⟩ : ∃ V, V = wr := ⟨_, rfl⟩
    subst hV
    obtain ⟨i, N, rfl, rfl, qi, qN, HI⟩ := hrel
    clear c0 c2 c3 c4 qa qb qc
    have c4 : V.cell? ⟨d, 4, none⟩ = some (.slice p.oa p.on p.oc) := (HP.out.2.1.below HI.out.2 HP.out.2.1.lt).cell rfl
    by_cases hi : i < p.on
    · have q1 : (i : Int) < (p.on : Int) := by omega
      have g1 : decide ((i : Int) < (p.on : Int)) = true := decide_eq_true q1
      by_cases hN : N ≤ 300
      · have q2 : (N : Int) ≤ 300 := by omega
        have g2 : decide ((N : Int) ≤ 300) = true := decide_eq_true q2
        have hos := (HP.out.1.below (below_tr HP.out.2.2 HI.out.2)).ops
        obtain ⟨x, hx⟩ : ∃ x, p.O[i]? = some x := ⟨_, List.getElem?_eq_getElem (by rw [hos.1]; exact hi)⟩
        obtain ⟨g, off, hoa, hg, hel⟩ := hos.2.2 (by omega)
        have hxo := hos.2.1 x (List.mem_of_getElem? hx)
        have hr := hel i x hx
        have k68 : V.cell? ⟨g, off + i * 69 + 68, none⟩ = some (.slice x.la x.ln x.lc) := hr 68 _ (OpV.c68 hxo.1)
        have k1 : V.cell? ⟨g, off + i * 69 + 1, none⟩ = some (.string x.path) := hr 1 _ x.c1
        obtain ⟨ln, hln⟩ : ∃ n, x.ln = n := ⟨_, rfl⟩
        rw [hln] at k68
        have z1 := hxo.1.2.2.2.1
        have z2 := hxo.1.2.2.2.2.1
        have HL : Hid (d < V.heap.size ∧ g < V.heap.size) := ⟨lt_of_cell c4, hg⟩
        have H0 : Hid (IntKind.i64.wrap ((x.path.size : Int).tdiv 100) = ((x.path.size / 100 : Nat) : Int)) := by
          show _ = _
          rw [show (100 : Int) = ((100 : Nat) : Int) from rfl, tdn, IntKind.wrap_i64]
          omega
        have H1 : Hid (IntKind.i64.wrap ((ln : Int) + ((x.path.size / 100 : Nat) : Int)) = ((ln + x.path.size / 100 : Nat) : Int)) := by
          show _ = _
          rw [IntKind.wrap_i64]
          omega
        have H2 : Hid (IntKind.i64.wrap ((N : Int) + ((ln + x.path.size / 100 : Nat) : Int)) = ((N + (ln + x.path.size / 100) : Nat) : Int)) := by
          show _ = _
          rw [IntKind.wrap_i64]
          omega
        have HX : Hid (i < p.on ∧ p.O[i]? = some x ∧ x.ok ∧ x.ln = ln ∧ ln ≤ 140737488355328 ∧ p.oa = some ⟨g, off, none⟩) := ⟨hi, hx, hxo.1, hln, by omega, hoa⟩
        obtain ⟨N2, hN2⟩ : ∃ n, N + (ln + x.path.size / 100) = n := ⟨_, rfl⟩
        rw [hN2] at H2
        have HN2 : Hid (N ≤ N2 ∧ ln ≤ N2 ∧ N2 ≤ 300000000000000) := ⟨by omega, by omega, by omega⟩
        have c4' := c4
        rw [hoa] at c4'
        clear c4 hx hel hr hos hxo hoa hN hN2 hln z1 z2 qi hg
        go_wp2_with fail
        refine lg5 HL c4' k68 k1 H0 H1 H2 q1 hi ?_
        intro V2 hb2
        have HV2 : Hid (Below W.heap.size W V2) := below_tr HI.out.2 hb2
        have HL2 : Hid (LgI p (i + 1) N2) := by
          have h1 := HI.out.1
          have h2 := HN2.out
          refine ⟨Nat.le_trans h1.1 h2.1, Nat.le_trans h1.2.1 h2.1, fun j o hj ho => ?_⟩
          by_cases hji : j = i
          · subst hji
            rw [HX.out.2.1] at ho
            cases ho
            rw [HX.out.2.2.2.1]
            exact h2.2.1
          · exact Nat.le_trans (h1.2.2 j o (by omega) ho) h2.1
        have qN2 : (N2 : Int) ≤ 500000000000000 := by have := HN2.out; omega
        have qln : (ln : Int) ≤ 140737488355328 := by have := HX.out.2.2.2.2.1; omega
        clear hb2 HI c4' k68 k1 H0 H1 H2 HL g1 g2 q2 hi
        go_wp2_with fail
        go_loopw [5, 3] (fun u s wr => ∃ k N : Nat, u = iv (k : Int) ∧ s = iv (N : Int) ∧ (k : Int) ≤ (ln : Int) ∧ (N : Int) ≤ 500000000000000 ∧ Hid (LgI p (i + 1) N ∧ Below W.heap.size W wr)) (fun u _ _ => ln - (intOf u).toNat)
        case atStart => exact ⟨0, N2, rfl, rfl, by omega, qN2, HL2.out, HV2.out⟩
        case round =>
          obtain ⟨V3, hV3⟩ : ∃ V, V = wr := ⟨_, rfl⟩
          subst hV3
          obtain ⟨k, M, rfl, rfl, qk, qM, HI⟩ := hrel
          clear qN2 HV2 HL2
          have c4 : V3.cell? ⟨d, 4, none⟩ = some (.slice (some ⟨g, off, none⟩) p.on p.oc) := by rw [← HX.out.2.2.2.2.2]; exact (HP.out.2.1.below HI.out.2 HP.out.2.1.lt).cell rfl
          have hos := (HP.out.1.below (below_tr HP.out.2.2 HI.out.2)).ops
          obtain ⟨g2, off2, hoa, hg, hel⟩ := hos.2.2 (by have := HX.out.1; omega)
          rw [HX.out.2.2.2.2.2] at hoa
          cases hoa
          have hr := hel i x HX.out.2.1
          have hxs := (hos.2.1 x (List.mem_of_getElem? HX.out.2.1)).2
          have k68 : V3.cell? ⟨g, off + i * 69 + 68, none⟩ = some (.slice x.la ln x.lc) := by rw [← HX.out.2.2.2.1]; exact hr 68 _ (OpV.c68 HX.out.2.2.1)
          by_cases hk : k < ln
          · have q3 : (k : Int) < (ln : Int) := by omega
            have g3 : decide ((k : Int) < (ln : Int)) = true := decide_eq_true q3
            by_cases hM : M ≤ 300
            · have q4 : (M : Int) ≤ 300 := by omega
              have g4 : decide ((M : Int) ≤ 300) = true := decide_eq_true q4
              obtain ⟨t, ht⟩ : ∃ t, x.ts[k]? = some t := ⟨_, List.getElem?_eq_getElem (by rw [HX.out.2.2.1.2.2.1, HX.out.2.2.2.1]; exact hk)⟩
              have hts := HX.out.2.2.1.2.2.2.2.2.1 t (List.mem_of_getElem? ht)
              obtain ⟨b, o2, hla, hb, hse⟩ := hxs.2 (by rw [HX.out.2.2.2.1]; omega)
              have kt : V3.cell? ⟨b, o2 + k, none⟩ = some (.string t) := hse k t ht
              rw [hla] at k68
              have qt : (t.size : Int) ≤ 140737488355328 := by omega
              have HN3 : Hid (k < ln ∧ LgI p (i + 1) (M + t.size / 300) ∧ Below W.heap.size W V3 ∧ M + t.size / 300 ≤ 500000000000000) := ⟨hk, ⟨Nat.le_trans HI.out.1.1 (Nat.le_add_right _ _), Nat.le_trans HI.out.1.2.1 (Nat.le_add_right _ _), fun j o hj ho => Nat.le_trans (HI.out.1.2.2 j o hj ho) (Nat.le_add_right _ _)⟩, HI.out.2, by omega⟩
              clear hos hel hr hxs hg hk hM hts hla hb hse ht qk qM HI
              go_wp2
              go_roundw
              case rel => exact ⟨k + 1, M + t.size / 300, by simp, by first | (congr 1; done) | (congr 1; omega), by have := HN3.out.1; omega, by have := HN3.out.2.2.2; omega, HN3.out.2.1, HN3.out.2.2.1⟩
              case measure => have := HN3.out.1; simp only [intOf]; omega
            · have q4 : 300 < (M : Int) := by omega
              have g4 : decide ((M : Int) ≤ 300) = false := decide_eq_false (by omega)
              have HN3 : Hid (i < p.on ∧ LgI p (i + 1) M ∧ Below W.heap.size W V3) := ⟨HX.out.1, HI.out.1, HI.out.2⟩
              clear hos hel hr hxs hg hk hM qk HI
              go_wp2
              go_roundw
              case rel => exact ⟨i + 1, M, by simp, rfl, by have := HN3.out.1; omega, qM, HN3.out.2.1, HN3.out.2.2⟩
              case measure => have := HN3.out.1; simp only [intOf]; omega
          · have q3 : (ln : Int) ≤ (k : Int) := by omega
            have g3 : decide ((k : Int) < (ln : Int)) = false := decide_eq_false (by omega)
            have HN3 : Hid (i < p.on ∧ LgI p (i + 1) M ∧ Below W.heap.size W V3) := ⟨HX.out.1, HI.out.1, HI.out.2⟩
            clear hos hel hr hxs hg hk qk HI
            go_wp2
            go_roundw
            case rel => exact ⟨i + 1, M, by simp, rfl, by have := HN3.out.1; omega, qM, HN3.out.2.1, HN3.out.2.2⟩
            case measure => have := HN3.out.1; simp only [intOf]; omega
      · have q2 : 300 < (N : Int) := by omega
        have g2 : decide ((N : Int) ≤ 300) = false := decide_eq_false (by omega)
        have HF : Hid (Below w.heap.size w V) := below_tr HP.out.2.2 HI.out.2
        clear hi hN
        go_wp2
        go_ret
        exact ⟨_, rfl, (fun h => by simp at h), HF.out⟩
    · have q1 : (p.on : Int) ≤ (i : Int) := by omega
      have g1 : decide ((i : Int) < (p.on : Int)) = false := decide_eq_false (by omega)
      have HF : Hid (Below w.heap.size w V ∧ (N ≤ 300 → LT p)) := ⟨below_tr HP.out.2.2 HI.out.2, fun hN => by
        have h1 := HI.out.1
        refine ⟨Nat.le_trans h1.1 hN, Nat.le_trans h1.2.1 hN, fun o ho => ?_⟩
        obtain ⟨j, hj, rfl⟩ := List.mem_iff_getElem.1 ho
        exact Nat.le_trans (h1.2.2 j _ (by rw [HP.out.1.ops.1] at hj; omega) (List.getElem?_eq_getElem hj)) hN⟩
      clear hi HI
      by_cases hN : N ≤ 300
      · have q2 : (N : Int) ≤ 300 := by omega
        go_wp2
        go_ret
        exact ⟨_, rfl, (fun _ => HF.out.2 hN), HF.out.1⟩
      · have q2 : 300 < (N : Int) := by omega
        have g2 : decide ((N : Int) ≤ 300) = false := decide_eq_false (by omega)
        clear hN
        go_wp2
        go_ret
        exact ⟨_, rfl, (fun h => by simp at h), HF.out.1⟩
end Go.Proofs.YtgdecjacbkicmaaDoor.Oct
