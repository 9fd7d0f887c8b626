/-
  Layer 10 (patch): a patch in new memory.
-/
import Derived.Test.YtgdecjacbkicmaaRsm
import Derived.Maps.AppendAt
namespace Go.Proofs.Ytgdecjacbkicmaa.Oct
open Go.RowKit
set_option maxRecDepth 100000
set_option linter.unusedSimpArgs false
set_option linter.unusedVariables false

/-- a copy of a row, in new memory -/
theorem app_new {t e : TypeId} {sz bt : Nat} (hu : Try.prog.underlying t = some (.slice e)) (hinfo : ∃ i z, Try.prog.info? e = some i ∧ i.zero = some z ∧ i.size = sz ∧ i.bytes = bt ∧ z.cells.size = sz) (hsz : 0 < sz) (W : World) (ao : Option Addr) (m c : Nat) (cs : List Value) (hl : cs.length = m * sz) (h1 : ∀ u ∈ cs, u.oneCell' = true)
    (hr : 0 < m → ∃ ad, ao = some ad ∧ ∀ j u, cs[j]? = some u → W.cell? (ad.add j) = some u) (hm : m * bt ≤ 140737488355328) (hmm : m ≤ 1000000) (ty : TypeId) :
    ∃ g cap w', (Builtin.append_ #[t, t] ty #[.slice (some ⟨W.heap.size, 0, none⟩) 0 0, .slice ao m c]).run Try.prog (W.alloc (.cells #[] e)) = .ok (.slice (some ⟨g, 0, none⟩) m cap) w' ∧ w'.ownsRow W.heap.size e sz (.slice (some ⟨g, 0, none⟩) m cap) m cs ∧ Below W.heap.size W w' ∧ W.heap.size ≤ g ∧ g < w'.heap.size ∧ m ≤ cap ∧ cap ≤ maxLen := by
  obtain ⟨i, z, hi, hz, hs, hb, hzs⟩ := hinfo
  have ho : (W.alloc (.cells #[] e)).ownsRow W.heap.size e sz (.slice (some ⟨W.heap.size, 0, none⟩) 0 0) 0 [] := ⟨by simp, .inr ⟨W.heap.size, 0, #[], rfl, Nat.le_refl _, heap_alloc_new _ _, Nat.le_refl _, by unfold maxLen; omega, by simp, by simp⟩⟩
  have hb0 := below_al W (.cells #[] e)
  by_cases h0 : m = 0
  · subst h0
    have hc : cs = [] := List.eq_nil_of_length_eq_zero (by simpa using hl)
    subst hc
    exact ⟨W.heap.size, 0, _, run_append_zero (P := Try.prog) _ t ty e i hu hi _ ao 0 0 c (Nat.le_refl _), ho, hb0, Nat.le_refl _, by simp, Nat.le_refl _, by unfold maxLen; omega⟩
  · obtain ⟨ad, rfl, hc⟩ := hr (by omega)
    have hc2 : ∀ j u, cs[j]? = some u → (W.alloc (.cells #[] e)).cell? (ad.add j) = some u := fun j u hj => by
      have h2 := hc j u hj
      have hlt : (ad.add j).block < W.heap.size := by
        unfold World.cell? at h2
        cases hq : W.heap[(ad.add j).block]? with
        | none => rw [hq] at h2; simp at h2
        | some o => exact (Array.getElem?_eq_some_iff.1 hq).1
      exact (hb0.cell hlt).trans h2
    obtain ⟨v', w', hrun, h2, h3, h4, h5⟩ := run_append_own_at (P := Try.prog) (w := W.alloc (.cells #[] e)) W.heap.size t ty e i z sz bt hu hi hz hs hb hzs hsz (.slice (some ⟨W.heap.size, 0, none⟩) 0 0) 0 [] ho ad m c cs hl hc2 h1 (by unfold maxLen; omega) (by rw [Nat.zero_add]; exact hm) (by simp)
    rw [Nat.zero_add, List.nil_append] at h2
    rcases h2.2 with ⟨rfl, hn⟩ | ⟨g, cap, cur, rfl, hB, hbl, hn, hcp, hr2⟩
    · omega
    · exact ⟨g, cap, w', hrun, h2, below_gr hb0 h3 (Nat.le_refl _), hB, (Array.getElem?_eq_some_iff.1 hbl).1, hn, hcp⟩
theorem wpList_apd {t : TypeId} {ops : Array Oper} {rest : List Oper} {o : Oper} {a : Act} {Q : Exit → Act → World → Prop} (hgd : o.guard = none) (s x : Operand) (hop : o.op = .call { callee := .builtin .append, args := #[s, x], argTypes := #[t, t] })
    {W W' : World} {v u v' : Value} (hr : (Builtin.append_ #[t, t] o.type #[v, u]).run Try.prog W = .ok v' W') (hs : a.eval s = v) (hx : a.eval x = u)
    (hk : wpList Try.prog ops Q rest (a.put o.dst v') W') : wpList Try.prog ops Q (o :: rest) a W := by
  refine wpList_plain hgd fun K hK => ?_
  unfold Oper.wp execOp
  simp only [hop, resolve, invoke, builtin, Sem.run_bind, Sem.run_pure, Result.andThen_ok, List.map_toArray, List.map_cons, List.map_nil, hs, hx, hr]
  exact hK _ _ hk
theorem wpList_bs0 {ops : Array Oper} {rest : List Oper} {o : Oper} {a : Act} {w w' : World} {Q : Exit → Act → World → Prop} (hgd : o.guard = none) (t : TypeId) (hop : o.op = .buildSlice t 0 #[]) (r : Value) (hr : (Instr.buildSlice t 0 #[]).run Try.prog w = .ok r w')
    (hk : wpList Try.prog ops Q rest (a.put o.dst r) w') : wpList Try.prog ops Q (o :: rest) a w := by
  refine wpList_plain hgd fun K hK => ?_
  unfold Oper.wp execOp
  simp only [hop, Sem.run_bind, Sem.run_pure, Result.andThen_ok, List.map_toArray, List.map_cons, List.map_nil, hr]
  exact hK _ _ hk
theorem rb22 (W : World) : (Instr.buildSlice 22 0 #[]).run Try.prog W = .ok (.slice (some ⟨W.heap.size, 0, none⟩) 0 0) (W.alloc (.cells #[] 47)) := by kernel_rfl
theorem rb23 (W : World) : (Instr.buildSlice 23 0 #[]).run Try.prog W = .ok (.slice (some ⟨W.heap.size, 0, none⟩) 0 0) (W.alloc (.cells #[] 51)) := by kernel_rfl
theorem rb31 (W : World) : (Instr.buildSlice 31 0 #[]).run Try.prog W = .ok (.slice (some ⟨W.heap.size, 0, none⟩) 0 0) (W.alloc (.cells #[] 9)) := by kernel_rfl
theorem inf47 : ∃ i z, Try.prog.info? 47 = some i ∧ i.zero = some z ∧ i.size = 32 ∧ i.bytes = 32 ∧ z.cells.size = 32 := by
  have h : (Try.prog.info? 47).map (fun i => (i.size, i.bytes, i.zero.map (·.cells.size))) = some (32, 32, some 32) := by kernel_rfl
  obtain ⟨i, hi, he⟩ := Option.map_eq_some_iff.1 h
  simp only [Prod.mk.injEq] at he
  obtain ⟨z, hz, hzs⟩ := Option.map_eq_some_iff.1 he.2.2
  exact ⟨i, z, hi, hz, he.1, he.2.1, hzs⟩
theorem inf51 : ∃ i z, Try.prog.info? 51 = some i ∧ i.zero = some z ∧ i.size = 69 ∧ i.bytes = 128 ∧ z.cells.size = 69 := by
  have h : (Try.prog.info? 51).map (fun i => (i.size, i.bytes, i.zero.map (·.cells.size))) = some (69, 128, some 69) := by kernel_rfl
  obtain ⟨i, hi, he⟩ := Option.map_eq_some_iff.1 h
  simp only [Prod.mk.injEq] at he
  obtain ⟨z, hz, hzs⟩ := Option.map_eq_some_iff.1 he.2.2
  exact ⟨i, z, hi, hz, he.1, he.2.1, hzs⟩
theorem inf9 : ∃ i z, Try.prog.info? 9 = some i ∧ i.zero = some z ∧ i.size = 1 ∧ i.bytes = 16 ∧ z.cells.size = 1 := by
  have h : (Try.prog.info? 9).map (fun i => (i.size, i.bytes, i.zero.map (·.cells.size))) = some (1, 16, some 1) := by kernel_rfl
  obtain ⟨i, hi, he⟩ := Option.map_eq_some_iff.1 h
  simp only [Prod.mk.injEq] at he
  obtain ⟨z, hz, hzs⟩ := Option.map_eq_some_iff.1 he.2.2
  exact ⟨i, z, hi, hz, he.1, he.2.1, hzs⟩
/-- what is told of an operation, wherever its lines lie -/
def OpV.strip (o : OpV) : OpV := { o with la := none, lc := 0 }
theorem strip_eq {x y : OpV} (h : x.strip = y.strip) : x.kind = y.kind ∧ x.path = y.path ∧ x.up = y.up ∧ x.dn = y.dn ∧ x.ln = y.ln ∧ x.ts = y.ts := by
  unfold OpV.strip at h
  simp only [OpV.mk.injEq] at h
  exact ⟨h.1, h.2.1, h.2.2.1, h.2.2.2.1, h.2.2.2.2.2.1, h.2.2.2.2.2.2.2⟩
theorem opB_strip (D : List Hs) {x y : OpV} (h : x.strip = y.strip) : opB D x = opB D y := by
  obtain ⟨h1, h2, h3, h4, h5, h6⟩ := strip_eq h
  unfold opB addB killB
  rw [h1, h2, h3, h4, h5, h6]
theorem encO_strip (D : List Hs) {x y : OpV} (h : x.strip = y.strip) : encO D x = encO D y := by
  obtain ⟨h1, h2, h3, h4, h5, h6⟩ := strip_eq h
  unfold encO
  rw [h1, h2, h3, h4, h5, h6]
theorem sameO_strip {x y : OpV} (h : x.strip = y.strip) : sameO x y = true := by
  obtain ⟨h1, h2, h3, h4, _, h6⟩ := strip_eq h
  unfold sameO
  rw [h1, h2, h3, h4, h6]
  have e : ∀ v, eqVx v v = true := fun v => (eqVx_iff v v).2 rfl
  simp [e]
def Alike (l r : List OpV) : Prop := l.map OpV.strip = r.map OpV.strip
theorem Alike.cons {x y : OpV} {l r : List OpV} (h : Alike (x :: l) (y :: r)) : x.strip = y.strip ∧ Alike l r := by
  unfold Alike at h ⊢
  simpa using h
theorem Alike.len {l r : List OpV} (h : Alike l r) : l.length = r.length := by have := congrArg List.length h; simpa using this
theorem Alike.sameL : ∀ {l r : List OpV}, Alike l r → sameL l r = true
  | [], [], _ => rfl
  | [], _ :: _, h => by simp [Alike] at h
  | _ :: _, [], h => by simp [Alike] at h
  | x :: l, y :: r, h => by
    show (sameO x y && Oct.sameL l r) = true
    rw [sameO_strip h.cons.1, Alike.sameL h.cons.2]
    rfl
theorem Alike.many : ∀ {l r : List OpV}, Alike l r → Oct.many l = Oct.many r
  | [], [], _ => rfl
  | [], _ :: _, h => by simp [Alike] at h
  | _ :: _, [], h => by simp [Alike] at h
  | x :: l, y :: r, h => by
    have ih := Alike.many h.cons.2
    have e := (strip_eq h.cons.1).2.2.2.2.1
    unfold Oct.many at ih ⊢
    rw [List.map_cons, List.map_cons, List.sum_cons, List.sum_cons, ih, e]
theorem Alike.all (D : List Hs) : ∀ {l r : List OpV}, Alike l r → l.all (opB D) = r.all (opB D)
  | [], [], _ => rfl
  | [], _ :: _, h => by simp [Alike] at h
  | _ :: _, [], h => by simp [Alike] at h
  | x :: l, y :: r, h => by
    rw [List.all_cons, List.all_cons, opB_strip D h.cons.1, Alike.all D h.cons.2]
theorem Alike.enc (D : List Hs) : ∀ {l r : List OpV}, Alike l r → l.flatMap (encO D) = r.flatMap (encO D)
  | [], [], _ => rfl
  | [], _ :: _, h => by simp [Alike] at h
  | _ :: _, [], h => by simp [Alike] at h
  | x :: l, y :: r, h => by
    rw [List.flatMap_cons, List.flatMap_cons, encO_strip D h.cons.1, Alike.enc D h.cons.2]
/-- two patches that say the same, wherever they lie -/
structure Tw (p q : PV) : Prop where
  au : q.au = p.au
  tm : q.tm = p.tm
  nt : q.nt = p.nt
  D : q.D = p.D
  dn : q.dn = p.dn
  on : q.on = p.on
  O : Alike p.O q.O
theorem Tw.same {p q : PV} (h : Tw p q) : sameP p q = true := by
  unfold sameP
  rw [h.au, h.tm, h.nt, h.D, h.O.sameL]
  simp
theorem Tw.chk {p q : PV} (h : Tw p q) : Oct.chk q = Oct.chk p := by
  unfold Oct.chk headB opsB
  rw [h.au, h.tm, h.nt, h.D, h.O.many, h.O.all, h.O.len]
theorem Tw.bytes {p q : PV} (h : Tw p q) : ptB q = ptB p := by
  unfold ptB
  rw [h.au, h.tm, h.nt, h.D, h.dn, h.on, h.O.enc]
#print axioms Tw.chk
end Go.Proofs.Ytgdecjacbkicmaa.Oct
