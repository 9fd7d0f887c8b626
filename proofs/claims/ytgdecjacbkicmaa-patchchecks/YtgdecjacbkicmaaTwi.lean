/-
  Layer 10 (patch): Twin of the reference.
-/
import Derived.Test.YtgdecjacbkicmaaTww
namespace Go.Proofs.Ytgdecjacbkicmaa.Oct
open Go.RowKit
set_option maxRecDepth 100000
set_option linter.unusedSimpArgs false
set_option linter.unusedVariables false

theorem own_put {w : World} {B e sz n g : Nat} {v : Value} {cs : List Value} (h : w.ownsRow B e sz v n cs) (hg : v.ownBlock = some g) (k : Nat) (x : Value) : (w.setCell ⟨g, k, none⟩ x).ownsRow B e sz v n (cs.set k x) := by
  refine ⟨by rw [List.length_set]; exact h.1, ?_⟩
  rcases h.2 with ⟨rfl, _⟩ | ⟨g', cap, cur, rfl, hB, hb, hn, hc, hsz, ht⟩
  · cases hg
  · cases hg
    have hb' : Blk w g' e cur.toList := by unfold Blk; rw [hb]
    refine .inr ⟨g', cap, (cur.toList.set k x).toArray, rfl, hB, hb'.set k x, hn, hc, by simpa using hsz, ?_⟩
    rw [List.toList_toArray, List.take_set, ht]
def cellsO (O : List OpV) : List Value := O.flatMap OpV.cells
theorem cellsO_len : ∀ {O : List OpV}, (∀ o ∈ O, o.ok) → (cellsO O).length = O.length * 69
  | [], _ => rfl
  | x :: O, h => by
    have ih := cellsO_len (O := O) (fun y hy => h y (by simp [hy]))
    show (x.cells ++ cellsO O).length = _
    rw [List.length_append, OpV.len (h x (by simp)), ih, List.length_cons]
    omega
theorem cellsO_one (O : List OpV) : ∀ u ∈ cellsO O, u.oneCell' = true := by
  intro u hu
  obtain ⟨o, _, h⟩ := List.mem_flatMap.1 hu
  exact OpV.one o u h
theorem cellsO_get : ∀ {O : List OpV} {i : Nat} {o : OpV}, (∀ o ∈ O, o.ok) → O[i]? = some o → ∀ j v, o.cells[j]? = some v → (cellsO O)[i * 69 + j]? = some v
  | [], i, o, _, h => by simp at h
  | x :: O, 0, o, hok, h => by
    simp at h
    subst h
    intro j v hv
    show (x.cells ++ cellsO O)[0 * 69 + j]? = some v
    rw [Nat.zero_mul, Nat.zero_add, List.getElem?_append_left (List.getElem?_eq_some_iff.1 hv).1]
    exact hv
  | x :: O, i + 1, o, hok, h => by
    simp at h
    intro j v hv
    have ih := cellsO_get (fun y hy => hok y (by simp [hy])) h j v hv
    show (x.cells ++ cellsO O)[(i + 1) * 69 + j]? = some v
    rw [List.getElem?_append_right (by rw [OpV.len (hok x (by simp))]; omega), OpV.len (hok x (by simp)), show (i + 1) * 69 + j - 69 = i * 69 + j by omega]
    exact ih
theorem cellsO_range {w : World} {g off : Nat} : ∀ {O : List OpV} {off : Nat}, (∀ o ∈ O, o.ok) → (∀ i o, O[i]? = some o → w.rangeAt g (off + i * 69) o.cells) → w.rangeAt g off (cellsO O)
  | [], off, _, _ => fun j v hj => by simp [cellsO] at hj
  | x :: O, off, hok, h => by
    have hl := OpV.len (hok x (by simp))
    have h0 := h 0 x rfl
    have ih := cellsO_range (O := O) (off := off + 69) (fun y hy => hok y (by simp [hy])) (fun i e he => by
      have := h (i + 1) e (by simpa using he)
      rw [show off + (i + 1) * 69 = off + 69 + i * 69 by omega] at this
      exact this)
    intro j v hj
    change (x.cells ++ cellsO O)[j]? = some v at hj
    by_cases hlt : j < 69
    · rw [List.getElem?_append_left (by omega)] at hj
      have := h0 j v hj
      simpa using this
    · rw [List.getElem?_append_right (by omega), hl] at hj
      have := ih (j - 69) v hj
      rw [show off + 69 + (j - 69) = off + j by omega] at this
      exact this
def OpV.put (o : OpV) (la : Option Addr) (lc : Nat) : OpV := { o with la := la, lc := lc }
theorem put_cells {o : OpV} (h : o.ok) (la : Option Addr) (lc : Nat) : (o.put la lc).cells = o.cells.set 68 (.slice la o.ln lc) := by
  show [iv o.kind, .string o.path] ++ (o.up.cells ++ (o.dn.cells ++ [.slice la o.ln lc])) = ([iv o.kind, .string o.path] ++ (o.up.cells ++ (o.dn.cells ++ [Value.slice o.la o.ln o.lc]))).set 68 _
  rw [List.set_append_right _ _ (by show 2 ≤ 68; omega), List.set_append_right _ _ (by rw [Vx.len h.1]; show 33 ≤ 66; omega), List.set_append_right _ _ (by rw [Vx.len h.1, Vx.len h.2.1]; show 33 ≤ 33; omega), Vx.len h.1, Vx.len h.2.1]
  rfl
theorem cellsO_put : ∀ {O : List OpV} {i : Nat} {o : OpV} (la : Option Addr) (lc : Nat), (∀ o ∈ O, o.ok) → O[i]? = some o → cellsO (O.set i (o.put la lc)) = (cellsO O).set (i * 69 + 68) (.slice la o.ln lc)
  | [], i, o, _, _, _, h => by simp at h
  | x :: O, 0, o, la, lc, hok, h => by
    simp at h
    subst h
    show (x.put la lc).cells ++ cellsO O = (x.cells ++ cellsO O).set (0 * 69 + 68) _
    rw [put_cells (hok x (by simp)), Nat.zero_mul, Nat.zero_add, List.set_append_left _ _ (by rw [OpV.len (hok x (by simp))]; omega)]
  | x :: O, i + 1, o, la, lc, hok, h => by
    simp at h
    have ih := cellsO_put la lc (fun y hy => hok y (by simp [hy])) h
    show x.cells ++ cellsO (O.set i (o.put la lc)) = (x.cells ++ cellsO O).set ((i + 1) * 69 + 68) _
    rw [ih, List.set_append_right _ _ (by rw [OpV.len (hok x (by simp))]; omega), OpV.len (hok x (by simp))]
    congr 2
    omega
/-- texts that are read, below lo or behind g -/
def StN (w : World) (lo g : Nat) (o : OpV) : Prop := Strs w o.la o.ln o.ts ∧ (0 < o.ln → ∀ x, o.la = some x → x.block < lo ∨ g < x.block)
theorem StN.other {w w' : World} {lo g k : Nat} {o : OpV} (h : StN w lo g o) (hlo : lo ≤ k) (hk : k ≤ g) (hg : w.grownBy w' (some k)) : StN w' lo g o := by
  obtain ⟨⟨h1, h2⟩, h3⟩ := h
  refine ⟨⟨h1, fun hp => ?_⟩, h3⟩
  obtain ⟨b, off, e1, e2, e3⟩ := h2 hp
  have hb : b ≠ k := by have h4 := h3 hp ⟨b, off, none⟩ e1; simp only at h4; omega
  exact ⟨b, off, e1, Nat.lt_of_lt_of_le e2 hg.size, fun i x hx => (World.cell?_of_block (a := ⟨b, off + i, none⟩) (hg.block b e2 (by simp; omega))).trans (e3 i x hx)⟩
theorem StN.below {w w' : World} {lo g : Nat} {o : OpV} (h : StN w lo g o) (hb : Below w.heap.size w w') : StN w' lo g o := ⟨h.1.below hb, h.2⟩
/-- where Twin stands: j operations have lines of their own -/
structure TwI (w : World) (p : PV) (d g oc : Nat) (q : PV) (O : List OpV) (V : World) : Prop where
  bel : Below w.heap.size w V
  bk : Blk V d 25 q.cells
  dg : d < g
  lo : w.heap.size ≤ g
  row : V.ownsRow w.heap.size 51 69 (.slice (some ⟨g, 0, none⟩) p.on oc) p.on (cellsO O)
  ok : ∀ o ∈ O, o.ok ∧ StN V w.heap.size g o
  al : Alike p.O O
  len : O.length = p.on
  deps : HsR V q.da q.dn q.D
  da : ∀ x, q.da = some x → x.block < g
theorem TwI.at {w V : World} {p q : PV} {d g oc : Nat} {O : List OpV} (h : TwI w p d g oc q O V) {i : Nat} {o : OpV} (hi : O[i]? = some o) : V.rangeAt g (i * 69) o.cells ∧ g < V.heap.size := by
  have hlt := (List.getElem?_eq_some_iff.1 hi).1
  rcases h.row.2 with ⟨h0, h1⟩ | ⟨g', cap, cur, e, hB, hb, hn, hc, hs, ht⟩
  · cases h0
  · cases e
    have hk : Blk V g 51 cur.toList := by unfold Blk; rw [hb]
    refine ⟨fun j v hv => ?_, hk.lt⟩
    have h2 := cellsO_get (fun o ho => (h.ok o ho).1) hi j v hv
    rw [← ht, List.getElem?_take] at h2
    split at h2
    · exact hk.cell h2
    · cases h2
theorem TwI.below {w V V' : World} {p q : PV} {d g oc : Nat} {O : List OpV} (h : TwI w p d g oc q O V) (hb : Below V.heap.size V V') : TwI w p d g oc q O V' := by
  refine ⟨below_tr h.bel hb, h.bk.below hb h.bk.lt, h.dg, h.lo, ?_, fun o ho => ⟨(h.ok o ho).1, (h.ok o ho).2.below hb⟩, h.al, h.len, h.deps.below hb, h.da⟩
  refine ⟨h.row.1, ?_⟩
  rcases h.row.2 with h0 | ⟨g', cap, cur, e, hB, hbl, hr⟩
  · exact .inl h0
  · exact .inr ⟨g', cap, cur, e, hB, (hb.block g' (Array.getElem?_eq_some_iff.1 hbl).1).trans hbl, hr⟩
theorem map_set_strip {O : List OpV} {i : Nat} {o : OpV} (hi : O[i]? = some o) (la : Option Addr) (lc : Nat) : (O.set i (o.put la lc)).map OpV.strip = O.map OpV.strip := by
  rw [List.map_set]
  have e : (o.put la lc).strip = o.strip := rfl
  rw [e]
  have hlt : i < (O.map OpV.strip).length := by rw [List.length_map]; exact (List.getElem?_eq_some_iff.1 hi).1
  have e2 : (O.map OpV.strip)[i] = o.strip := by
    have := (List.getElem?_eq_some_iff.1 hi).2
    rw [List.getElem_map, this]
  rw [← e2, List.set_getElem_self]
theorem TwI.turn {w V : World} {p q : PV} {d g oc : Nat} {O : List OpV} (h : TwI w p d g oc q O V) {i : Nat} {o : OpV} (hi : O[i]? = some o) (la : Option Addr) (lc : Nat) (hl : Strs V la o.ln o.ts) (hx : ∀ x, la = some x → g < x.block) (hc : o.ln ≤ lc ∧ lc ≤ maxLen) :
    TwI w p d g oc q (O.set i (o.put la lc)) (V.setCell ⟨g, i * 69 + 68, none⟩ (.slice la o.ln lc)) := by
  have hg : V.grownBy (V.setCell ⟨g, i * 69 + 68, none⟩ (.slice la o.ln lc)) (some g) := grown_setCell V g _ _
  have hok := h.ok o (List.mem_of_getElem? hi)
  refine ⟨below_gr h.bel hg h.lo, h.bk.kept hg (by have := h.dg; simp; omega), h.dg, h.lo, ?_, ?_, ?_, by rw [List.length_set]; exact h.len, ?_, h.da⟩
  · rw [cellsO_put la lc (fun x hx => (h.ok x hx).1) hi]
    exact own_put h.row rfl _ _
  · intro x hxm
    rcases List.mem_or_eq_of_mem_set hxm with hm | rfl
    · exact ⟨(h.ok x hm).1, (h.ok x hm).2.other h.lo (Nat.le_refl _) hg⟩
    · refine ⟨⟨hok.1.1, hok.1.2.1, hok.1.2.2.1, hok.1.2.2.2.1, hok.1.2.2.2.2.1, hok.1.2.2.2.2.2.1, hc⟩, StN.other (w := V) ⟨hl, fun _ x hxe => .inr (hx x hxe)⟩ h.lo (Nat.le_refl _) hg⟩
  · unfold Alike
    rw [map_set_strip hi]
    exact h.al
  · refine HsR.same h.deps hg.size fun g2 off e => ?_
    have hlt := h.da _ e
    by_cases hp : g2 < V.heap.size
    · exact hg.block g2 hp (by simp; intro e2; subst e2; exact absurd hlt (by simp))
    · rw [Array.getElem?_eq_none (by have := hg.size; simp at *; omega), Array.getElem?_eq_none (by omega)]
theorem HsR.gr {w w' : World} {a : Option Addr} {n d : Nat} {D : List Hs} (h : HsR w a n D) (hg : w.grownBy w' (some d)) (hne : ∀ x, a = some x → x.block ≠ d) : HsR w' a n D := by
  refine ⟨h.1, h.2.1, fun hp => ?_⟩
  obtain ⟨g, off, e, h1, h2⟩ := h.2.2 hp
  have h3 : g ≠ d := hne _ e
  exact ⟨g, off, e, Nat.lt_of_lt_of_le h1 hg.size, fun i x hx => rangeAt_same (h2 i x hx) (hg.block g h1 (by simp; omega))⟩
theorem TwI.ops {w V V1 V2 : World} {p q : PV} {d d2 g oc : Nat} {O : List OpV} (h : TwI w p d g oc q O V) (hd : w.heap.size ≤ d) (hd2 : w.heap.size ≤ d2 ∧ d2 < g) (hg : V.grownBy V1 (some d)) (hg2 : V1.grownBy V2 (some d2)) : OpsR V2 (some ⟨g, 0, none⟩) p.on O := by
  refine ⟨h.len, fun o ho => ⟨(h.ok o ho).1, (((h.ok o ho).2.other hd (Nat.le_of_lt h.dg) hg).other hd2.1 (Nat.le_of_lt hd2.2) hg2).1⟩, fun hp => ?_⟩
  obtain ⟨o, ho⟩ : ∃ o, O[0]? = some o := ⟨_, List.getElem?_eq_getElem (by rw [h.len]; exact hp)⟩
  have hlt := (h.at ho).2
  refine ⟨g, 0, rfl, Nat.lt_of_lt_of_le (Nat.lt_of_lt_of_le hlt hg.size) hg2.size, fun i x hx => ?_⟩
  rw [Nat.zero_add]
  exact rangeAt_same (rangeAt_same (h.at hx).1 (hg.block g hlt (by have := h.dg; simp; omega))) (hg2.block g (Nat.lt_of_lt_of_le hlt hg.size) (by have := hd2.2; simp; omega))
#print axioms TwI.turn
end Go.Proofs.Ytgdecjacbkicmaa.Oct
