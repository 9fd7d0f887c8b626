/-
  Blocks of memory told as lists of cells: what stores, loads and whole arrays do to them. Of no program.
  Rows of cells that are read, and 'append' to a row that is full or the call's own. Of no program.
  Layer 11 (lines): maps, whatever the type of their keys.
-/
import Derived.WalkKit
import Derived.Below
import Derived.Deep.MidRow
import Derived.Deep.Draws
import Derived.Laws.CopyOwn
import Derived.Deep.DeepAppendWide
import Derived.Deep.RegionHeldLaw
import Derived.Laws.AppendOwn
import Derived.Laws.AppendOwnNone
import Derived.ProofKit
import Derived.Test.YtjcihaohpbmogaaRows
import Derived.WideKeyArr
import Derived.ChangeKeysEq
import Derived.Maps.RangeRun
import Derived.MapKept
/- Blocks of memory told as lists of cells: what stores, loads and whole arrays do to them. Of no program. -/
namespace Go.Proofs.Ytjcihaohpbmogaa.Oct
open Go.RowKit
set_option maxRecDepth 100000

/-- block b holds just the cells L, none of them frozen -/
def Blk (w : World) (b : Nat) (t : TypeId) (L : List Value) : Prop := w.heap[b]? = some (.cells L.toArray t (0, 0))

section
variable {w w' : World} {b : Nat} {t : TypeId} {L : List Value}
theorem Blk.lt (h : Blk w b t L) : b < w.heap.size := lt_of_block h
theorem Blk.cell (h : Blk w b t L) {i : Nat} {v : Value} (hv : L[i]? = some v) : w.cell? ⟨b, i, none⟩ = some v := by
  rw [cell_of_row w b i _ t (0, 0) h, List.getElem?_toArray]; exact hv
theorem Blk.free (h : Blk w b t L) (i : Nat) : w.frozen? ⟨b, i, none⟩ = false := frozen_of_row w b i _ t h
theorem Blk.drewN (h : Blk w b t L) (n : Nat) : Blk (w.drewN n) b t L := h
theorem Blk.drew (h : Blk w b t L) : Blk w.drew b t L := h
theorem Blk.set (h : Blk w b t L) (i : Nat) (v : Value) : Blk (w.setCell ⟨b, i, none⟩ v) b t (L.set i v) := by
  have := heap_setCell_same w b i _ t v h
  unfold Blk
  rw [this]
  simp
theorem Blk.other (h : Blk w b t L) {a : Addr} (hne : b ≠ a.block) (v : Value) : Blk (w.setCell a v) b t L := by
  unfold Blk; rw [heap_setCell_other w a b v hne]; exact h
theorem Blk.below {B : Nat} (h : Blk w b t L) (hb : Below B w w') (hB : b < B) : Blk w' b t L := (hb.block b hB).trans h
theorem Blk.kept {row : Option Nat} (h : Blk w b t L) (hg : w.grownBy w' row) (hne : some b ≠ row) : Blk w' b t L := (hg.block b h.lt hne).trans h
theorem Blk.new (w : World) (C : Array Value) (t : TypeId) : Blk (w.alloc (.cells C t)) w.heap.size t C.toList := by
  unfold Blk; rw [heap_alloc_new]
theorem Blk.alloc (h : Blk w b t L) (o : Obj) : Blk (w.alloc o) b t L := (Below.heap_alloc w o b h.lt).trans h
theorem Blk.range (h : Blk w b t L) (o n : Nat) : w.rangeAt b o ((L.drop o).take n) := by
  intro j v hj
  rw [List.getElem?_take] at hj
  split at hj
  · rw [List.getElem?_drop] at hj
    exact h.cell hj
  · cases hj
theorem Blk.there (h : Blk w b t L) (o n : Nat) (hn : o + n ≤ L.length) : w.there b o n := by
  intro j hj
  exact ⟨by rw [h.cell (List.getElem?_eq_getElem (by omega))]; rfl, h.free _⟩
end

/-- a row of cells of elements of a type -/
def RowT (w : World) (e : TypeId) (g : Nat) : Prop := ∃ cs fr, w.heap[g]? = some (.cells cs e fr)
theorem RowT.lt {w : World} {e : TypeId} {g : Nat} (h : RowT w e g) : g < w.heap.size := by
  obtain ⟨cs, fr, h⟩ := h
  exact (Array.getElem?_eq_some_iff.1 h).1
theorem RowT.same {w w' : World} {e : TypeId} {g : Nat} (h : RowT w e g) (hs : w'.heap[g]? = w.heap[g]?) : RowT w' e g := by
  obtain ⟨cs, fr, h⟩ := h
  exact ⟨cs, fr, hs.trans h⟩
theorem Blk.row {w : World} {b : Nat} {t : TypeId} {L : List Value} (h : Blk w b t L) : RowT w t b := ⟨_, _, h⟩
theorem grown_setCell (w : World) (b i : Nat) (v : Value) : w.grownBy (w.setCell ⟨b, i, none⟩ v) (some b) :=
  ⟨rfl, rfl, rfl, by simp, fun k _ hne => heap_setCell_other w ⟨b, i, none⟩ k v (fun e => hne (by rw [e]))⟩
theorem grown_tr {w w1 w2 : World} {row : Option Nat} (h : w.grownBy w1 row) (k : w1.grownBy w2 row) : w.grownBy w2 row :=
  ⟨k.os.trans h.os, k.tape.trans h.tape, k.output.trans h.output, Nat.le_trans h.size k.size, fun b hb hne => (k.block b (Nat.lt_of_lt_of_le hb h.size) hne).trans (h.block b hb hne)⟩
theorem grown_drewN (w : World) (n : Nat) (row : Option Nat) : w.grownBy (w.drewN n) row := ⟨rfl, rfl, rfl, Nat.le_refl _, fun _ _ _ => rfl⟩

/-- several cells written one behind the other -/
theorem Blk.setCells {b : Nat} {t : TypeId} : ∀ (vs : List Value) (o : Nat) (w : World) (L : List Value), Blk w b t L → o + vs.length ≤ L.length →
    Blk (w.setCells b o vs) b t (L.take o ++ vs ++ L.drop (o + vs.length)) ∧ w.grownBy (w.setCells b o vs) (some b)
  | [], o, w, L, h, _ => by
    refine ⟨?_, World.grownBy.refl _ _⟩
    simpa [World.setCells] using h
  | v :: vs, o, w, L, h, hl => by
    have ih := Blk.setCells vs (o + 1) (w.setCell ⟨b, o, none⟩ v) (L.set o v) (h.set o v) (by simp at *; omega)
    simp only [World.setCells]
    refine ⟨?_, grown_tr (grown_setCell w b o v) ih.2⟩
    have e : (L.set o v).take (o + 1) ++ vs ++ (L.set o v).drop (o + 1 + vs.length) = L.take o ++ (v :: vs) ++ L.drop (o + (v :: vs).length) := by
      have hlt : o < L.length := by simp at hl; omega
      have e0 : L.set o v = L.take o ++ v :: L.drop (o + 1) := by rw [List.set_eq_take_append_cons_drop, if_pos hlt]
      have e1 : (L.set o v).take (o + 1) = L.take o ++ [v] := by
        rw [e0, List.take_append, List.length_take, Nat.min_eq_left (by omega), show o + 1 - o = 1 by omega, List.take_of_length_le (by simp; omega)]; rfl
      rw [e1, List.drop_set_of_lt (by omega), show o + 1 + vs.length = o + (v :: vs).length by simp; omega]
      simp
    rw [← e]
    exact ih.1

/-- a whole array stored into a block -/
theorem wpList_store_blk {P : Program} {ops : Array Oper} {rest : List Oper} {op : Oper} {a : Act} {w : World} {Q : Exit → Act → World → Prop} (hgd : op.guard = none) (ty : TypeId) (x y : Operand) (ho : op.op = .store ty x y)
    (b o : Nat) (t : TypeId) (L : List Value) (cells : List Value) (hx : a.eval x = .pointer (some ⟨b, o, none⟩)) (hy : a.eval y = .agg cells.toArray)
    (hb : Blk w b t L) (hl : o + cells.length ≤ L.length) (hi : (P.info? ty).map (·.size) = some cells.length) (h1 : ∀ v ∈ cells, v.oneCell' = true)
    (h : ∀ w', Hid (Blk w' b t (L.take o ++ cells ++ L.drop (o + cells.length))) → Hid (w.grownBy w' (some b)) → wpList P ops Q rest (a.put op.dst undef) w') : wpList P ops Q (op :: rest) a w := by
  refine wpList_store_mid hgd ty x y ho b o cells.toArray hx hy (by simpa using hb.there o cells.length hl) (by simpa using hi) (all_oneCell_toArray h1) ?_
  have e := Blk.setCells cells o w L hb hl
  exact h _ e.1 e.2

end Go.Proofs.Ytjcihaohpbmogaa.Oct

/- Rows of cells that are read, and 'append' to a row that is full or the call's own. Of no program. -/
namespace Go.Proofs.Ytjcihaohpbmogaa.Oct
open Go.RowKit
set_option maxRecDepth 100000

/-- a slice of n elements of sz cells each: the cells cs -/
def Rd (w : World) (e sz : Nat) (a : Option Addr) (n : Nat) (cs : List Value) : Prop :=
  cs.length = n * sz ∧ (∀ u ∈ cs, u.oneCell' = true) ∧ (0 < n → ∃ g off, a = some ⟨g, off, none⟩ ∧ RowT w e g ∧ ∀ j u, cs[j]? = some u → w.cell? ⟨g, off + j, none⟩ = some u)
theorem Rd.below {w w' : World} {B e sz : Nat} {a : Option Addr} {n : Nat} {cs : List Value} (h : Rd w e sz a n cs) (hb : Below B w w') (hB : w.heap.size ≤ B) : Rd w' e sz a n cs := by
  refine ⟨h.1, h.2.1, fun hp => ?_⟩
  obtain ⟨g, off, e, h1, h2⟩ := h.2.2 hp
  have hgl := h1.lt
  exact ⟨g, off, e, h1.same (hb.block g (by omega)), fun i b hi => (hb.cell (p := ⟨g, _, none⟩) (by show g < B; omega)).trans (h2 i b hi)⟩
theorem Rd.take {w : World} {e sz : Nat} {a : Option Addr} {n : Nat} {cs : List Value} (h : Rd w e sz a n cs) {i : Nat} (hi : i ≤ n) : Rd w e sz a i (cs.take (i * sz)) := by
  refine ⟨by rw [List.length_take, h.1]; exact Nat.min_eq_left (Nat.mul_le_mul_right _ hi), fun u hu => h.2.1 u (List.mem_of_mem_take hu), fun hp => ?_⟩
  obtain ⟨g, off, e, h1, h2⟩ := h.2.2 (by omega)
  refine ⟨g, off, e, h1, fun j u hu => h2 j u ?_⟩
  rw [List.getElem?_take] at hu
  split at hu
  · exact hu
  · cases hu
theorem Rd.drop {w : World} {e sz : Nat} {g off n : Nat} {cs : List Value} (h : Rd w e sz (some ⟨g, off, none⟩) n cs) {j : Nat} (hj : j ≤ n) : Rd w e sz (some ⟨g, off + j * sz, none⟩) (n - j) (cs.drop (j * sz)) := by
  refine ⟨by rw [List.length_drop, h.1, Nat.sub_mul], fun u hu => h.2.1 u (List.mem_of_mem_drop hu), fun hp => ?_⟩
  obtain ⟨g', off', e, h1, h2⟩ := h.2.2 (by omega)
  cases e
  refine ⟨g, _, rfl, h1, fun k u hk => ?_⟩
  rw [List.getElem?_drop] at hk
  rw [Nat.add_assoc]
  exact h2 _ u hk
theorem Rd.nil (w : World) (e sz : Nat) (a : Option Addr) : Rd w e sz a 0 [] := ⟨by simp, by simp, fun h => absurd h (by omega)⟩
/-- a slice's address, or none of a slice without room -/
def Ad (a : Option Addr) (cap : Nat) : Prop := (a = none ∧ cap = 0) ∨ ∃ g off, a = some ⟨g, off, none⟩
/-- what may be appended to: a full row that is read, or one of the call's own -/
def Bs (e sz B : Nat) (w : World) (v : Value) (n : Nat) (cs : List Value) : Prop := (∃ a, v = .slice a n n ∧ Rd w e sz a n cs ∧ Ad a n) ∨ ((∀ u ∈ cs, u.oneCell' = true) ∧ w.ownsRow B e sz v n cs)
theorem Bs.read {e sz B : Nat} {w : World} {v : Value} {n : Nat} {cs : List Value} (h : Bs e sz B w v n cs) : ∃ a cap, v = .slice a n cap ∧ n ≤ cap ∧ Rd w e sz a n cs ∧ Ad a cap := by
  rcases h with ⟨a, rfl, h, h0⟩ | ⟨h1, h⟩
  · exact ⟨a, n, rfl, Nat.le_refl _, h, h0⟩
  · rcases h.2 with ⟨rfl, rfl⟩ | ⟨g, cap, cur, rfl, hB, hb, hn, _, _, ht⟩
    · exact ⟨none, 0, rfl, Nat.le_refl _, ⟨h.1, h1, fun hp => absurd hp (by omega)⟩, .inl ⟨rfl, rfl⟩⟩
    · refine ⟨_, cap, rfl, hn, ⟨h.1, h1, fun _ => ⟨g, 0, rfl, ⟨_, _, hb⟩, fun j u hu => ?_⟩⟩, .inr ⟨g, 0, rfl⟩⟩
      rw [Nat.zero_add, cell_of_row w g j _ e (0, 0) hb]
      rw [← ht, List.getElem?_take] at hu
      split at hu
      · simpa using hu
      · cases hu
/-- nothing appended -/
theorem run_append_zero {P : Program} (w : World) (t ty e : TypeId) (i : TypeInfo) (ht : P.underlying t = some (.slice e)) (hi : P.info? e = some i) (a o : Option Addr) (n cap c : Nat) (hn : n ≤ cap) :
    (Builtin.append_ #[t, t] ty #[.slice a n cap, .slice o 0 c]).run P w = .ok (.slice a n cap) w := by
  cases o with
  | none =>
    cases a with
    | none => simp [Builtin.append_, run_underlying ht, sizeOf, typeInfo, hi, Builtin.lenOf, Builtin.firstCells, hn]
    | some a => simp [Builtin.append_, run_underlying ht, sizeOf, typeInfo, hi, Builtin.lenOf, Builtin.firstCells, hn, storeCells]
  | some o =>
    cases a with
    | none => simp [Builtin.append_, run_underlying ht, sizeOf, typeInfo, hi, Builtin.lenOf, Builtin.firstCells, hn, loadCells, loadCellsFrom]
    | some a => simp [Builtin.append_, run_underlying ht, sizeOf, typeInfo, hi, Builtin.lenOf, Builtin.firstCells, hn, loadCells, loadCellsFrom, storeCells]
theorem own_of_grown {w : World} {B e sz n m old : Nat} {z : Value} {xs news : List Value} (hz : z.cells.size = sz) (hx : xs.length = n * sz) (hl : news.length = m * sz) (hB : B ≤ w.heap.size) (h63 : n + m ≤ maxLen) :
    (w.drew.alloc (.cells (xs.toArray ++ news.toArray ++ Builtin.zeroCells z.cells (grownCap w (n + m) old e - (n + m))) e)).ownsRow B e sz (.slice (some ⟨w.heap.size, 0, none⟩) (n + m) (grownCap w (n + m) old e)) (n + m) (xs ++ news) := by
  have hge := grownCap_ge w (n + m) old e
  have hcm : grownCap w (n + m) old e ≤ maxLen := grownCap_le_maxLen w (n + m) old e h63
  have hlen : (xs ++ news).length = (n + m) * sz := by rw [List.length_append, hx, hl, Nat.add_mul]
  refine ⟨hlen, .inr ⟨w.heap.size, _, _, rfl, hB, heap_alloc_new w.drew _, hge, hcm, ?_, ?_⟩⟩
  · simp only [Array.size_append, List.size_toArray, size_zeroCells, hx, hl, hz, ← Nat.add_mul]
    congr 1
    omega
  · simp only [Array.toList_append, List.append_assoc]
    rw [← List.append_assoc, ← hlen]
    exact List.take_left
theorem run_append_bs {P : Program} (w : World) (t ty e : TypeId) (i : TypeInfo) (z : Value) (sz B : Nat) (ht : P.underlying t = some (.slice e)) (hi : P.info? e = some i) (hz : i.zero = some z) (hs : i.size = sz) (hby : i.bytes ≤ 64) (hzs : z.cells.size = sz) (hsz : 0 < sz)
    (v : Value) (n : Nat) (cs : List Value) (h : Bs e sz B w v n cs) (o : Option Addr) (q c : Nat) (qs : List Value) (ho : Rd w e sz o q qs) (hB : B ≤ w.heap.size) (hn : n + q ≤ 100000000000) :
    ∃ v' w', (Builtin.append_ #[t, t] ty #[v, .slice o q c]).run P w = .ok v' w' ∧ Bs e sz B w' v' (n + q) (cs ++ qs) ∧ Below B w w' := by
  have hone : ∀ u ∈ cs ++ qs, u.oneCell' = true := by
    have h1 : ∀ u ∈ cs, u.oneCell' = true := by
      rcases h with ⟨_, _, h, _⟩ | ⟨h, _⟩
      · exact h.2.1
      · exact h
    intro u hu
    rcases List.mem_append.1 hu with hu | hu
    · exact h1 u hu
    · exact ho.2.1 u hu
  have hbb : ∀ m, m ≤ 100000000000 → (m + m / 4 + 192) * i.bytes ≤ 281474976710656 := fun m hm => by
    refine Nat.le_trans (Nat.mul_le_mul_left _ hby) ?_
    omega
  by_cases hq : q = 0
  · subst hq
    have hqs : qs = [] := List.eq_nil_of_length_eq_zero (by rw [ho.1]; omega)
    subst hqs
    obtain ⟨a, cap, rfl, hnc, _⟩ := h.read
    exact ⟨_, w, run_append_zero w t ty e i ht hi a o n cap c hnc, by simpa using h, Below.refl _ _⟩
  · obtain ⟨g2, off2, rfl, _, hq2⟩ := ho.2.2 (by omega)
    have hnews : ∀ j u, qs[j]? = some u → w.cell? ((⟨g2, off2, none⟩ : Addr).add j) = some u := fun j u hu => by rw [Addr.add_lit]; exact hq2 j u hu
    rcases h with ⟨a, rfl, h, hnone⟩ | ⟨_, h⟩
    · cases a with
      | none =>
        have h0 : n = 0 := by
          rcases hnone with ⟨_, h⟩ | ⟨_, _, h⟩
          · exact h
          · cases h
        subst h0
        have hcs : cs = [] := List.eq_nil_of_length_eq_zero (by rw [h.1]; omega)
        subst hcs
        have hr := run_append_nil (P := P) w t ty e i z ht hi hz ⟨g2, off2, none⟩ q c qs (by rw [hs]; exact ho.1) hnews (by omega) (by omega) (Nat.le_trans (Nat.mul_le_mul_right _ (by omega)) (hbb q (by omega)))
        have hw := own_of_grown (w := w) (B := B) (e := e) (n := 0) (m := q) (old := 0) (xs := []) hzs (by simp) ho.1 hB (by unfold maxLen; omega)
        simp only [Nat.zero_add, List.nil_append, Array.empty_append] at hw ⊢
        exact ⟨_, _, hr, .inr ⟨by simpa using hone, hw⟩, (Below.refl B w).drew.alloc hB _⟩
      | some a =>
        have hol : ∀ j u, cs[j]? = some u → w.cell? (a.add j) = some u := fun j u hu => by
          have hlt : 0 < n := by
            have := (List.getElem?_eq_some_iff.1 hu).1
            rw [h.1] at this
            exact Nat.pos_of_ne_zero (fun e => by subst e; omega)
          obtain ⟨g, off, e, _, h2⟩ := h.2.2 hlt
          cases e
          rw [Addr.add_lit]; exact h2 j u hu
        have hr := run_append_grow (P := P) w t ty e i z ht hi hz a n n cs (by rw [hs]; exact h.1) hol ⟨g2, off2, none⟩ q c qs (by rw [hs]; exact ho.1) hnews (by omega) (by omega) (growslice_fits_wide (by omega) (hbb _ hn))
        exact ⟨_, _, hr, .inr ⟨hone, own_of_grown hzs h.1 ho.1 hB (by unfold maxLen; omega)⟩, (Below.refl B w).drew.alloc hB _⟩
    · obtain ⟨v', w', hr, h2, h3, _⟩ := run_append_own_wide (P := P) w B t ty e i z sz i.bytes ht hi hz hs rfl hzs hsz v n cs h ⟨g2, off2, none⟩ q c qs ho.1 hnews ho.2.1 (by unfold maxLen; omega) (hbb _ hn) hB
      refine ⟨v', w', hr, .inr ⟨hone, h2⟩, ⟨h3.os, h3.tape, h3.output, h3.size, fun k hk => h3.block k (by omega) fun e => ?_⟩⟩
      have := (h.lt k e.symm).1
      omega
theorem step_append_bs {P : Program} {ops : Array Oper} {o : Oper} {a : Act} {K : Act → World → Prop} {Q : Exit → Act → World → Prop} {E : Prop} (hw : Region.wanted o (yielded ops a.tmps) = true) (dd : Tmp) (hdd : o.dst = some dd) (s x : Operand) (t : TypeId)
    (hop : o.op = .call { callee := .builtin .append, args := #[s, x], argTypes := #[t, t] }) (w : World) (e : TypeId) (i : TypeInfo) (z : Value) (sz B : Nat) (ht : P.underlying t = some (.slice e)) (hi : P.info? e = some i) (hz : i.zero = some z) (hs : i.size = sz) (hby : i.bytes ≤ 64) (hzs : z.cells.size = sz) (hsz : 0 < sz)
    (v : Value) (n : Nat) (cs : List Value) (h : Bs e sz B w v n cs) (ao : Option Addr) (q c : Nat) (qs : List Value) (hsv : a.eval s = v) (hx : a.eval x = .slice ao q c) (ho : Rd w e sz ao q qs) (hB : B ≤ w.heap.size) (hn : n + q ≤ 100000000000)
    (hk : ∀ v' w', Hid (Bs e sz B w' v' (n + q) (cs ++ qs)) → Hid (Below B w w') → K (a.put (some dd) v') w') : if Region.wanted o (yielded ops a.tmps) = true then Oper.wp P o a w K Q else E := by
  rw [if_pos hw]
  obtain ⟨v', w', hr, h2, h3⟩ := run_append_bs (P := P) w t o.type e i z sz B ht hi hz hs hby hzs hsz v n cs h ao q c qs ho hB hn
  unfold Oper.wp execOp
  simp only [hop, resolve, invoke, builtin, Sem.run_bind, Sem.run_pure, Result.andThen_ok, List.map_toArray, List.map_cons, List.map_nil, hsv, hx, hr]
  rw [← hdd] at hk
  exact hk v' w' h2 h3
end Go.Proofs.Ytjcihaohpbmogaa.Oct

/- Layer 11 (lines): maps, whatever the type of their keys. -/
namespace Go.Proofs.Ytjcihaohpbmogaa.Oct
open Go.RowKit Go.WideMaps Go.ChangeMaps Go.MapKept
set_option linter.unusedSectionVars false
set_option maxRecDepth 100000

/-- a type of keys -/
class MK (K : Type) where
  kt : TypeId
  kv : K → Value
  ok : K → Prop
  law : KeyLaw Try.prog kt
  has : ∀ k, ok k → ∃ l, keyOf Try.prog kt (kv k) = some l
  inj : ∀ {a b : K}, kv a = kv b → a = b
variable {K : Type}
/-- an entry -/
structure Ent (K : Type) where
  k : K
  v : Value
  b : Nat
def Ent.me [MK K] (e : Ent K) : MapEntry := { key := MK.kv e.k, val := e.v, born := e.b }
/-- at block b lies a map with just these entries -/
def HM [MK K] (w : World) (b : Nat) (es : List (Ent K)) : Prop :=
  ∃ clock, w.heap[b]? = some (.map (es.map Ent.me).toArray clock) ∧ (∀ e ∈ es, e.b < clock) ∧ (es.map (·.b)).Nodup ∧ (es.map (·.k)).Nodup ∧ ∀ e ∈ es, MK.ok e.k
def hlook [DecidableEq K] (h : K) (es : List (Ent K)) : Option (Ent K) := es.find? (fun e => e.k == h)

section
variable [MK K] [DecidableEq K] {w w' : World} {b : Nat} {es : List (Ent K)} {h : K}
theorem HM.lt (hm : HM w b es) : b < w.heap.size := by
  obtain ⟨clock, h1, _⟩ := hm
  exact (Array.getElem?_eq_some_iff.1 h1).1
theorem HM.same (hm : HM w b es) (hs : w'.heap[b]? = w.heap[b]?) : HM w' b es := by
  obtain ⟨clock, h1, h2⟩ := hm
  exact ⟨clock, hs.trans h1, h2⟩
theorem HM.kept {row : Option Nat} (hm : HM w b es) (hg : w.grownBy w' row) (hne : some b ≠ row) : HM w' b es := hm.same (hg.block b hm.lt hne)
theorem HM.below {B : Nat} (hm : HM w b es) (hb : Below B w w') (hB : b < B) : HM w' b es := hm.same (hb.block b hB)
theorem HM.alloc (hm : HM w b es) (o : Obj) : HM (w.alloc o) b es := hm.same (Below.heap_alloc w o b hm.lt)
theorem HM.made (w : World) : HM (K := K) (w.alloc (.map #[] 0)) w.heap.size [] := ⟨0, by simpa using heap_alloc_new w (.map #[] 0), by simp, by simp, by simp, by simp⟩

theorem hlook_none (hn : hlook h es = none) : ∀ e ∈ es, e.k ≠ h := by
  intro e he hk
  have := List.find?_eq_none.1 hn e he
  simp [hk] at this
theorem hlook_some {e : Ent K} (hs : hlook h es = some e) : e ∈ es ∧ e.k = h := by
  refine ⟨List.mem_of_find?_eq_some hs, ?_⟩
  have := List.find?_some hs
  simpa using this
theorem hlook_mem {e : Ent K} (hnd : (es.map (·.k)).Nodup) (he : e ∈ es) : hlook e.k es = some e := by
  cases hl : hlook e.k es with
  | none => exact absurd rfl (hlook_none hl e he)
  | some x =>
    obtain ⟨h1, h2⟩ := hlook_some hl
    congr 1
    by_cases hxe : x = e
    · exact hxe
    · exfalso
      obtain ⟨i, hi, hxi⟩ := List.mem_iff_getElem.1 h1
      obtain ⟨j, hj, hej⟩ := List.mem_iff_getElem.1 he
      have hij : i ≠ j := by rintro rfl; exact hxe (hxi.symm.trans hej)
      have := (List.nodup_iff_pairwise_ne.1 hnd)
      have hp := List.pairwise_iff_getElem.1 this
      rcases Nat.lt_or_gt_of_ne hij with hlt | hlt
      · exact hp i j (by simpa using hi) (by simpa using hj) hlt (by simp [hxi, hej, h2])
      · exact hp j i (by simpa using hj) (by simpa using hi) hlt (by simp [hxi, hej, h2])
/-- the search for a key -/
theorem run_find (W : World) (hl : MK.ok h) (hk : ∀ e ∈ es, MK.ok e.k) (hnd : (es.map (·.k)).Nodup) :
    (hlook h es = none ∧ (Instr.findKey (MK.kt K) (MK.kv h) (es.map Ent.me)).run Try.prog W = .ok none W) ∨
    ∃ j e, hlook h es = some e ∧ es[j]? = some e ∧ (Instr.findKey (MK.kt K) (MK.kv h) (es.map Ent.me)).run Try.prog W = .ok (some (j, e.v)) W := by
  obtain ⟨l, hkey⟩ := MK.has h hl
  rcases (MK.law (K := K)).find W hkey (es.map Ent.me) (by
    intro x hx
    obtain ⟨e, he, rfl⟩ := List.mem_map.1 hx
    exact MK.has e.k (hk e he)) with ⟨h1, h2⟩ | ⟨j, x, h1, h2, h3⟩
  · refine .inl ⟨?_, h1⟩
    refine List.find?_eq_none.2 fun e he => ?_
    have := h2 e.me (List.mem_map.2 ⟨e, he, rfl⟩)
    intro hc
    have hc' : e.k = h := by simpa using hc
    exact this (congrArg MK.kv hc')
  · rw [List.getElem?_map] at h2
    obtain ⟨e, he, rfl⟩ := Option.map_eq_some_iff.1 h2
    have hke : e.k = h := MK.inj h3
    refine .inr ⟨j, e, ?_, he, h1⟩
    rw [← hke]
    exact hlook_mem hnd (List.mem_of_getElem? he)

/-- what a lookup answers -/
def lkv (c : Bool) (o : Option (Ent K)) (z : Value) : Value := if c then .tuple #[(o.map (·.v)).getD z, .bool o.isSome] else (o.map (·.v)).getD z
theorem HM.look {t E : TypeId} (hm : HM w b es) (ht : Try.prog.underlying t = some (.map (MK.kt K) E)) (hl : MK.ok h) (c : Bool) {z : Value} (hz : (zeroValue E).run Try.prog w = .ok z w) :
    (Instr.lookup t (.map (some b)) (MK.kv h) c).run Try.prog w = .ok (lkv c (hlook h es) z) w := by
  obtain ⟨clock, hb, h2, h3, h4, h5⟩ := hm
  obtain ⟨l, hkey⟩ := MK.has h hl
  rcases run_find w hl h5 h4 with ⟨h6, h7⟩ | ⟨j, e, h6, h7, h8⟩
  · simp [Instr.lookup, run_underlying ht, MapKept.run_getObj_map hb, (MK.law (K := K)).check w _ hkey, h7, h6, hz, Result.andThen, lkv]
  · simp [Instr.lookup, run_underlying ht, MapKept.run_getObj_map hb, (MK.law (K := K)).check w _ hkey, h8, h6, Result.andThen, lkv]
theorem look_nil {t E : TypeId} (ht : Try.prog.underlying t = some (.map (MK.kt K) E)) (hl : MK.ok h) (c : Bool) {z : Value} (hz : (zeroValue E).run Try.prog w = .ok z w) :
    (Instr.lookup t (.map none) (MK.kv h) c).run Try.prog w = .ok (lkv (K := K) c none z) w := by
  obtain ⟨l, hkey⟩ := MK.has h hl
  rcases run_find (es := ([] : List (Ent K))) w hl (by simp) (by simp) with ⟨h6, h7⟩ | ⟨j, e, h6, h7, h8⟩
  · have h7' : (Instr.findKey (MK.kt K) (MK.kv h) []).run Try.prog w = .ok none w := h7
    simp [Instr.lookup, run_underlying ht, (MK.law (K := K)).check w _ hkey, h7', hz, Result.andThen, lkv]
  · simp at h7

theorem grown_setBlock {o : Obj} (hb : w.heap[b]? = some o) (o' : Obj) : w.grownBy (setBlock w b o') (some b) :=
  ⟨rfl, rfl, rfl, by simp [setBlock], fun i _ hi => (MapKept.heap_set hb).2 i (fun e => hi (by rw [e]))⟩
/-- a value put at a key -/
def hputE [DecidableEq K] (h : K) (v : Value) (es : List (Ent K)) (nb : Nat) : List (Ent K) := if (hlook h es).isSome then es.map (fun e => if e.k = h then { e with v := v } else e) else es ++ [⟨h, v, nb⟩]
theorem modify_me {j : Nat} {e : Ent K} (v : Value) (hnd : (es.map (·.k)).Nodup) (he : es[j]? = some e) : ((es.map Ent.me).toArray.modify j fun x => { x with key := MK.kv e.k, val := v }) = ((es.map (fun x => if x.k = e.k then { x with v := v } else x)).map Ent.me).toArray := by
  have hj : j < es.length := (List.getElem?_eq_some_iff.1 he).1
  have hej : es[j] = e := (List.getElem?_eq_some_iff.1 he).2
  apply Array.ext
  · simp
  · intro i h1 h2
    have hi : i < es.length := by simpa using h1
    rw [Array.getElem_modify]
    simp only [List.getElem_toArray, List.getElem_map]
    by_cases hij : j = i
    · subst hij
      simp [hej, Ent.me]
    · have hne : ¬ es[i].k = e.k := by
        intro hc
        have hp := List.pairwise_iff_getElem.1 (List.nodup_iff_pairwise_ne.1 hnd)
        rcases Nat.lt_or_gt_of_ne hij with hlt | hlt
        · exact hp j i (by simpa using hj) (by simpa using hi) hlt (by simp [hej, hc])
        · exact hp i j (by simpa using hi) (by simpa using hj) hlt (by simp [hej, hc])
      simp [hij, hne]
theorem map_keys (es : List (Ent K)) (h : K) (v : Value) : (es.map (fun e => if e.k = h then { e with v := v } else e)).map (·.k) = es.map (·.k) := by
  rw [List.map_map]; apply List.map_congr_left; intro e _; simp only [Function.comp]; split <;> rfl
theorem map_borns (es : List (Ent K)) (h : K) (v : Value) : (es.map (fun e => if e.k = h then { e with v := v } else e)).map (·.b) = es.map (·.b) := by
  rw [List.map_map]; apply List.map_congr_left; intro e _; simp only [Function.comp]; split <;> rfl
theorem HM.put {t E : TypeId} (hm : HM w b es) (ht : Try.prog.underlying t = some (.map (MK.kt K) E)) (hl : MK.ok h) (v : Value) :
    ∃ w' nb, (Instr.mapUpdate t (.map (some b)) (MK.kv h) v).run Try.prog w = .ok () w' ∧ HM w' b (hputE h v es nb) ∧ w.grownBy w' (some b) ∧ w'.heap.size = w.heap.size := by
  obtain ⟨clock, hb, h2, h3, h4, h5⟩ := hm
  obtain ⟨l, hkey⟩ := MK.has h hl
  rcases run_find w hl h5 h4 with ⟨h6, h7⟩ | ⟨j, e, h6, h7, h8⟩
  · refine ⟨setBlock w b (.map ((es.map Ent.me).toArray.push ⟨MK.kv h, v, clock⟩) (clock + 1)), clock, ?_, ⟨clock + 1, ?_, ?_, ?_, ?_, ?_⟩, grown_setBlock hb _, by simp [setBlock]⟩
    · simp [Instr.mapUpdate, run_underlying ht, MapKept.run_getObj_map hb, (MK.law (K := K)).check w false hkey, h7, MapKept.run_setObj_map _ hb, Result.andThen, setBlock]
    · have e := (MapKept.heap_set (o' := .map ((es.map Ent.me).toArray.push ⟨MK.kv h, v, clock⟩) (clock + 1)) hb).1
      unfold hputE
      simp only [h6, Option.isSome_none, Bool.false_eq_true, if_false, List.map_append, List.map_cons, List.map_nil]
      rw [show (setBlock w b (.map ((es.map Ent.me).toArray.push ⟨MK.kv h, v, clock⟩) (clock + 1))).heap[b]? = _ from e]
      congr 2
      apply Array.toList_inj.1
      simp [Ent.me]
    all_goals unfold hputE; simp only [h6, Option.isSome_none, Bool.false_eq_true, if_false]
    · intro e he
      rcases List.mem_append.1 he with he | he
      · have := h2 e he; omega
      · simp at he; subst he; show clock < clock + 1; omega
    · rw [List.map_append, List.nodup_append]
      refine ⟨h3, by simp, ?_⟩
      intro x hx y hy
      obtain ⟨e, he, rfl⟩ := List.mem_map.1 hx
      simp at hy; subst hy
      have := h2 e he; omega
    · rw [List.map_append, List.nodup_append]
      refine ⟨h4, by simp, ?_⟩
      intro x hx y hy
      obtain ⟨e, he, rfl⟩ := List.mem_map.1 hx
      simp at hy; subst hy
      exact hlook_none h6 e he
    · intro e he
      rcases List.mem_append.1 he with he | he
      · exact h5 e he
      · simp at he; subst he; exact hl
  · have hke := (hlook_some h6).2
    subst hke
    refine ⟨setBlock w b (.map ((es.map Ent.me).toArray.modify j fun x => { x with key := MK.kv e.k, val := v }) clock), 0, ?_, ⟨clock, ?_, ?_, ?_, ?_, ?_⟩, grown_setBlock hb _, by simp [setBlock]⟩
    · have hg : (es.map Ent.me)[j]? = some e.me := by rw [List.getElem?_map, h7]; rfl
      simp [Instr.mapUpdate, run_underlying ht, MapKept.run_getObj_map hb, (MK.law (K := K)).check w false hkey, h8, h7, Ent.me, (MK.law (K := K)).stays w hkey, MapKept.run_setObj_map _ hb, Result.andThen, setBlock]
    · have e1 := (MapKept.heap_set (o' := .map ((es.map Ent.me).toArray.modify j fun x => { x with key := MK.kv e.k, val := v }) clock) hb).1
      rw [show (setBlock w b (.map ((es.map Ent.me).toArray.modify j fun x => { x with key := MK.kv e.k, val := v }) clock)).heap[b]? = _ from e1, modify_me v h4 h7]
      unfold hputE
      simp only [h6, Option.isSome_some, if_true]
    all_goals unfold hputE; simp only [h6, Option.isSome_some, if_true]
    · intro x hx
      obtain ⟨y, hy, rfl⟩ := List.mem_map.1 hx
      have := h2 y hy
      split <;> exact this
    · rw [map_borns]; exact h3
    · rw [map_keys]; exact h4
    · intro x hx
      obtain ⟨y, hy, rfl⟩ := List.mem_map.1 hx
      have := h5 y hy
      split <;> exact this
theorem HM.len {t E : TypeId} (hm : HM w b es) (ht : Try.prog.underlying t = some (.map (MK.kt K) E)) (ty : TypeId) : (Builtin.len_ #[t] ty #[.map (some b)]).run Try.prog w = .ok (.int .i64 es.length) w := by
  obtain ⟨clock, hb, _⟩ := hm
  simp [Builtin.len_, run_underlying ht, MapKept.run_getObj_map hb, Result.andThen, goInt]
end
section
variable [MK K] [DecidableEq K] {w w' : World} {b : Nat} {es : List (Ent K)} {h : K}
/-- the place of an entry, made where there is none -/
theorem HM.entry {t E : TypeId} (hm : HM w b es) (ht : Try.prog.underlying t = some (.map (MK.kt K) E)) (hl : MK.ok h) {z : Value} (hz : ∀ W, (zeroValue E).run Try.prog W = .ok z W) :
    ∃ w1 e nb, (Instr.mapEntry t (.map (some b)) (MK.kv h)).run Try.prog w = .ok (.tuple #[e.v, .int .i64 (e.b : Int)]) w1 ∧ HM w1 b (if (hlook h es).isSome then es else es ++ [⟨h, z, nb⟩]) ∧ (e ∈ if (hlook h es).isSome then es else es ++ [⟨h, z, nb⟩]) ∧ e.k = h ∧ (hlook h es = some e ∨ (hlook h es = none ∧ e.v = z)) ∧ w.grownBy w1 (some b) ∧ w1.heap.size = w.heap.size := by
  obtain ⟨clock, hb, h2, h3, h4, h5⟩ := hm
  obtain ⟨l, hkey⟩ := MK.has h hl
  rcases run_find w hl h5 h4 with ⟨h6, h7⟩ | ⟨j, e, h6, h7, h8⟩
  · refine ⟨setBlock w b (.map ((es.map Ent.me).toArray.push ⟨MK.kv h, z, clock⟩) (clock + 1)), ⟨h, z, clock⟩, clock, ?_, ⟨clock + 1, ?_, ?_, ?_, ?_, ?_⟩, ?_, rfl, .inr ⟨h6, rfl⟩, grown_setBlock hb _, by simp [setBlock]⟩
    · simp [Instr.mapEntry, run_underlying ht, MapKept.run_getObj_map hb, (MK.law (K := K)).check w false hkey, h7, hz, MapKept.run_setObj_map _ hb, Result.andThen, setBlock, goInt]
    · have e := (MapKept.heap_set (o' := .map ((es.map Ent.me).toArray.push ⟨MK.kv h, z, clock⟩) (clock + 1)) hb).1
      simp only [h6, Option.isSome_none, Bool.false_eq_true, if_false, List.map_append, List.map_cons, List.map_nil]
      rw [show (setBlock w b (.map ((es.map Ent.me).toArray.push ⟨MK.kv h, z, clock⟩) (clock + 1))).heap[b]? = _ from e]
      congr 2
      apply Array.toList_inj.1
      simp [Ent.me]
    all_goals simp only [h6, Option.isSome_none, Bool.false_eq_true, if_false]
    · intro e he
      rcases List.mem_append.1 he with he | he
      · have := h2 e he; omega
      · simp at he; subst he; show clock < clock + 1; omega
    · rw [List.map_append, List.nodup_append]
      refine ⟨h3, by simp, ?_⟩
      intro x hx y hy
      obtain ⟨e, he, rfl⟩ := List.mem_map.1 hx
      simp at hy; subst hy
      have := h2 e he; omega
    · rw [List.map_append, List.nodup_append]
      refine ⟨h4, by simp, ?_⟩
      intro x hx y hy
      obtain ⟨e, he, rfl⟩ := List.mem_map.1 hx
      simp at hy; subst hy
      exact hlook_none h6 e he
    · intro e he
      rcases List.mem_append.1 he with he | he
      · exact h5 e he
      · simp at he; subst he; exact hl
    · simp
  · have hke := (hlook_some h6).2
    subst hke
    have hmod : ((es.map Ent.me).toArray.modify j fun x => { x with key := MK.kv e.k }) = (es.map Ent.me).toArray := by
      have hj : j < es.length := (List.getElem?_eq_some_iff.1 h7).1
      have hej : es[j] = e := (List.getElem?_eq_some_iff.1 h7).2
      apply Array.ext
      · simp
      · intro i h1 h2
        rw [Array.getElem_modify]
        simp only [List.getElem_toArray, List.getElem_map]
        by_cases hij : j = i
        · subst hij; simp [hej, Ent.me]
        · simp [hij]
    refine ⟨setBlock w b (.map (es.map Ent.me).toArray clock), e, 0, ?_, ⟨clock, ?_, ?_, ?_, ?_, ?_⟩, ?_, rfl, .inl h6, grown_setBlock hb _, by simp [setBlock]⟩
    · simp [Instr.mapEntry, run_underlying ht, MapKept.run_getObj_map hb, (MK.law (K := K)).check w false hkey, h8, h7, Ent.me, (MK.law (K := K)).stays w hkey, MapKept.run_setObj_map _ hb, Result.andThen, setBlock, goInt]
      have h9 : ((es.map Ent.me).modify j fun x => { x with key := MK.kv e.k }) = es.map Ent.me := by simpa using congrArg Array.toList hmod
      rw [h9]
    · have e1 := (MapKept.heap_set (o' := .map (es.map Ent.me).toArray clock) hb).1
      simp only [h6, Option.isSome_some, if_true]
      exact e1
    all_goals simp only [h6, Option.isSome_some, if_true]
    · exact h2
    · exact h3
    · exact h4
    · exact h5
    · exact (hlook_some h6).1
/-- a value stored at that place -/
theorem HM.estore {t : TypeId} {e : Ent K} (hm : HM w b es) (he : e ∈ es) (v : Value) :
    ∃ w', (Instr.entryStore t (.map (some b)) (.int .i64 (e.b : Int)) v).run Try.prog w = .ok () w' ∧ HM w' b (es.map (fun x => if x.k = e.k then { x with v := v } else x)) ∧ w.grownBy w' (some b) ∧ w'.heap.size = w.heap.size := by
  obtain ⟨clock, hb, h2, h3, h4, h5⟩ := hm
  obtain ⟨j, hj, hej⟩ := List.mem_iff_getElem.1 he
  have hfi : (es.map Ent.me).toArray.findIdx? (fun x => (x.born : Int) == (e.b : Int)) = some j := by
    rw [List.findIdx?_toArray, List.findIdx?_eq_some_iff_getElem]
    refine ⟨by simpa using hj, ?_, ?_⟩
    · simp [hej, Ent.me]
    · intro i hi
      have hi' : i < es.length := by omega
      simp only [List.getElem_map, Ent.me]
      have hp := List.pairwise_iff_getElem.1 (List.nodup_iff_pairwise_ne.1 h3) i j (by simpa using hi') (by simpa using hj) hi
      simp [hej] at hp
      simp; omega
  have h7 : es[j]? = some e := by rw [List.getElem?_eq_getElem hj, hej]
  have hmod := modify_me v h4 h7
  have hmod2 : ((es.map Ent.me).toArray.modify j fun x => { x with val := v }) = ((es.map (fun x => if x.k = e.k then { x with v := v } else x)).map Ent.me).toArray := by
    rw [← hmod]
    apply Array.ext
    · simp
    · intro i h1 h2
      rw [Array.getElem_modify, Array.getElem_modify]
      split
      · rename_i hij; subst hij; simp [hej, Ent.me]
      · rfl
  refine ⟨setBlock w b (.map ((es.map Ent.me).toArray.modify j fun x => { x with val := v }) clock), ?_, ⟨clock, ?_, ?_, ?_, ?_, ?_⟩, grown_setBlock hb _, by simp [setBlock]⟩
  · have ha : (asInt (.int .i64 (e.b : Int))).run Try.prog w = .ok (e.b : Int) w := by simp [asInt, asIntOf]
    simp only [Instr.entryStore, MapKept.run_getObj_map hb, Sem.run_bind, Result.andThen, ha, hfi]
    exact MapKept.run_setObj_map _ hb
  · have e1 := (MapKept.heap_set (o' := .map ((es.map Ent.me).toArray.modify j fun x => { x with val := v }) clock) hb).1
    rw [show (setBlock w b (.map ((es.map Ent.me).toArray.modify j fun x => { x with val := v }) clock)).heap[b]? = _ from e1, hmod2]
  · intro x hx
    obtain ⟨y, hy, rfl⟩ := List.mem_map.1 hx
    have := h2 y hy
    split <;> exact this
  · rw [map_borns]; exact h3
  · rw [map_keys]; exact h4
  · intro x hx
    obtain ⟨y, hy, rfl⟩ := List.mem_map.1 hx
    have := h5 y hy
    split <;> exact this

/-- a range under way: those entries are left -/
def HMR [MK K] (w : World) (b r : Nat) (es left : List (Ent K)) : Prop :=
  ∃ clock seen, w.heap[b]? = some (.map (es.map Ent.me).toArray clock) ∧ w.heap[r]? = some (.mapIter (some b) clock seen clock) ∧ left = es.filter (fun e => !seen.contains e.b) ∧ (∀ e ∈ es, e.b < clock) ∧ (es.map (·.b)).Nodup ∧ (es.map (·.k)).Nodup ∧ ∀ e ∈ es, MK.ok e.k
theorem HMR.hm {r : Nat} {left : List (Ent K)} (hr : HMR w b r es left) : HM w b es := by
  obtain ⟨clock, seen, h1, _, _, h2⟩ := hr
  exact ⟨clock, h1, h2⟩
theorem HMR.same {r : Nat} {left : List (Ent K)} (hr : HMR w b r es left) (hb : w'.heap[b]? = w.heap[b]?) (hi : w'.heap[r]? = w.heap[r]?) : HMR w' b r es left := by
  obtain ⟨clock, seen, h1, h2, h3⟩ := hr
  exact ⟨clock, seen, hb.trans h1, hi.trans h2, h3⟩
theorem HMR.lt {r : Nat} {left : List (Ent K)} (hr : HMR w b r es left) : b < w.heap.size ∧ r < w.heap.size ∧ b ≠ r := by
  obtain ⟨clock, seen, h1, h2, h3⟩ := hr
  refine ⟨(Array.getElem?_eq_some_iff.1 h1).1, (Array.getElem?_eq_some_iff.1 h2).1, ?_⟩
  rintro rfl
  rw [h1] at h2
  cases h2
theorem HM.range {t E : TypeId} (hm : HM w b es) (ht : Try.prog.underlying t = some (.map (MK.kt K) E)) :
    ∃ w', (Instr.range t (.map (some b))).run Try.prog w = .ok (.pointer (some ⟨w.heap.size, 0, none⟩)) w' ∧ HMR w' b w.heap.size es es ∧ Below w.heap.size w w' ∧ w'.heap.size = w.heap.size + 1 := by
  have hlt := hm.lt
  obtain ⟨clock, hb, h2, h3, h4, h5⟩ := hm
  refine ⟨_, run_range_map w t (MK.kt K) E b _ clock ht hb, ⟨clock, #[], (Below.heap_alloc w _ b hlt).trans hb, heap_alloc_new w _, by symm; exact List.filter_eq_self.2 (by simp), h2, h3, h4, h5⟩, (Below.refl _ w).alloc (Nat.le_refl _) _, by simp⟩
theorem filter_seen (es : List (Ent K)) (seen : Array Nat) : (leftOf (es.map Ent.me).toArray seen).toList = (es.filter (fun e => !seen.contains e.b)).map Ent.me := by
  unfold leftOf
  rw [Array.toList_filter]
  show (es.map Ent.me).filter _ = _
  rw [List.filter_map]
  rfl
theorem perm_out {e : Ent K} : ∀ (l : List (Ent K)), (l.map (·.b)).Nodup → e ∈ l → l.Perm (e :: l.filter (fun x => x.b != e.b))
  | [], _, h => by cases h
  | x :: l, hn, he => by
    simp only [List.map_cons, List.nodup_cons] at hn
    rcases List.mem_cons.1 he with rfl | he
    · have e1 : (e :: l).filter (fun x => x.b != e.b) = l := by
        rw [List.filter_cons, if_neg (by simp)]
        refine List.filter_eq_self.2 fun y hy => ?_
        have : y.b ≠ e.b := fun hc => hn.1 (List.mem_map.2 ⟨y, hy, hc⟩)
        simpa using this
      rw [e1]
    · have hne : x.b ≠ e.b := fun hc => hn.1 (List.mem_map.2 ⟨e, he, hc.symm⟩)
      rw [List.filter_cons, if_pos (by simpa using hne)]
      exact ((perm_out l hn.2 he).cons x).trans (List.Perm.swap e x _)
/-- the step -/
theorem HMR.next {r : Nat} {left : List (Ent K)} (hr : HMR w b r es left) (ty : TypeId) :
    (left = [] ∧ (Instr.next (.pointer (some ⟨r, 0, none⟩)) false ty).run Try.prog w = .ok (.tuple #[.bool false]) w) ∨
    ∃ e left' w', e ∈ left ∧ left.Perm (e :: left') ∧ (Instr.next (.pointer (some ⟨r, 0, none⟩)) false ty).run Try.prog w = .ok (.tuple #[.bool true, MK.kv e.k, e.v]) w' ∧ HMR w' b r es left' ∧ w.grownBy w' (some r) ∧ w'.heap.size = w.heap.size ∧ (Instr.entry (.pointer (some ⟨r, 0, none⟩))).run Try.prog w' = .ok (.tuple #[MK.kv e.k, e.v]) w' := by
  have hne := hr.lt.2.2
  obtain ⟨clock, seen, hb, hi, hl, h2, h3, h4, h5⟩ := hr
  rcases run_next_at (P := Try.prog) w ty r b clock clock seen _ clock hi hb (by
    intro x hx
    simp only [List.mem_map] at hx
    obtain ⟨e, he, rfl⟩ := hx
    exact h2 e he) (Nat.le_refl _) with ⟨h6, h7⟩ | ⟨x, hx, w1, hw1, hrun⟩
  · refine .inl ⟨?_, h7⟩
    have := filter_seen es seen
    rw [← hl] at this
    have hz : (leftOf (es.map Ent.me).toArray seen).toList.length = 0 := by simpa using h6
    rw [this] at hz
    simpa using hz
  · rw [filter_seen, ← hl] at hx
    obtain ⟨e, he, rfl⟩ := List.mem_map.1 hx
    have hb1 : w1.heap[b]? = some (.map (es.map Ent.me).toArray clock) := by rcases hw1 with rfl | rfl <;> exact hb
    have hr1 : w1.heap[r]? = some (.mapIter (some b) clock seen clock) := by rcases hw1 with rfl | rfl <;> exact hi
    have hset := MapKept.heap_set (o' := .mapIter (some b) clock (seen.push e.me.born) clock) hr1
    have hee : e ∈ es := by rw [hl] at he; exact (List.mem_filter.1 he).1
    refine .inr ⟨e, es.filter (fun x => !(seen.push e.b).contains x.b), _, he, ?_, hrun, ⟨clock, seen.push e.b, (hset.2 b hne).trans hb1, hset.1, rfl, h2, h3, h4, h5⟩, ?_, ?_, ?_⟩
    · have hnd : (left.map (·.b)).Nodup := by
        rw [hl]
        exact List.Nodup.sublist (List.Sublist.map _ List.filter_sublist) h3
      have e1 : es.filter (fun x => !(seen.push e.b).contains x.b) = left.filter (fun x => x.b != e.b) := by
        rw [hl, List.filter_filter]
        apply List.filter_congr
        intro x _
        by_cases h1 : x.b ∈ seen <;> by_cases h2 : x.b = e.b <;> simp [h1, h2]
      rw [e1]
      exact perm_out left hnd he
    · rcases hw1 with rfl | rfl
      · exact ⟨rfl, rfl, rfl, by simp [setBlock], fun i _ hi => hset.2 i (fun e => hi (by rw [e]))⟩
      · exact ⟨rfl, rfl, rfl, by simp [setBlock], fun i _ hi => hset.2 i (fun e => hi (by rw [e]))⟩
    · rcases hw1 with rfl | rfl <;> simp [setBlock]
    · exact run_entry_at _ r b clock seen _ clock e.me hset.1 ((hset.2 b hne).trans hb1) (List.mem_map.2 ⟨e, hee, rfl⟩) (by simpa [List.map_map, Function.comp_def, Ent.me] using h3)
end
end Go.Proofs.Ytjcihaohpbmogaa.Oct
