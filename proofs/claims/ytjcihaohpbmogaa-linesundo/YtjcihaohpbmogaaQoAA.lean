/-
  Blocks of memory told as lists of cells: what stores, loads and whole arrays do to them. Of no program.
  Rows of cells that are read, and 'append' to a row that is full or the call's own. Of no program.
-/
import Derived.WalkKit
import Derived.Below
import Derived.Deep.MidRow
import Derived.Deep.Draws
import Derived.Laws.CopyOwn
import Derived.Deep.DeepAppendWide
import Derived.Deep.RegionHeldLaw
import Derived.Laws.AppendOwn
import Derived.Laws.AppendOwnNone
import Derived.ProofKit
/- Blocks of memory told as lists of cells: what stores, loads and whole arrays do to them. Of no program. -/
namespace Go.Proofs.Ytjcihaohpbmogaa.Oct
open Go.RowKit
set_option maxRecDepth 100000

/-- block b holds just the cells L, none of them frozen -/
def Blk (w : World) (b : Nat) (t : TypeId) (L : List Value) : Prop := w.heap[b]? = some (.cells L.toArray t (0, 0))

section
variable {w w' : World} {b : Nat} {t : TypeId} {L : List Value}
theorem Blk.lt (h : Blk w b t L) : b < w.heap.size := lt_of_block h
theorem Blk.cell (h : Blk w b t L) {i : Nat} {v : Value} (hv : L[i]? = some v) : w.cell? ⟨b, i, none⟩ = some v := by
  rw [cell_of_row w b i _ t (0, 0) h, List.getElem?_toArray]; exact hv
theorem Blk.free (h : Blk w b t L) (i : Nat) : w.frozen? ⟨b, i, none⟩ = false := frozen_of_row w b i _ t h
theorem Blk.drewN (h : Blk w b t L) (n : Nat) : Blk (w.drewN n) b t L := h
theorem Blk.drew (h : Blk w b t L) : Blk w.drew b t L := h
theorem Blk.set (h : Blk w b t L) (i : Nat) (v : Value) : Blk (w.setCell ⟨b, i, none⟩ v) b t (L.set i v) := by
  have := heap_setCell_same w b i _ t v h
  unfold Blk
  rw [this]
  simp
theorem Blk.other (h : Blk w b t L) {a : Addr} (hne : b ≠ a.block) (v : Value) : Blk (w.setCell a v) b t L := by
  unfold Blk; rw [heap_setCell_other w a b v hne]; exact h
theorem Blk.below {B : Nat} (h : Blk w b t L) (hb : Below B w w') (hB : b < B) : Blk w' b t L := (hb.block b hB).trans h
theorem Blk.kept {row : Option Nat} (h : Blk w b t L) (hg : w.grownBy w' row) (hne : some b ≠ row) : Blk w' b t L := (hg.block b h.lt hne).trans h
theorem Blk.new (w : World) (C : Array Value) (t : TypeId) : Blk (w.alloc (.cells C t)) w.heap.size t C.toList := by
  unfold Blk; rw [heap_alloc_new]
theorem Blk.alloc (h : Blk w b t L) (o : Obj) : Blk (w.alloc o) b t L := (Below.heap_alloc w o b h.lt).trans h
theorem Blk.range (h : Blk w b t L) (o n : Nat) : w.rangeAt b o ((L.drop o).take n) := by
  intro j v hj
  rw [List.getElem?_take] at hj
  split at hj
  · rw [List.getElem?_drop] at hj
    exact h.cell hj
  · cases hj
theorem Blk.there (h : Blk w b t L) (o n : Nat) (hn : o + n ≤ L.length) : w.there b o n := by
  intro j hj
  exact ⟨by rw [h.cell (List.getElem?_eq_getElem (by omega))]; rfl, h.free _⟩
end

/-- a row of cells of elements of a type -/
def RowT (w : World) (e : TypeId) (g : Nat) : Prop := ∃ cs fr, w.heap[g]? = some (.cells cs e fr)
theorem RowT.lt {w : World} {e : TypeId} {g : Nat} (h : RowT w e g) : g < w.heap.size := by
  obtain ⟨cs, fr, h⟩ := h
  exact (Array.getElem?_eq_some_iff.1 h).1
theorem RowT.same {w w' : World} {e : TypeId} {g : Nat} (h : RowT w e g) (hs : w'.heap[g]? = w.heap[g]?) : RowT w' e g := by
  obtain ⟨cs, fr, h⟩ := h
  exact ⟨cs, fr, hs.trans h⟩
theorem Blk.row {w : World} {b : Nat} {t : TypeId} {L : List Value} (h : Blk w b t L) : RowT w t b := ⟨_, _, h⟩
theorem grown_setCell (w : World) (b i : Nat) (v : Value) : w.grownBy (w.setCell ⟨b, i, none⟩ v) (some b) :=
  ⟨rfl, rfl, rfl, by simp, fun k _ hne => heap_setCell_other w ⟨b, i, none⟩ k v (fun e => hne (by rw [e]))⟩
theorem grown_tr {w w1 w2 : World} {row : Option Nat} (h : w.grownBy w1 row) (k : w1.grownBy w2 row) : w.grownBy w2 row :=
  ⟨k.os.trans h.os, k.tape.trans h.tape, k.output.trans h.output, Nat.le_trans h.size k.size, fun b hb hne => (k.block b (Nat.lt_of_lt_of_le hb h.size) hne).trans (h.block b hb hne)⟩
theorem grown_drewN (w : World) (n : Nat) (row : Option Nat) : w.grownBy (w.drewN n) row := ⟨rfl, rfl, rfl, Nat.le_refl _, fun _ _ _ => rfl⟩

/-- several cells written one behind the other -/
theorem Blk.setCells {b : Nat} {t : TypeId} : ∀ (vs : List Value) (o : Nat) (w : World) (L : List Value), Blk w b t L → o + vs.length ≤ L.length →
    Blk (w.setCells b o vs) b t (L.take o ++ vs ++ L.drop (o + vs.length)) ∧ w.grownBy (w.setCells b o vs) (some b)
  | [], o, w, L, h, _ => by
    refine ⟨?_, World.grownBy.refl _ _⟩
    simpa [World.setCells] using h
  | v :: vs, o, w, L, h, hl => by
    have ih := Blk.setCells vs (o + 1) (w.setCell ⟨b, o, none⟩ v) (L.set o v) (h.set o v) (by simp at *; omega)
    simp only [World.setCells]
    refine ⟨?_, grown_tr (grown_setCell w b o v) ih.2⟩
    have e : (L.set o v).take (o + 1) ++ vs ++ (L.set o v).drop (o + 1 + vs.length) = L.take o ++ (v :: vs) ++ L.drop (o + (v :: vs).length) := by
      have hlt : o < L.length := by simp at hl; omega
      have e0 : L.set o v = L.take o ++ v :: L.drop (o + 1) := by rw [List.set_eq_take_append_cons_drop, if_pos hlt]
      have e1 : (L.set o v).take (o + 1) = L.take o ++ [v] := by
        rw [e0, List.take_append, List.length_take, Nat.min_eq_left (by omega), show o + 1 - o = 1 by omega, List.take_of_length_le (by simp; omega)]; rfl
      rw [e1, List.drop_set_of_lt (by omega), show o + 1 + vs.length = o + (v :: vs).length by simp; omega]
      simp
    rw [← e]
    exact ih.1

/-- a whole array stored into a block -/
theorem wpList_store_blk {P : Program} {ops : Array Oper} {rest : List Oper} {op : Oper} {a : Act} {w : World} {Q : Exit → Act → World → Prop} (hgd : op.guard = none) (ty : TypeId) (x y : Operand) (ho : op.op = .store ty x y)
    (b o : Nat) (t : TypeId) (L : List Value) (cells : List Value) (hx : a.eval x = .pointer (some ⟨b, o, none⟩)) (hy : a.eval y = .agg cells.toArray)
    (hb : Blk w b t L) (hl : o + cells.length ≤ L.length) (hi : (P.info? ty).map (·.size) = some cells.length) (h1 : ∀ v ∈ cells, v.oneCell' = true)
    (h : ∀ w', Hid (Blk w' b t (L.take o ++ cells ++ L.drop (o + cells.length))) → Hid (w.grownBy w' (some b)) → wpList P ops Q rest (a.put op.dst undef) w') : wpList P ops Q (op :: rest) a w := by
  refine wpList_store_mid hgd ty x y ho b o cells.toArray hx hy (by simpa using hb.there o cells.length hl) (by simpa using hi) (all_oneCell_toArray h1) ?_
  have e := Blk.setCells cells o w L hb hl
  exact h _ e.1 e.2

end Go.Proofs.Ytjcihaohpbmogaa.Oct

/- Rows of cells that are read, and 'append' to a row that is full or the call's own. Of no program. -/
namespace Go.Proofs.Ytjcihaohpbmogaa.Oct
open Go.RowKit
set_option maxRecDepth 100000

/-- a slice of n elements of sz cells each: the cells cs -/
def Rd (w : World) (e sz : Nat) (a : Option Addr) (n : Nat) (cs : List Value) : Prop :=
  cs.length = n * sz ∧ (∀ u ∈ cs, u.oneCell' = true) ∧ (0 < n → ∃ g off, a = some ⟨g, off, none⟩ ∧ RowT w e g ∧ ∀ j u, cs[j]? = some u → w.cell? ⟨g, off + j, none⟩ = some u)
theorem Rd.below {w w' : World} {B e sz : Nat} {a : Option Addr} {n : Nat} {cs : List Value} (h : Rd w e sz a n cs) (hb : Below B w w') (hB : w.heap.size ≤ B) : Rd w' e sz a n cs := by
  refine ⟨h.1, h.2.1, fun hp => ?_⟩
  obtain ⟨g, off, e, h1, h2⟩ := h.2.2 hp
  have hgl := h1.lt
  exact ⟨g, off, e, h1.same (hb.block g (by omega)), fun i b hi => (hb.cell (p := ⟨g, _, none⟩) (by show g < B; omega)).trans (h2 i b hi)⟩
theorem Rd.take {w : World} {e sz : Nat} {a : Option Addr} {n : Nat} {cs : List Value} (h : Rd w e sz a n cs) {i : Nat} (hi : i ≤ n) : Rd w e sz a i (cs.take (i * sz)) := by
  refine ⟨by rw [List.length_take, h.1]; exact Nat.min_eq_left (Nat.mul_le_mul_right _ hi), fun u hu => h.2.1 u (List.mem_of_mem_take hu), fun hp => ?_⟩
  obtain ⟨g, off, e, h1, h2⟩ := h.2.2 (by omega)
  refine ⟨g, off, e, h1, fun j u hu => h2 j u ?_⟩
  rw [List.getElem?_take] at hu
  split at hu
  · exact hu
  · cases hu
theorem Rd.drop {w : World} {e sz : Nat} {g off n : Nat} {cs : List Value} (h : Rd w e sz (some ⟨g, off, none⟩) n cs) {j : Nat} (hj : j ≤ n) : Rd w e sz (some ⟨g, off + j * sz, none⟩) (n - j) (cs.drop (j * sz)) := by
  refine ⟨by rw [List.length_drop, h.1, Nat.sub_mul], fun u hu => h.2.1 u (List.mem_of_mem_drop hu), fun hp => ?_⟩
  obtain ⟨g', off', e, h1, h2⟩ := h.2.2 (by omega)
  cases e
  refine ⟨g, _, rfl, h1, fun k u hk => ?_⟩
  rw [List.getElem?_drop] at hk
  rw [Nat.add_assoc]
  exact h2 _ u hk
theorem Rd.nil (w : World) (e sz : Nat) (a : Option Addr) : Rd w e sz a 0 [] := ⟨by simp, by simp, fun h => absurd h (by omega)⟩
/-- a slice's address, or none of a slice without room -/
def Ad (a : Option Addr) (cap : Nat) : Prop := (a = none ∧ cap = 0) ∨ ∃ g off, a = some ⟨g, off, none⟩
/-- what may be appended to: a full row that is read, or one of the call's own -/
def Bs (e sz B : Nat) (w : World) (v : Value) (n : Nat) (cs : List Value) : Prop := (∃ a, v = .slice a n n ∧ Rd w e sz a n cs ∧ Ad a n) ∨ ((∀ u ∈ cs, u.oneCell' = true) ∧ w.ownsRow B e sz v n cs)
theorem Bs.read {e sz B : Nat} {w : World} {v : Value} {n : Nat} {cs : List Value} (h : Bs e sz B w v n cs) : ∃ a cap, v = .slice a n cap ∧ n ≤ cap ∧ Rd w e sz a n cs ∧ Ad a cap := by
  rcases h with ⟨a, rfl, h, h0⟩ | ⟨h1, h⟩
  · exact ⟨a, n, rfl, Nat.le_refl _, h, h0⟩
  · rcases h.2 with ⟨rfl, rfl⟩ | ⟨g, cap, cur, rfl, hB, hb, hn, _, _, ht⟩
    · exact ⟨none, 0, rfl, Nat.le_refl _, ⟨h.1, h1, fun hp => absurd hp (by omega)⟩, .inl ⟨rfl, rfl⟩⟩
    · refine ⟨_, cap, rfl, hn, ⟨h.1, h1, fun _ => ⟨g, 0, rfl, ⟨_, _, hb⟩, fun j u hu => ?_⟩⟩, .inr ⟨g, 0, rfl⟩⟩
      rw [Nat.zero_add, cell_of_row w g j _ e (0, 0) hb]
      rw [← ht, List.getElem?_take] at hu
      split at hu
      · simpa using hu
      · cases hu
/-- nothing appended -/
theorem run_append_zero {P : Program} (w : World) (t ty e : TypeId) (i : TypeInfo) (ht : P.underlying t = some (.slice e)) (hi : P.info? e = some i) (a o : Option Addr) (n cap c : Nat) (hn : n ≤ cap) :
    (Builtin.append_ #[t, t] ty #[.slice a n cap, .slice o 0 c]).run P w = .ok (.slice a n cap) w := by
  cases o with
  | none =>
    cases a with
    | none => simp [Builtin.append_, run_underlying ht, sizeOf, typeInfo, hi, Builtin.lenOf, Builtin.firstCells, hn]
    | some a => simp [Builtin.append_, run_underlying ht, sizeOf, typeInfo, hi, Builtin.lenOf, Builtin.firstCells, hn, storeCells]
  | some o =>
    cases a with
    | none => simp [Builtin.append_, run_underlying ht, sizeOf, typeInfo, hi, Builtin.lenOf, Builtin.firstCells, hn, loadCells, loadCellsFrom]
    | some a => simp [Builtin.append_, run_underlying ht, sizeOf, typeInfo, hi, Builtin.lenOf, Builtin.firstCells, hn, loadCells, loadCellsFrom, storeCells]
theorem own_of_grown {w : World} {B e sz n m old : Nat} {z : Value} {xs news : List Value} (hz : z.cells.size = sz) (hx : xs.length = n * sz) (hl : news.length = m * sz) (hB : B ≤ w.heap.size) (h63 : n + m ≤ maxLen) :
    (w.drew.alloc (.cells (xs.toArray ++ news.toArray ++ Builtin.zeroCells z.cells (grownCap w (n + m) old e - (n + m))) e)).ownsRow B e sz (.slice (some ⟨w.heap.size, 0, none⟩) (n + m) (grownCap w (n + m) old e)) (n + m) (xs ++ news) := by
  have hge := grownCap_ge w (n + m) old e
  have hcm : grownCap w (n + m) old e ≤ maxLen := grownCap_le_maxLen w (n + m) old e h63
  have hlen : (xs ++ news).length = (n + m) * sz := by rw [List.length_append, hx, hl, Nat.add_mul]
  refine ⟨hlen, .inr ⟨w.heap.size, _, _, rfl, hB, heap_alloc_new w.drew _, hge, hcm, ?_, ?_⟩⟩
  · simp only [Array.size_append, List.size_toArray, size_zeroCells, hx, hl, hz, ← Nat.add_mul]
    congr 1
    omega
  · simp only [Array.toList_append, List.append_assoc]
    rw [← List.append_assoc, ← hlen]
    exact List.take_left
theorem run_append_bs {P : Program} (w : World) (t ty e : TypeId) (i : TypeInfo) (z : Value) (sz B : Nat) (ht : P.underlying t = some (.slice e)) (hi : P.info? e = some i) (hz : i.zero = some z) (hs : i.size = sz) (hby : i.bytes ≤ 64) (hzs : z.cells.size = sz) (hsz : 0 < sz)
    (v : Value) (n : Nat) (cs : List Value) (h : Bs e sz B w v n cs) (o : Option Addr) (q c : Nat) (qs : List Value) (ho : Rd w e sz o q qs) (hB : B ≤ w.heap.size) (hn : n + q ≤ 100000000000) :
    ∃ v' w', (Builtin.append_ #[t, t] ty #[v, .slice o q c]).run P w = .ok v' w' ∧ Bs e sz B w' v' (n + q) (cs ++ qs) ∧ Below B w w' := by
  have hone : ∀ u ∈ cs ++ qs, u.oneCell' = true := by
    have h1 : ∀ u ∈ cs, u.oneCell' = true := by
      rcases h with ⟨_, _, h, _⟩ | ⟨h, _⟩
      · exact h.2.1
      · exact h
    intro u hu
    rcases List.mem_append.1 hu with hu | hu
    · exact h1 u hu
    · exact ho.2.1 u hu
  have hbb : ∀ m, m ≤ 100000000000 → (m + m / 4 + 192) * i.bytes ≤ 281474976710656 := fun m hm => by
    refine Nat.le_trans (Nat.mul_le_mul_left _ hby) ?_
    omega
  by_cases hq : q = 0
  · subst hq
    have hqs : qs = [] := List.eq_nil_of_length_eq_zero (by rw [ho.1]; omega)
    subst hqs
    obtain ⟨a, cap, rfl, hnc, _⟩ := h.read
    exact ⟨_, w, run_append_zero w t ty e i ht hi a o n cap c hnc, by simpa using h, Below.refl _ _⟩
  · obtain ⟨g2, off2, rfl, _, hq2⟩ := ho.2.2 (by omega)
    have hnews : ∀ j u, qs[j]? = some u → w.cell? ((⟨g2, off2, none⟩ : Addr).add j) = some u := fun j u hu => by rw [Addr.add_lit]; exact hq2 j u hu
    rcases h with ⟨a, rfl, h, hnone⟩ | ⟨_, h⟩
    · cases a with
      | none =>
        have h0 : n = 0 := by
          rcases hnone with ⟨_, h⟩ | ⟨_, _, h⟩
          · exact h
          · cases h
        subst h0
        have hcs : cs = [] := List.eq_nil_of_length_eq_zero (by rw [h.1]; omega)
        subst hcs
        have hr := run_append_nil (P := P) w t ty e i z ht hi hz ⟨g2, off2, none⟩ q c qs (by rw [hs]; exact ho.1) hnews (by omega) (by omega) (Nat.le_trans (Nat.mul_le_mul_right _ (by omega)) (hbb q (by omega)))
        have hw := own_of_grown (w := w) (B := B) (e := e) (n := 0) (m := q) (old := 0) (xs := []) hzs (by simp) ho.1 hB (by unfold maxLen; omega)
        simp only [Nat.zero_add, List.nil_append, Array.empty_append] at hw ⊢
        exact ⟨_, _, hr, .inr ⟨by simpa using hone, hw⟩, (Below.refl B w).drew.alloc hB _⟩
      | some a =>
        have hol : ∀ j u, cs[j]? = some u → w.cell? (a.add j) = some u := fun j u hu => by
          have hlt : 0 < n := by
            have := (List.getElem?_eq_some_iff.1 hu).1
            rw [h.1] at this
            exact Nat.pos_of_ne_zero (fun e => by subst e; omega)
          obtain ⟨g, off, e, _, h2⟩ := h.2.2 hlt
          cases e
          rw [Addr.add_lit]; exact h2 j u hu
        have hr := run_append_grow (P := P) w t ty e i z ht hi hz a n n cs (by rw [hs]; exact h.1) hol ⟨g2, off2, none⟩ q c qs (by rw [hs]; exact ho.1) hnews (by omega) (by omega) (growslice_fits_wide (by omega) (hbb _ hn))
        exact ⟨_, _, hr, .inr ⟨hone, own_of_grown hzs h.1 ho.1 hB (by unfold maxLen; omega)⟩, (Below.refl B w).drew.alloc hB _⟩
    · obtain ⟨v', w', hr, h2, h3, _⟩ := run_append_own_wide (P := P) w B t ty e i z sz i.bytes ht hi hz hs rfl hzs hsz v n cs h ⟨g2, off2, none⟩ q c qs ho.1 hnews ho.2.1 (by unfold maxLen; omega) (hbb _ hn) hB
      refine ⟨v', w', hr, .inr ⟨hone, h2⟩, ⟨h3.os, h3.tape, h3.output, h3.size, fun k hk => h3.block k (by omega) fun e => ?_⟩⟩
      have := (h.lt k e.symm).1
      omega
theorem step_append_bs {P : Program} {ops : Array Oper} {o : Oper} {a : Act} {K : Act → World → Prop} {Q : Exit → Act → World → Prop} {E : Prop} (hw : Region.wanted o (yielded ops a.tmps) = true) (dd : Tmp) (hdd : o.dst = some dd) (s x : Operand) (t : TypeId)
    (hop : o.op = .call { callee := .builtin .append, args := #[s, x], argTypes := #[t, t] }) (w : World) (e : TypeId) (i : TypeInfo) (z : Value) (sz B : Nat) (ht : P.underlying t = some (.slice e)) (hi : P.info? e = some i) (hz : i.zero = some z) (hs : i.size = sz) (hby : i.bytes ≤ 64) (hzs : z.cells.size = sz) (hsz : 0 < sz)
    (v : Value) (n : Nat) (cs : List Value) (h : Bs e sz B w v n cs) (ao : Option Addr) (q c : Nat) (qs : List Value) (hsv : a.eval s = v) (hx : a.eval x = .slice ao q c) (ho : Rd w e sz ao q qs) (hB : B ≤ w.heap.size) (hn : n + q ≤ 100000000000)
    (hk : ∀ v' w', Hid (Bs e sz B w' v' (n + q) (cs ++ qs)) → Hid (Below B w w') → K (a.put (some dd) v') w') : if Region.wanted o (yielded ops a.tmps) = true then Oper.wp P o a w K Q else E := by
  rw [if_pos hw]
  obtain ⟨v', w', hr, h2, h3⟩ := run_append_bs (P := P) w t o.type e i z sz B ht hi hz hs hby hzs hsz v n cs h ao q c qs ho hB hn
  unfold Oper.wp execOp
  simp only [hop, resolve, invoke, builtin, Sem.run_bind, Sem.run_pure, Result.andThen_ok, List.map_toArray, List.map_cons, List.map_nil, hsv, hx, hr]
  rw [← hdd] at hk
  exact hk v' w' h2 h3
end Go.Proofs.Ytjcihaohpbmogaa.Oct
